package vehicle

import "wainwright/api"

// twin is there since what was handed in may not be changed, and no answer may share memory with it: a happening changes a vehicle that is its own, to the last list.
func twin(v api.Vehicle) api.Vehicle {
	v.B = twinBook(v.B)
	v.S = copied(v.S)
	v.G = twinGate(v.G)
	v.Units = copiedBy(v.Units, func(u api.Unit) api.Unit {
		u.F = twinFlash(u.F)
		return u
	})
	v.Campaigns = copiedBy(v.Campaigns, twinCampaign)
	v.Net = copiedBy(v.Net, twinMessage)
	return v
}

func twinBook(b api.Book) api.Book {
	return api.Book{Texts: copied(b.Texts)}
}

func twinFlash(f api.Flash) api.Flash {
	f.Words = copied(f.Words)
	return f
}

func twinGate(g api.Gate) api.Gate {
	g.F = twinFlash(g.F)
	g.T.R.Keys = copied(g.T.R.Keys)
	g.Voted = copied(g.Voted)
	g.Did = copied(g.Did)
	return g
}

func twinCampaign(c api.Campaign) api.Campaign {
	c.R.Targets = copied(c.R.Targets)
	c.Images = copiedBy(c.Images, func(image []int) []int { return copied(image) })
	return c
}

func twinMessage(m api.Message) api.Message {
	m.Words = copied(m.Words)
	return m
}

// copied makes memory even of nothing: slices.Clone would hand out the old list's place.
func copied[T any](l []T) []T {
	own := make([]T, len(l))
	copy(own, l)
	return own
}

// copiedBy is for lists whose elements have lists of their own.
func copiedBy[T any](l []T, one func(T) T) []T {
	own := make([]T, len(l))
	for i, x := range l {
		own[i] = one(x)
	}
	return own
}
