package unit

import (
	"math/rand"
	"slices"
	"testing"

	"wainwright/api"
)

// plain is a unit without a flash and a log: slots as they are filled and sealed, and numbers. Power that goes is told to it from without.
type plain struct {
	slots          [2][64]int
	slot           int
	by, ready      int
	up             bool
	n, have        int
	images         [][]int // by name, from 1 on
	sealed, turned int     // how often that came to be
}

func (p *plain) other() *[64]int { return &p.slots[1-p.slot] }

func (p *plain) burn(at int, words ...int) {
	for i, w := range words {
		p.other()[at+i] &= w
	}
}

// hear is chapter 6's Hear of a power that doesn't go.
func (p *plain) hear(m api.Message) []api.Message {
	if !p.up {
		return nil
	}
	switch m.Kind {
	case api.Piece:
		return p.hearPiece(m)
	case api.Prepare:
		return p.hearPrepare(m)
	case api.Commit:
		return p.hearCommit(m)
	case api.Abort:
		return p.hearAbort(m)
	}
	return nil
}

func (p *plain) hearPiece(m api.Message) []api.Message {
	if p.ready > 0 || p.by >= m.N {
		return nil
	}
	none := p.n != m.N || p.have == 0
	if none && m.At == 0 {
		for i := range p.other() {
			p.other()[i] = erased
		}
		p.n, p.have = m.N, 0
	}
	if p.n == m.N && p.have == m.At && m.At+len(m.Words) <= 40 {
		p.burn(4+m.At, m.Words...)
		p.have += len(m.Words)
	}
	return nil
}

func (p *plain) hearPrepare(m api.Message) []api.Message {
	answer := func(kind int, yes bool) []api.Message {
		return []api.Message{{Kind: kind, Unit: m.Unit, N: m.N, Yes: yes}}
	}
	switch {
	case m.N <= p.by:
		return answer(api.Done, false)
	case p.ready == m.N:
		return answer(api.Vote, true)
	case p.ready > 0, p.n != m.N, p.have != m.At, m.Image < 1, m.Image > len(p.images),
		!slices.Equal(p.images[m.Image-1], p.other()[4:4+m.At]):
		return answer(api.Vote, false)
	}
	p.n, p.have = 0, 0
	p.burn(0, headWritten(m.At, m.Image)...)
	if !slices.Equal(p.other()[:4], headWritten(m.At, m.Image)) {
		return answer(api.Vote, false)
	}
	p.ready = m.N
	p.sealed++
	return answer(api.Vote, true)
}

func (p *plain) hearCommit(m api.Message) []api.Message {
	if p.by != m.N && p.ready != m.N {
		return nil
	}
	if p.by != m.N {
		p.slot, p.by, p.ready = 1-p.slot, m.N, 0
		p.turned++
	}
	return []api.Message{{Kind: api.Done, Unit: m.Unit, N: m.N}}
}

func (p *plain) hearAbort(m api.Message) []api.Message {
	if m.N <= p.by {
		return nil
	}
	if p.ready == m.N {
		p.ready = 0
	}
	if p.n == m.N {
		p.n, p.have = 0, 0
	}
	return []api.Message{{Kind: api.Done, Unit: m.Unit, N: m.N}}
}

// lose is what the power's going does: of the message nothing lasts, but in the slot that doesn't run.
func (p *plain) lose(ahead plain, f api.Flash) {
	*p = ahead
	p.up, p.n, p.have = false, 0, 0
	copy(p.other()[:], f.Words[starts[1-p.slot]:])
}

// wantLike holds a unit against the plain one.
func wantLike(t *testing.T, u api.Unit, p *plain) {
	t.Helper()
	wantState(t, "like the plain one", u, api.UnitState{Slot: p.slot, By: p.by, Ready: p.ready})
	if u.Up != p.up || u.N != p.n || u.Have != p.have {
		t.Errorf("up %v, N %d, Have %d, want %v, %d, %d", u.Up, u.N, u.Have, p.up, p.n, p.have)
	}
	for slot, start := range starts {
		if !slices.Equal(u.F.Words[start:start+64], p.slots[slot][:]) {
			t.Errorf("slot %d: %v, want %v", slot, u.F.Words[start:start+64], p.slots[slot])
		}
	}
}

// chance makes messages that now and then do what a gateway would, and else come lost, twice, late, or wrong.
type chance struct {
	*rand.Rand
	images [][]int
	wish   int // which image the campaigns are of
}

func (c *chance) message(p *plain) api.Message {
	n := min(p.by+1+c.Intn(2), api.MaxReleases)
	if c.Intn(6) == 0 {
		n = 1 + c.Intn(api.MaxReleases)
	} else if p.n > 0 && c.Intn(4) > 0 {
		n = p.n
	} else if p.ready > 0 && c.Intn(4) > 0 {
		n = p.ready
	}
	image := c.images[c.wish]
	m := api.Message{Kind: 1 + c.Intn(7), Unit: c.Intn(api.MaxUnits), N: max(n, 1), Yes: c.Intn(2) > 0}
	if p.ready == 0 && c.Intn(8) > 0 {
		m.Kind = api.Piece
		if p.n == m.N && p.have == len(image) {
			m.Kind = api.Prepare
		}
	}
	switch m.Kind {
	case api.Piece:
		if p.n == m.N && c.Intn(5) > 0 {
			m.At = p.have
		} else if c.Intn(3) == 0 {
			m.At = c.Intn(api.MaxImage + 1)
		}
		if m.At < len(image) {
			m.Words = image[m.At:min(len(image), m.At+1+c.Intn(api.Chunk))]
		} else {
			m.Words = image[:min(len(image), c.Intn(3))]
		}
	case api.Prepare:
		m.At, m.Image = p.have, c.wish+1
		if c.Intn(5) == 0 {
			m.At, m.Image = c.Intn(api.MaxImage+1), c.Intn(len(c.images)+2)
		}
	}
	return m
}

// TestLikeAPlainUnit holds units against plain ones, through many messages, with power that goes somewhere; and P6.3: what it runs is whole, and another one only if it was ready for it and told so.
func TestLikeAPlainUnit(t *testing.T) {
	c := &chance{Rand: rand.New(rand.NewSource(6)), images: [][]int{{7}, {8, 8}, counted(10, 60), counted(40, 300), filled(9, erased), counted(29, 1)}}
	b := bookOf(t, c.images...)
	sealed, turned, cut := 0, 0, 0
	for range 400 {
		u, e := New(c.images[0], 1)
		wantErrno(t, "new", e, api.OK)
		p := &plain{up: true, images: c.images}
		for slot, start := range starts {
			copy(p.slots[slot][:], u.F.Words[start:])
		}
		for range 200 {
			if c.Intn(20) == 0 {
				c.wish = c.Intn(len(c.images))
			}
			if c.Intn(12) == 0 {
				u.F.Fuel = c.Intn(80)
			}
			if !u.Up && c.Intn(3) > 0 {
				u, e = Boot(u)
				wantErrno(t, "boot", e, api.OK)
				p.up = true
			}
			cut += heardByBoth(t, b, &u, p, c.message(p))
		}
		sealed, turned = sealed+p.sealed, turned+p.turned
		if t.Failed() {
			return
		}
	}
	if sealed < 400 || turned < 400 || cut < 400 {
		t.Errorf("too little came to be: ready %d times, %d turns, %d cuts", sealed, turned, cut)
	}
}

// heardByBoth is one message to both; it says how often the power went.
func heardByBoth(t *testing.T, b api.Book, u *api.Unit, p *plain, m api.Message) int {
	t.Helper()
	ahead, was := *p, *u
	imageAhead, nameAhead, e := Runs(was)
	wantErrno(t, "runs", e, api.OK)
	next, answers, e := Hear(b, was, m)
	wantErrno(t, "hear", e, api.OK)
	want := p.hear(m)
	gone := was.Up && !next.Up
	if gone {
		p.lose(ahead, next.F)
		want = nil
		if was.F.Fuel < 0 || next.F.Fuel != 0 {
			t.Errorf("the power went with fuel %d, and left %d", was.F.Fuel, next.F.Fuel)
		}
	}
	wantAnswers(t, "like the plain one", answers, want)
	wantLike(t, next, p)
	image, name, e := Runs(next)
	wantErrno(t, "runs", e, api.OK)
	if p.turned == ahead.turned {
		if name != nameAhead || !slices.Equal(image, imageAhead) {
			t.Errorf("it runs %v without being told, ahead of that %v", image, imageAhead)
		}
	} else if m.Kind != api.Commit || ahead.ready != m.N || !slices.Equal(image, p.images[name-1]) {
		t.Errorf("it runs %v of %d by a message %v, ready for %d", image, name, m, ahead.ready)
	}
	*u = next
	if gone {
		return 1
	}
	return 0
}
