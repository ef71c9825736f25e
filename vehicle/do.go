package vehicle

import (
	"slices"

	"wainwright/api"
	"wainwright/gate"
	"wainwright/unit"
)

// gateway is its number where those of nodes are told; the others are units.
const gateway = -1

// Do answers no error where a node's power goes: that is the node's to bear, and is seen by its not being Up.
func Do(v api.Vehicle, x api.Happening) (api.Vehicle, api.Errno) {
	if e := Check(v); e != api.OK {
		return api.Vehicle{}, e
	}
	own := twin(v)
	if e := happen(&own, x); e != api.OK {
		return api.Vehicle{}, e
	}
	return own, api.OK
}

// Run asks Do of each happening, with all that it checks: what one leaves behind is not taken for sound by the next.
func Run(v api.Vehicle, script []api.Happening) (api.Vehicle, []api.Errno, api.Errno) {
	if e := Check(v); e != api.OK {
		return api.Vehicle{}, nil, e
	}
	if len(script) > api.MaxScript {
		return api.Vehicle{}, nil, api.ErrMany
	}
	own := twin(v)
	said := make([]api.Errno, len(script))
	for i, x := range script {
		next, e := Do(own, x)
		if e == api.OK {
			own = next
		}
		said[i] = e
	}
	return own, said, api.OK
}

// happen may leave a part done where there is an error: its caller lets go of the vehicle then.
func happen(own *api.Vehicle, x api.Happening) api.Errno {
	switch x.Kind {
	case api.Propose:
		return propose(own, x.O)
	case api.Poke:
		return poke(own, x.Unit)
	case api.Query:
		return query(own, x.Unit)
	case api.Arrive:
		return arrive(own, x.K)
	case api.Lose:
		_, e := take(own, x.K)
		return e
	case api.Double:
		return double(own, x.K)
	case api.Cut:
		return cut(own, x.Unit, x.K)
	case api.Boot:
		return boot(own, x.Unit)
	case api.GiveUp:
		return giveUp(own)
	case api.Tick:
		return tick(own)
	}
	return api.ErrForm
}

// propose lets go of campaigns from the new one's number on: the gateway's log knows nothing of them.
func propose(own *api.Vehicle, o api.Offer) api.Errno {
	g, n, e := gate.Begin(own.B, own.S, own.G, o, own.Now)
	if e != api.OK {
		return e
	}
	own.G = g
	if n == 0 {
		return api.OK
	}
	ahead := own.Campaigns[:min(n-1, len(own.Campaigns))]
	own.Campaigns = append(ahead, twinCampaign(api.Campaign{N: n, R: o.R, Images: o.Images}))
	return api.OK
}

func poke(own *api.Vehicle, to int) api.Errno {
	if !isUnit(own, to) {
		return api.ErrWho
	}
	c, e := lastCampaign(own)
	if e != api.OK {
		return e
	}
	due, e := gate.Due(own.G, c, to)
	if e != api.OK {
		return e
	}
	send(own, due...)
	return api.OK
}

// lastCampaign is nothing, if none was begun: what is to be said of that is the gateway's to say.
func lastCampaign(own *api.Vehicle) (api.Campaign, api.Errno) {
	s, e := gate.Read(own.G)
	if e != api.OK {
		return api.Campaign{}, e
	}
	if s.N == 0 {
		return api.Campaign{}, api.OK
	}
	if s.N > len(own.Campaigns) {
		return api.Campaign{}, api.ErrWho
	}
	return own.Campaigns[s.N-1], api.OK
}

// query refuses a number beyond all campaigns, as no message can tell it.
func query(own *api.Vehicle, of int) api.Errno {
	if !isUnit(own, of) {
		return api.ErrWho
	}
	u := &own.Units[of]
	if !u.Up {
		return api.ErrPower
	}
	s, e := unit.Read(*u)
	if e != api.OK {
		return e
	}
	if !within(s.Ready, 1, api.MaxReleases) {
		return api.ErrLate
	}
	send(own, api.Message{Kind: api.Ask, Unit: of, N: s.Ready})
	return api.OK
}

// arrive takes the message away first, so that there is room for an answer.
func arrive(own *api.Vehicle, k int) api.Errno {
	m, e := take(own, k)
	if e != api.OK {
		return e
	}
	answers, e := hear(own, m)
	if e != api.OK {
		return e
	}
	send(own, answers...)
	return api.OK
}

func hear(own *api.Vehicle, m api.Message) (answers []api.Message, e api.Errno) {
	switch m.Kind {
	case api.Vote, api.Done, api.Ask:
		own.G, answers, e = gate.Hear(own.G, m)
	default:
		u := &own.Units[m.Unit]
		*u, answers, e = unit.Hear(own.B, *u, m)
	}
	return answers, e
}

func take(own *api.Vehicle, k int) (api.Message, api.Errno) {
	if !isMessage(own, k) {
		return api.Message{}, api.ErrWho
	}
	m := own.Net[k]
	own.Net = slices.Delete(own.Net, k, k+1)
	return m, api.OK
}

// double copies the words, too: two messages of one answer may share no memory.
func double(own *api.Vehicle, k int) api.Errno {
	if !isMessage(own, k) {
		return api.ErrWho
	}
	if len(own.Net) == api.MaxNet {
		return api.ErrFull
	}
	send(own, twinMessage(own.Net[k]))
	return api.OK
}

// send loses what there is no room for, the last ones first: no more than a net may do at any time.
func send(own *api.Vehicle, messages ...api.Message) {
	room := api.MaxNet - len(own.Net)
	own.Net = append(own.Net, messages[:min(room, len(messages))]...)
}

func cut(own *api.Vehicle, node, k int) api.Errno {
	if !isNode(own, node) {
		return api.ErrWho
	}
	if !within(k, 0, api.MaxTime) {
		return api.ErrRange
	}
	flashOf(own, node).Fuel = k
	return api.OK
}

func flashOf(own *api.Vehicle, node int) *api.Flash {
	if node == gateway {
		return &own.G.F
	}
	return &own.Units[node].F
}

func boot(own *api.Vehicle, node int) (e api.Errno) {
	if !isNode(own, node) {
		return api.ErrWho
	}
	if node == gateway {
		own.G, e = gate.Boot(own.G)
		return e
	}
	u := &own.Units[node]
	*u, e = unit.Boot(*u)
	return e
}

func giveUp(own *api.Vehicle) (e api.Errno) {
	own.G, e = gate.GiveUp(own.G)
	return e
}

func tick(own *api.Vehicle) api.Errno {
	if own.Now == api.MaxTime {
		return api.ErrFull
	}
	own.Now++
	return api.OK
}

func isUnit(own *api.Vehicle, node int) bool {
	return within(node, 0, len(own.Units)-1)
}

func isNode(own *api.Vehicle, node int) bool {
	return node == gateway || isUnit(own, node)
}

func isMessage(own *api.Vehicle, k int) bool {
	return within(k, 0, len(own.Net)-1)
}
