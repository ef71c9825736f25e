package gate

import (
	"slices"

	"wainwright/api"
)

// Due says the same until the unit has answered, as each message may be lost.
func Due(g api.Gate, c api.Campaign, unit int) ([]api.Message, api.Errno) {
	s, e := stateUp(g)
	if e != api.OK {
		return nil, e
	}
	if s.N == 0 || s.Ended {
		return nil, api.ErrLate
	}
	if !isUnit(g, unit) || c.N != s.N || unit >= len(c.Images) || unit >= len(c.R.Targets) {
		return nil, api.ErrWho
	}
	if decided(s) {
		return unless(g.Did[unit], verdict(s, unit, s.N)), api.OK
	}
	if g.Voted[unit] {
		return nil, api.OK
	}
	if len(c.Images[unit]) > api.MaxImage {
		return nil, api.ErrMany
	}
	return delivery(c, unit), api.OK
}

// delivery ends with the Prepare, so that a unit that got all in order is ready for it.
func delivery(c api.Campaign, unit int) []api.Message {
	image := c.Images[unit]
	var l []api.Message
	for at := 0; at < len(image); at += api.Chunk {
		words := slices.Clone(image[at:min(at+api.Chunk, len(image))])
		l = append(l, api.Message{Kind: api.Piece, Unit: unit, N: c.N, At: at, Words: words})
	}
	return append(l, api.Message{Kind: api.Prepare, Unit: unit, N: c.N, At: len(image), Image: c.R.Targets[unit].Image})
}

// Hear answers no error where the power goes: that is the gateway's to bear, and is seen by its not being Up.
func Hear(g api.Gate, m api.Message) (api.Gate, []api.Message, api.Errno) {
	if e := Check(g); e != api.OK {
		return api.Gate{}, nil, e
	}
	if !isUnit(g, m.Unit) || !within(m.N, 1, api.MaxReleases) {
		return api.Gate{}, nil, api.ErrRange
	}
	own := twin(g)
	if !own.Up {
		return own, nil, api.OK
	}
	s := stateOf(own.F)
	pending := s.N == m.N && !s.Ended
	switch m.Kind {
	case api.Vote:
		if pending && !decided(s) && m.Yes {
			count(&own, own.Voted, m.Unit, s, commitRecord)
		}
	case api.Done:
		if pending && decided(s) {
			count(&own, own.Did, m.Unit, s, endedRecord)
		}
	case api.Ask:
		return own, unless(pending && !decided(s), verdict(s, m.Unit, m.N)), api.OK
	}
	return own, nil, api.OK
}

// count is of one of the gateway's own lists; what all of them say is noted.
func count(own *api.Gate, said []bool, unit int, s api.GateState, kind int) {
	said[unit] = true
	if !slices.Contains(said, false) {
		note(own, s, kind, s.N)
	}
}

// verdict is an Abort of each campaign that the records don't say to commit: of one that isn't the last any more all units did what they were told, and none goes back.
func verdict(s api.GateState, unit, n int) api.Message {
	kind := api.Abort
	if s.N == n && s.Commit {
		kind = api.Commit
	}
	return api.Message{Kind: kind, Unit: unit, N: n}
}

func unless(silent bool, m api.Message) []api.Message {
	if silent {
		return nil
	}
	return []api.Message{m}
}

func isUnit(g api.Gate, unit int) bool {
	return within(unit, 0, len(g.Voted)-1)
}
