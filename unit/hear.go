package unit

import (
	"slices"

	"wainwright/api"
	"wainwright/meta"
	"wainwright/slot"
)

// Hear answers no error where the power goes: that is the unit's to bear, and is seen by its not being Up.
func Hear(b api.Book, u api.Unit, m api.Message) (api.Unit, []api.Message, api.Errno) {
	if e := checkHeard(b, u, m); e != api.OK {
		return api.Unit{}, nil, e
	}
	own := twin(u)
	if !own.Up {
		return own, nil, api.OK
	}
	answers := hear(b, &own, m)
	return own, answers, api.OK
}

func checkHeard(b api.Book, u api.Unit, m api.Message) api.Errno {
	if e := meta.CheckBook(b); e != api.OK {
		return e
	}
	if e := Check(u); e != api.OK {
		return e
	}
	return CheckMessage(m)
}

// hear reads the state once, ahead of all changes: what is noted hangs on what it was then.
func hear(b api.Book, own *api.Unit, m api.Message) []api.Message {
	s := stateOf(own.F)
	switch m.Kind {
	case api.Piece:
		hearPiece(own, s, m)
	case api.Prepare:
		return hearPrepare(b, own, s, m)
	case api.Commit:
		return hearCommit(own, s, m)
	case api.Abort:
		return hearAbort(own, s, m)
	}
	return nil
}

// hearPiece answers nothing: what is missing is seen when the unit is to prepare.
func hearPiece(own *api.Unit, s api.UnitState, m api.Message) {
	if s.Ready != 0 || m.N <= s.By {
		return
	}
	if m.At == 0 && (own.N != m.N || own.Have == 0) {
		if !change(own, clearing(other(s))) {
			return
		}
		own.N, own.Have = m.N, 0
	}
	if own.N != m.N || own.Have != m.At || len(m.Words) > api.MaxImage-m.At {
		return
	}
	if change(own, filling(other(s), m.At, m.Words)) {
		own.Have += len(m.Words)
	}
}

// hearPrepare notes that the unit is ready only behind a look at what was sealed: from there on it may be told to run it.
func hearPrepare(b api.Book, own *api.Unit, s api.UnitState, m api.Message) []api.Message {
	vote := func(yes bool) []api.Message {
		return []api.Message{{Kind: api.Vote, Unit: m.Unit, N: m.N, Yes: yes}}
	}
	if m.N <= s.By {
		return done(m)
	}
	if s.Ready != 0 {
		return vote(s.Ready == m.N)
	}
	words, meant := meantWords(b, own.F, other(s), m)
	if own.N != m.N || own.Have != m.At || !meant {
		return vote(false)
	}
	if !change(own, sealing(other(s), m.At, m.Image)) {
		return nil
	}
	own.N, own.Have = 0, 0
	whole := func(image []int, name int, e api.Errno) bool {
		return e == api.OK && name == m.Image && slices.Equal(image, words)
	}
	if !whole(slot.Image(own.F, other(s))) {
		return vote(false)
	}
	if !change(own, noting(s, readyRecord, m.N)) {
		return nil
	}
	return vote(true)
}

// meantWords are as many words of the slot as the message says; are they those that it names? The name 0 is none, even if the message says it.
func meantWords(b api.Book, f api.Flash, which int, m api.Message) ([]int, bool) {
	words, e := slot.Body(f, which, m.At)
	if e != api.OK {
		return nil, false
	}
	name, e := meta.ImageName(b, words)
	return words, e == api.OK && name != 0 && name == m.Image
}

// hearCommit says Done again of what was done already, as the first Done may have been lost.
func hearCommit(own *api.Unit, s api.UnitState, m api.Message) []api.Message {
	if s.By == m.N {
		return done(m)
	}
	if s.Ready != m.N || !change(own, noting(s, runsRecord, other(s), m.N)) {
		return nil
	}
	return done(m)
}

// hearAbort is silent of what the unit runs already, or is beyond: none goes back.
func hearAbort(own *api.Unit, s api.UnitState, m api.Message) []api.Message {
	if s.By >= m.N {
		return nil
	}
	if s.Ready == m.N && !change(own, noting(s, unreadyRecord, m.N)) {
		return nil
	}
	if own.N == m.N {
		own.N, own.Have = 0, 0
	}
	return done(m)
}

func done(m api.Message) []api.Message {
	return []api.Message{{Kind: api.Done, Unit: m.Unit, N: m.N}}
}

// other is the slot that may be changed, as the unit doesn't run it.
func other(s api.UnitState) int {
	return lastSlot - s.Slot
}
