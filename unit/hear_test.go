package unit

import (
	"reflect"
	"slices"
	"testing"

	"wainwright/api"
	"wainwright/meta"
)

// wantRefused: with an error all else is zero, and what was handed in is as it was.
func wantRefused(t *testing.T, what string, b api.Book, u api.Unit, m api.Message, want api.Errno) {
	t.Helper()
	given := with(u, 0)
	got, answers, e := Hear(b, given, m)
	wantErrno(t, what, e, want)
	wantUnit(t, what, got, api.Unit{})
	wantUnit(t, what+" leaves what it was given", given, with(u, 0))
	if answers != nil {
		t.Errorf("%s: answers %v behind an error", what, answers)
	}
}

// wantHeard is one message, and all that comes of it.
func wantHeard(t *testing.T, what string, b api.Book, u api.Unit, m api.Message, want api.Unit, answers ...api.Message) {
	t.Helper()
	given := with(u, 0)
	got, l, e := Hear(b, given, m)
	wantErrno(t, what, e, api.OK)
	wantUnit(t, what, got, want)
	wantUnit(t, what+" leaves what it was given", given, with(u, 0))
	wantAnswers(t, what, l, answers)
}

func wantAnswers(t *testing.T, what string, got, want []api.Message) {
	t.Helper()
	if len(got) != len(want) || len(got) > 0 && !reflect.DeepEqual(got, want) {
		t.Errorf("%s: answers %v, want %v", what, got, want)
	}
}

func bookOf(t *testing.T, images ...[]int) api.Book {
	t.Helper()
	var b api.Book
	for _, image := range images {
		s, e := meta.ImageText(image)
		wantErrno(t, "text", e, api.OK)
		b.Texts = append(b.Texts, s)
	}
	return b
}

func piece(n, at int, words ...int) api.Message {
	return api.Message{Kind: api.Piece, Unit: 2, N: n, At: at, Words: words}
}

func prepare(n, at, image int) api.Message {
	return api.Message{Kind: api.Prepare, Unit: 2, N: n, At: at, Image: image}
}

func commit(n int) api.Message { return api.Message{Kind: api.Commit, Unit: 2, N: n} }

func abort(n int) api.Message { return api.Message{Kind: api.Abort, Unit: 2, N: n} }

func vote(n int, yes bool) api.Message {
	return api.Message{Kind: api.Vote, Unit: 2, N: n, Yes: yes}
}

func did(n int) api.Message { return api.Message{Kind: api.Done, Unit: 2, N: n} }

// slotted is a unit that runs this slot, by the campaign, with the image 7 of the name 1 there; the other slot is full of what is no image.
func slotted(slot, by int, records ...[]int) api.Unit {
	u := unitOf(append([][]int{{1, slot, by}}, records...)...)
	u = with(u, starts[1-slot], counted(64, 30000)...)
	return holding(u, slot, 1, 7)
}

// cleared is the unit with this slot erased.
func cleared(u api.Unit, slot int) api.Unit {
	return with(u, starts[slot], filled(64, erased)...)
}

// got is the unit with these words in its other slot, that was cleared; and with them in mind.
func got(u api.Unit, slot, n int, words ...int) api.Unit {
	return minding(with(cleared(u, slot), starts[slot]+4, words...), n, len(words))
}

func TestHearErrors(t *testing.T) {
	u := slotted(0, 0)
	many := api.Book{Texts: make([]string, api.MaxBook+1)}
	twice := api.Book{Texts: []string{"a", "b", "a"}}
	long := api.Book{Texts: []string{string(make([]byte, api.MaxText+1))}}
	for _, one := range []api.Unit{u, down(u), {}, minding(u, 9, 0)} {
		for _, m := range []api.Message{commit(1), {}} { // the book's error is ahead of both others
			wantRefused(t, "too many texts", many, one, m, api.ErrMany)
			wantRefused(t, "a text twice", twice, one, m, api.ErrTwice)
			wantRefused(t, "a long text", long, one, m, api.ErrMany)
		}
	}
	wantRefused(t, "the unit's ahead of the message's", api.Book{}, api.Unit{}, api.Message{}, api.ErrForm)
	wantRefused(t, "the message's", api.Book{}, u, api.Message{}, api.ErrRange)
}

// TestHearsNothing are messages that change nothing, and are not answered.
func TestHearsNothing(t *testing.T) {
	b := bookOf(t, []int{7}, []int{8, 8})
	ready := slotted(0, 2, []int{2, 4})
	has := got(slotted(0, 2), 1, 4, 8, 8)
	cases := []struct {
		what string
		u    api.Unit
		m    api.Message
	}{
		{"vote", ready, vote(4, true)},
		{"done", ready, did(4)},
		{"ask", ready, api.Message{Kind: api.Ask, N: 4}},
		{"piece, ready", ready, piece(4, 0, 8, 8)},
		{"piece of another one, ready", ready, piece(5, 0, 8, 8)},
		{"piece, ready for a great number", slotted(0, 2, []int{2, erased}), piece(4, 0, 8)},
		{"piece of what it runs", slotted(0, 4), piece(4, 0, 8)},
		{"piece of what it is beyond", slotted(0, 5), piece(4, 0, 8)},
		{"piece of what it runs, which it has", minding(slotted(0, 4), 4, 0), piece(4, 0, 8)},
		{"piece of another one, not its first", has, piece(5, 2, 9)},
		{"piece of one ahead, not its first", has, piece(3, 2, 9)},
		{"first piece again", has, piece(4, 0, 8, 8)},
		{"first piece again, with nothing", has, piece(4, 0)},
		{"a piece that has a gap", has, piece(4, 3, 9)},
		{"a piece that came already", has, piece(4, 1, 8)},
		{"a piece of none that it has", slotted(0, 2), piece(4, 1, 8)},
		{"nothing behind what it has", has, piece(4, 2)},
		{"41 words", got(slotted(0, 0), 1, 4, counted(33, 1)...), piece(4, 33, counted(8, 1)...)},
		{"a word behind 40", got(slotted(0, 0), 1, 4, counted(40, 1)...), piece(4, 40, 1)},
		{"nothing behind 40", got(slotted(0, 0), 1, 4, counted(40, 1)...), piece(4, 40)},
		{"commit, not ready", has, commit(4)},
		{"commit, ready for one below", ready, commit(5)},
		{"commit, ready for one above", ready, commit(3)},
		{"commit of what it is beyond", ready, commit(1)},
		{"abort of what it runs", ready, abort(2)},
		{"abort of what it is beyond", ready, abort(1)},
		{"abort of what it runs, and is ready for", minding(slotted(0, 2, []int{2, 2}), 2, 3), abort(2)},
	}
	for _, c := range cases {
		for _, fuel := range []int{-1, 0} { // without power, too: nothing is changed
			wantHeard(t, c.what, b, fueled(c.u, fuel), c.m, fueled(c.u, fuel))
		}
	}
}

// TestHearDown: to a unit that isn't up nothing is told, whatever it is.
func TestHearDown(t *testing.T) {
	b := bookOf(t, []int{7}, []int{8, 8})
	has := down(got(slotted(0, 2), 1, 4, 8, 8))
	ready := down(slotted(0, 2, []int{2, 4}))
	for _, fuel := range []int{-1, 0, 100} {
		for _, m := range []api.Message{piece(4, 2, 9), piece(5, 0, 9), prepare(4, 2, 2), prepare(2, 0, 0), commit(2), abort(4)} {
			wantHeard(t, "down", b, fueled(has, fuel), m, fueled(has, fuel))
		}
		for _, m := range []api.Message{prepare(4, 2, 2), commit(4), abort(4)} {
			wantHeard(t, "down, ready", b, fueled(ready, fuel), m, fueled(ready, fuel))
		}
	}
}

// TestHearWithoutChange are messages that are answered, and change nothing, not even where there is no power.
func TestHearWithoutChange(t *testing.T) {
	b := bookOf(t, []int{7}, []int{8, 8}, []int{8})
	has := got(slotted(0, 2), 1, 4, 8, 8)
	ready := slotted(0, 2, []int{2, 4})
	cases := []struct {
		what   string
		u      api.Unit
		m      api.Message
		answer api.Message
	}{
		{"prepare of what it runs", has, prepare(2, 2, 2), did(2)},
		{"prepare of what it is beyond", has, prepare(1, 2, 2), did(1)},
		{"prepare of what it is beyond, ready", ready, prepare(1, 2, 2), did(1)},
		{"prepare of what it runs, and is ready for", slotted(0, 2, []int{2, 2}), prepare(2, 2, 2), did(2)},
		{"prepare again", ready, prepare(4, 2, 2), vote(4, true)},
		{"prepare again, of something else", ready, prepare(4, 0, 0), vote(4, true)},
		{"prepare, ready for one below", ready, prepare(5, 2, 2), vote(5, false)},
		{"prepare, ready for one above", ready, prepare(3, 2, 2), vote(3, false)},
		{"prepare, ready for another one, with all there", minding(got(slotted(0, 2, []int{2, 4}), 1, 5, 8, 8), 5, 2), prepare(5, 2, 2), vote(5, false)},
		{"prepare of none that it has", slotted(0, 2), prepare(4, 2, 2), vote(4, false)},
		{"prepare of one above what it has", has, prepare(5, 2, 2), vote(5, false)},
		{"prepare of one below what it has", has, prepare(3, 2, 2), vote(3, false)},
		{"prepare of fewer words", has, prepare(4, 1, 3), vote(4, false)},
		{"prepare of more words", minding(has, 4, 1), prepare(4, 2, 2), vote(4, false)},
		{"prepare of another name", has, prepare(4, 2, 1), vote(4, false)},
		{"prepare of a name that isn't in the book", has, prepare(4, 2, 60), vote(4, false)},
		{"prepare of no name", has, prepare(4, 2, 0), vote(4, false)},
		{"prepare of no name, of what has none", got(slotted(0, 2), 1, 4, 9), prepare(4, 1, 0), vote(4, false)},
		{"prepare of what has no name", got(slotted(0, 2), 1, 4, 9), prepare(4, 1, 1), vote(4, false)},
		{"prepare of no words", got(slotted(0, 2), 1, 4), prepare(4, 0, 1), vote(4, false)},
		{"prepare of no words, of no name", got(slotted(0, 2), 1, 4), prepare(4, 0, 0), vote(4, false)},
		{"prepare of the words of the slot that runs", got(slotted(0, 2), 1, 4, 9), prepare(4, 1, 1), vote(4, false)},
		{"commit again", has, commit(2), did(2)},
		{"commit again, ready for the next one", ready, commit(2), did(2)},
		{"commit of what it runs, and is ready for", slotted(0, 2, []int{2, 2}), commit(2), did(2)},
		{"abort of none that it has", slotted(0, 2), abort(4), did(4)},
		{"abort of another one than it has", has, abort(5), did(5)},
		{"abort of one below what it has", has, abort(3), did(3)},
		{"abort of another one than it is ready for", ready, abort(5), did(5)},
		{"abort of one below what it is ready for", ready, abort(3), did(3)},
	}
	for _, c := range cases {
		for _, fuel := range []int{-1, 0} {
			wantHeard(t, c.what, b, fueled(c.u, fuel), c.m, fueled(c.u, fuel), c.answer)
		}
	}
	wantHeard(t, "abort of what it has", b, has, abort(4), minding(has, 0, 0), did(4))
	wantHeard(t, "abort of what it has, without power", b, fueled(has, 0), abort(4), fueled(minding(has, 0, 0), 0), did(4))
}

// TestAnswersAreOfTheMessage: whichever unit and campaign it names.
func TestAnswersAreOfTheMessage(t *testing.T) {
	u := slotted(0, 0)
	for unit := range api.MaxUnits {
		for n := 1; n <= api.MaxReleases; n++ {
			m := api.Message{Kind: api.Prepare, Unit: unit, N: n, At: 3, Image: 5, Words: []int{1}, Yes: true}
			wantHeard(t, "vote", api.Book{}, u, m, u, api.Message{Kind: api.Vote, Unit: unit, N: n})
			m.Kind = api.Abort
			wantHeard(t, "done", api.Book{}, u, m, u, api.Message{Kind: api.Done, Unit: unit, N: n})
			m.Kind = api.Commit
			by := slotted(1, n)
			wantHeard(t, "done", api.Book{}, by, m, by, api.Message{Kind: api.Done, Unit: unit, N: n})
		}
	}
}

// wordChange is a word of flash that is to be erased (to -1), or programmed.
type wordChange struct{ at, to int }

func erasure(at, n int) []wordChange {
	var l []wordChange
	for i := range n {
		l = append(l, wordChange{at + i, -1})
	}
	return l
}

func run(at int, words ...int) []wordChange {
	var l []wordChange
	for i, w := range words {
		l = append(l, wordChange{at + i, w})
	}
	return l
}

// recorded is a record behind n words of the log's sector 0: its words first, then its head.
func recorded(n int, words ...int) []wordChange {
	return append(run(n+2, words...), run(n+1, 0xA500+len(words))...)
}

// moved are records that go to sector 1, with the generation 2 behind them.
func moved(records ...[]int) []wordChange {
	return slices.Concat(erasure(32, 32), run(33, logged(records...)...), run(32, 2))
}

// after is the unit when as many of the changes are done as its fuel lets.
func after(u api.Unit, l []wordChange) (api.Unit, bool) {
	u = with(u, 0)
	whole := u.F.Fuel < 0 || u.F.Fuel >= len(l)
	if !whole {
		l = l[:u.F.Fuel]
	}
	for _, c := range l {
		if c.to == -1 {
			u.F.Words[c.at] = erased
		} else {
			u.F.Words[c.at] &= c.to
		}
	}
	if u.F.Fuel >= 0 {
		u.F.Fuel -= len(l)
	}
	return u, whole
}

// changing is a message that changes flash: word by word, what is kept in mind behind it, and what is answered.
type changing struct {
	what    string
	u       api.Unit
	m       api.Message
	l       []wordChange
	n, have int
	answers []api.Message
}

// changings are all kinds of changes, in a unit that runs this slot.
func changings(slot int) []changing {
	free, other := starts[1-slot], 1-slot
	has := got(slotted(slot, 2), other, 4, 8, 8)
	burnt := with(has, free, erased, 1) // the bit of the name 2 is lost
	spared := with(has, free, 3, 6)     // no bit of the head is lost that it needs
	sealed := holding(has, other, 2, 8, 8)
	ready := slotted(slot, 2, []int{2, 4})
	most := got(slotted(slot, 2), other, 8, counted(40, 500)...)
	full := func(u api.Unit) api.Unit { return with(u, 31, 0) } // the sector isn't clean any more
	yes, no, done := []api.Message{vote(4, true)}, []api.Message{vote(4, false)}, []api.Message{did(4)}
	return []changing{
		{"first piece", slotted(slot, 2), piece(4, 0, 8, 9), slices.Concat(erasure(free, 64), run(free+4, 8, 9)), 4, 2, nil},
		{"first piece of one word", slotted(slot, 2), piece(3, 0, 8), slices.Concat(erasure(free, 64), run(free+4, 8)), 3, 1, nil},
		{"first piece of eight words", slotted(slot, 0), piece(1, 0, counted(8, 70)...), slices.Concat(erasure(free, 64), run(free+4, counted(8, 70)...)), 1, 8, nil},
		{"first piece of nothing", slotted(slot, 2), piece(8, 0), erasure(free, 64), 8, 0, nil},
		{"first piece of nothing again", minding(slotted(slot, 2), 8, 0), piece(8, 0), erasure(free, 64), 8, 0, nil},
		{"first piece, none in mind", minding(slotted(slot, 2), 4, 0), piece(4, 0, 8), slices.Concat(erasure(free, 64), run(free+4, 8)), 4, 1, nil},
		{"first piece, words of none in mind", minding(slotted(slot, 2), 0, 9), piece(4, 0, 8), slices.Concat(erasure(free, 64), run(free+4, 8)), 4, 1, nil},
		{"first piece of a later one", has, piece(5, 0, 8), slices.Concat(erasure(free, 64), run(free+4, 8)), 5, 1, nil},
		{"first piece of an earlier one", has, piece(3, 0, 8), slices.Concat(erasure(free, 64), run(free+4, 8)), 3, 1, nil},
		{"next piece", has, piece(4, 2, 9, 1, 0), run(free+6, 9, 1, 0), 4, 5, nil},
		{"a piece across sectors", minding(has, 4, 26), piece(4, 26, counted(8, 3)...), run(free+30, counted(8, 3)...), 4, 34, nil},
		{"a piece up to 40", minding(has, 4, 32), piece(4, 32, counted(8, 3)...), run(free+36, counted(8, 3)...), 4, 40, nil},
		{"the 40th word", minding(has, 4, 39), piece(4, 39, 6), run(free+43, 6), 4, 40, nil},
		{"prepare", has, prepare(4, 2, 2), slices.Concat(run(free, headWritten(2, 2)...), recorded(4, 2, 4)), 0, 0, yes},
		{"prepare of 40 words", most, prepare(8, 40, 4), slices.Concat(run(free, headWritten(40, 4)...), recorded(4, 2, 8)), 0, 0, []api.Message{vote(8, true)}},
		{"prepare of one word", got(slotted(slot, 2), other, 4, 9), prepare(4, 1, 3), slices.Concat(run(free, headWritten(1, 3)...), recorded(4, 2, 4)), 0, 0, yes},
		{"prepare of what it runs, once more", got(slotted(slot, 2), other, 4, 7), prepare(4, 1, 1), slices.Concat(run(free, headWritten(1, 1)...), recorded(4, 2, 4)), 0, 0, yes},
		{"prepare of what is sealed", sealed, prepare(4, 2, 2), slices.Concat(run(free, headWritten(2, 2)...), recorded(4, 2, 4)), 0, 0, yes},
		{"prepare of what wasn't clear", burnt, prepare(4, 2, 2), run(free, headWritten(2, 2)...), 0, 0, no},
		{"prepare of what wasn't clear, which is no harm", spared, prepare(4, 2, 2), slices.Concat(run(free, headWritten(2, 2)...), recorded(4, 2, 4)), 0, 0, yes},
		{"prepare of what has another head", holding(has, other, 1, 8), prepare(4, 2, 2), run(free, headWritten(2, 2)...), 0, 0, no},
		{"prepare, in a log that isn't clean", full(has), prepare(4, 2, 2), slices.Concat(run(free, headWritten(2, 2)...), moved([]int{1, slot, 2}, []int{2, 4})), 0, 0, yes},
		{"commit", ready, commit(4), recorded(7, 1, other, 4), 0, 0, done},
		{"commit, with others in mind", minding(ready, 5, 6), commit(4), recorded(7, 1, other, 4), 5, 6, done},
		{"commit of an earlier one than it runs", slotted(slot, 6, []int{2, 4}), commit(4), recorded(7, 1, other, 4), 0, 0, done},
		{"commit, in a log that isn't clean", full(ready), commit(4), moved([]int{1, slot, 2}, []int{2, 4}, []int{1, other, 4}), 0, 0, done},
		{"abort, ready", ready, abort(4), recorded(7, 3, 4), 0, 0, done},
		{"abort, ready, and in mind", minding(ready, 4, 6), abort(4), recorded(7, 3, 4), 0, 0, done},
		{"abort, ready, with others in mind", minding(ready, 5, 6), abort(4), recorded(7, 3, 4), 5, 6, done},
		{"abort, in a log that isn't clean", full(ready), abort(4), moved([]int{1, slot, 2}, []int{2, 4}, []int{3, 4}), 0, 0, done},
	}
}

// TestHearWithEachFuel: behind each number of changed words the unit is as far as it came, isn't up, and says nothing; booted, it runs what it ran.
func TestHearWithEachFuel(t *testing.T) {
	b := bookOf(t, []int{7}, []int{8, 8}, []int{9}, counted(40, 500))
	for slot := range starts {
		for _, c := range changings(slot) {
			for fuel := -1; fuel <= len(c.l)+2; fuel++ {
				u := fueled(c.u, fuel)
				want, whole := after(u, c.l)
				if !whole {
					wantHeard(t, c.what+", in part", b, u, c.m, minding(down(want), 0, 0))
					wantAsAhead(t, c.what+", in part", b, u, c.m)
					continue
				}
				wantHeard(t, c.what, b, u, c.m, minding(want, c.n, c.have), c.answers...)
			}
		}
	}
}

// wantAsAhead: booted, the unit is as if it hadn't heard the message, but for the slot that it doesn't run.
func wantAsAhead(t *testing.T, what string, b api.Book, u api.Unit, m api.Message) {
	t.Helper()
	s, e := Read(u)
	wantErrno(t, what, e, api.OK)
	image, name, e := Runs(u)
	wantErrno(t, what, e, api.OK)
	u, _, _ = Hear(b, u, m)
	u, e = Boot(u)
	wantErrno(t, what, e, api.OK)
	wantState(t, what, u, s)
	wantRuns(t, what, u, name, image...)
}

// TestFullLog: where the log has no room any more nothing is noted, nor answered; what was changed ahead of that stays.
func TestFullLog(t *testing.T) {
	b := bookOf(t, []int{7}, []int{8, 8})
	for slot := range starts {
		last := func(u api.Unit) api.Unit { return with(with(u, 0, 60000), 31, 0) } // not clean, and no generation behind
		has := last(got(slotted(slot, 2), 1-slot, 4, 8, 8))
		ready := last(slotted(slot, 2, []int{2, 4}))
		for _, fuel := range []int{-1, 4, 100} {
			u := fueled(has, fuel)
			want, _ := after(u, run(starts[1-slot], headWritten(2, 2)...))
			wantHeard(t, "prepare", b, u, prepare(4, 2, 2), minding(want, 0, 0))
			wantState(t, "prepare", want, api.UnitState{Slot: slot, By: 2})
		}
		for _, fuel := range []int{-1, 0, 4, 100} {
			u := minding(fueled(ready, fuel), 4, 9)
			wantHeard(t, "commit", b, u, commit(4), u)
			wantHeard(t, "abort", b, u, abort(4), u) // what is in mind stays, too
			wantHeard(t, "commit again", b, u, commit(2), u, did(2))
			wantHeard(t, "prepare again", b, u, prepare(4, 2, 2), u, vote(4, true))
			wantHeard(t, "abort of another one", b, u, abort(5), u, did(5))
		}
		got, answers, e := Hear(b, with(has, 31, erased), prepare(4, 2, 2))
		wantErrno(t, "the last generation with room", e, api.OK)
		wantAnswers(t, "the last generation with room", answers, []api.Message{vote(4, true)})
		wantState(t, "the last generation with room", got, api.UnitState{Slot: slot, By: 2, Ready: 4})
	}
}

// told is a script of messages to one unit, and what it answers to all of them.
func told(t *testing.T, b api.Book, u *api.Unit, messages ...api.Message) []api.Message {
	t.Helper()
	var all []api.Message
	for _, m := range messages {
		next, l, e := Hear(b, *u, m)
		wantErrno(t, "told", e, api.OK)
		*u, all = next, append(all, l...)
	}
	return all
}

// pieces are an image as it is sent.
func pieces(n int, image []int) []api.Message {
	var l []api.Message
	for words := range slices.Chunk(image, api.Chunk) {
		l = append(l, piece(n, len(l)*api.Chunk, words...))
	}
	return l
}

// TestCampaigns brings images of each length to a unit, one after the other, through both slots; some twice, some aborted.
func TestCampaigns(t *testing.T) {
	for long := 1; long <= api.MaxImage; long++ {
		images := [][]int{counted(long, 100), counted(long, 200), counted(api.MaxImage, 300), {7}}
		b := bookOf(t, images...)
		u, e := New(images[3], 4)
		wantErrno(t, "new", e, api.OK)
		runs, slot, by := 3, 0, 0
		for n := 1; n <= api.MaxReleases; n++ {
			next := n % 3
			script := append(pieces(n, images[next]), prepare(n, len(images[next]), next+1))
			if n == 4 { // the other slot has another campaign's pieces
				told(t, b, &u, pieces(n+1, images[0])...)
			}
			wantAnswers(t, "ready", told(t, b, &u, script...), []api.Message{vote(n, true)})
			wantState(t, "ready", u, api.UnitState{Slot: slot, By: by, Ready: n})
			wantRuns(t, "ready", u, runs+1, images[runs]...)
			wantAnswers(t, "told again", told(t, b, &u, script...), []api.Message{vote(n, true)})
			if n == 5 {
				wantAnswers(t, "abort", told(t, b, &u, abort(n), abort(n), commit(n)), []api.Message{did(n), did(n)})
				wantRuns(t, "aborted", u, runs+1, images[runs]...)
				continue
			}
			wantAnswers(t, "commit", told(t, b, &u, commit(n), commit(n), abort(n)), []api.Message{did(n), did(n)})
			runs, slot, by = next, 1-slot, n
			wantRuns(t, "committed", u, runs+1, images[runs]...)
		}
	}
}

// TestExamples are those of DOC.md.
func TestExamples(t *testing.T) {
	image := counted(10, 50)
	b := bookOf(t, []int{7}, image)
	u, _ := New([]int{7}, 1)
	wantAnswers(t, "two pieces", told(t, b, &u, piece(1, 0, image[:8]...), piece(1, 8, image[8:]...)), nil)
	wantAnswers(t, "a Prepare, a Vote", told(t, b, &u, prepare(1, 10, 2)), []api.Message{vote(1, true)})
	for fuel := range 10 {
		cut := fueled(u, fuel)
		told(t, b, &cut, commit(1))
		cut, e := Boot(cut)
		wantErrno(t, "boot", e, api.OK)
		if fuel < 4 {
			wantRuns(t, "the one slot", cut, 1, 7)
		} else {
			wantRuns(t, "the other one", cut, 2, image...)
		}
	}
	wantAnswers(t, "a Commit, a Done", told(t, b, &u, commit(1)), []api.Message{did(1)})
}

// TestAnswersAreNewMemory spoils each answer and looks whether what was handed in is touched, or the spare room behind it.
func TestAnswersAreNewMemory(t *testing.T) {
	images := [][]int{{7}, {8, 8}, {9}, counted(40, 500)}
	spoil := func(l []int) {
		l = l[:cap(l)]
		for i := range l {
			l[i] = -1
		}
	}
	for slot := range starts {
		for _, c := range changings(slot) {
			for _, fuel := range []int{-1, 0, 3, 64, 1000} {
				for _, change := range []func(u api.Unit) api.Unit{func(u api.Unit) api.Unit { return u }, down} {
					b := bookOf(t, images...)
					b.Texts = append(make([]string, 0, 9), b.Texts...)
					u := change(fueled(c.u, fuel))
					u.F.Words = roomy(c.u.F.Words)
					m := c.m
					m.Words = roomy(c.m.Words)
					heard, answers, _ := Hear(b, u, m)
					spoil(heard.F.Words)
					for _, a := range answers {
						spoil(a.Words)
					}
					booted, _ := Boot(u)
					spoil(booted.F.Words)
					image, _, _ := Runs(u)
					spoil(image)
					if !slices.Equal(u.F.Words[:cap(u.F.Words)], roomy(c.u.F.Words)[:cap(u.F.Words)]) {
						t.Errorf("%s: the unit that was handed in was changed", c.what)
					}
					if !slices.Equal(m.Words[:cap(m.Words)], roomy(c.m.Words)[:cap(m.Words)]) {
						t.Errorf("%s: the message that was handed in was changed", c.what)
					}
					if !slices.Equal(b.Texts, bookOf(t, images...).Texts) || b.Texts[:9][8] != "" {
						t.Errorf("%s: the book that was handed in was changed", c.what)
					}
				}
			}
		}
	}
}
