package unit

import (
	"math"
	"reflect"
	"slices"
	"testing"

	"wainwright/api"
)

const (
	erased = api.MaxWord
	spare  = 777 // what lies in the spare room behind a list that is handed in
)

// starts are the places of both slots, written out so that the program's own sums aren't trusted.
var starts = [2]int{64, 128}

func filled(n, x int) []int {
	l := make([]int, n)
	for i := range l {
		l[i] = x
	}
	return l
}

// counted is a list of n unlike words.
func counted(n, first int) []int {
	l := make([]int, n)
	for i := range l {
		l[i] = first + i
	}
	return l
}

// roomy is the same words with spare room behind them.
func roomy(words []int) []int {
	l := append(make([]int, 0, len(words)+8), words...)
	for i := len(l); i < cap(l); i++ {
		l[:cap(l)][i] = spare
	}
	return l
}

func headWritten(long, name int) []int {
	return []int{long, name, 65535 - long, 65535 - name}
}

// logged is how records stand in a sector, behind its generation.
func logged(records ...[]int) []int {
	var words []int
	for _, r := range records {
		words = append(append(words, 0xA500+len(r)), r...)
	}
	return words
}

// with is the unit with these words of flash from the place on, whatever stood there.
func with(u api.Unit, at int, words ...int) api.Unit {
	u.F.Words = slices.Clone(u.F.Words)
	copy(u.F.Words[at:], words)
	return u
}

func fueled(u api.Unit, fuel int) api.Unit {
	u = with(u, 0)
	u.F.Fuel = fuel
	return u
}

func minding(u api.Unit, n, have int) api.Unit {
	u = with(u, 0)
	u.N, u.Have = n, have
	return u
}

func down(u api.Unit) api.Unit {
	u = with(u, 0)
	u.Up = false
	return u
}

// unitOf is up, with these records in sector 0, of the generation 1; all else of it is erased.
func unitOf(records ...[]int) api.Unit {
	u := api.Unit{F: api.Flash{Words: filled(192, erased), Fuel: -1}, Up: true}
	return with(with(u, 0, 1), 1, logged(records...)...)
}

// holding is the unit with an image in a slot, sealed.
func holding(u api.Unit, slot, name int, image ...int) api.Unit {
	return with(with(u, starts[slot], headWritten(len(image), name)...), starts[slot]+4, image...)
}

func wantErrno(t *testing.T, what string, got, want api.Errno) {
	t.Helper()
	if got != want {
		t.Errorf("%s: error %d, want %d", what, got, want)
	}
}

func wantUnit(t *testing.T, what string, got, want api.Unit) {
	t.Helper()
	if reflect.DeepEqual(got, want) {
		return
	}
	t.Errorf("%s: up %v, N %d, Have %d, fuel %d, %d words, want %v, %d, %d, %d, %d", what,
		got.Up, got.N, got.Have, got.F.Fuel, len(got.F.Words), want.Up, want.N, want.Have, want.F.Fuel, len(want.F.Words))
	for i := range min(len(got.F.Words), len(want.F.Words)) {
		if got.F.Words[i] != want.F.Words[i] {
			t.Errorf("%s: word %d: %d, want %d", what, i, got.F.Words[i], want.F.Words[i])
		}
	}
}

func wantState(t *testing.T, what string, u api.Unit, want api.UnitState) {
	t.Helper()
	got, e := Read(u)
	wantErrno(t, what, e, api.OK)
	if got != want {
		t.Errorf("%s: state %v, want %v", what, got, want)
	}
}

func wantRuns(t *testing.T, what string, u api.Unit, name int, image ...int) {
	t.Helper()
	got, n, e := Runs(u)
	wantErrno(t, what, e, api.OK)
	if n != name || !slices.Equal(got, image) {
		t.Errorf("%s: runs %v of name %d, want %v of %d", what, got, n, image, name)
	}
}

// unsound are units that Check refuses, and why; some are wrong in several ways, of which the first one counts.
func unsound() []struct {
	what string
	u    api.Unit
	e    api.Errno
} {
	sound := holding(unitOf([]int{1, 0, 0}), 0, 1, 7)
	short := func(sectors int) api.Unit {
		u := with(sound, 0)
		u.F.Words = u.F.Words[:sectors*api.Sector]
		return u
	}
	long := func(words int) api.Unit {
		u := with(sound, 0)
		u.F.Words = append(u.F.Words, filled(words, erased)...)
		return u
	}
	return []struct {
		what string
		u    api.Unit
		e    api.Errno
	}{
		{"nothing", api.Unit{}, api.ErrForm},
		{"no words, and N", api.Unit{F: api.Flash{Words: []int{}, Fuel: -1}, N: -1}, api.ErrForm},
		{"a word too many", long(1), api.ErrForm},
		{"seven sectors", long(api.Sector), api.ErrForm},
		{"seven sectors, and fuel", fueled(long(api.Sector), -2), api.ErrForm},
		{"one sector", short(1), api.ErrForm},
		{"two sectors", short(2), api.ErrForm},
		{"five sectors", short(5), api.ErrForm},
		{"five sectors, and N", minding(short(5), -1, 0), api.ErrForm},
		{"five sectors, and fuel", fueled(short(5), -2), api.ErrRange},
		{"five sectors, and no log", with(short(5), 0, erased), api.ErrWho},
		{"fuel -2", fueled(sound, -2), api.ErrRange},
		{"fuel above all time", fueled(sound, api.MaxTime+1), api.ErrRange},
		{"no word in the log", with(sound, 5, -1), api.ErrRange},
		{"no word at the end", with(sound, 191, api.MaxWord+1), api.ErrRange},
		{"no log", with(sound, 0, erased), api.ErrWho},
		{"a log of generation 0", with(sound, 0, 0), api.ErrWho},
		{"a log of generation 60001", with(sound, 32, 60001), api.ErrWho},
		{"no log, and N", minding(with(sound, 0, 0), -1, 0), api.ErrWho},
		{"N -1", minding(sound, -1, 0), api.ErrRange},
		{"N 9", minding(sound, 9, 0), api.ErrRange},
		{"N lowest", minding(sound, math.MinInt, 0), api.ErrRange},
		{"N highest", minding(sound, math.MaxInt, 0), api.ErrRange},
		{"Have -1", minding(sound, 0, -1), api.ErrRange},
		{"Have 41", minding(sound, 0, 41), api.ErrRange},
		{"Have lowest", minding(sound, 0, math.MinInt), api.ErrRange},
		{"Have highest", minding(sound, 0, math.MaxInt), api.ErrRange},
		{"not up, and N", down(minding(sound, 9, 0)), api.ErrRange},
	}
}

// TestUnsoundUnits: all calls say Check's error, and with it all else is zero.
func TestUnsoundUnits(t *testing.T) {
	for _, c := range unsound() {
		wantErrno(t, "check, "+c.what, Check(c.u), c.e)
		s, e := Read(c.u)
		wantErrno(t, "read, "+c.what, e, c.e)
		if s != (api.UnitState{}) {
			t.Errorf("read, %s: %v behind an error", c.what, s)
		}
		image, name, e := Runs(c.u)
		wantErrno(t, "runs, "+c.what, e, c.e)
		if image != nil || name != 0 {
			t.Errorf("runs, %s: %v of %d behind an error", c.what, image, name)
		}
		u, e := Boot(c.u)
		wantErrno(t, "boot, "+c.what, e, c.e)
		wantUnit(t, "boot, "+c.what, u, api.Unit{})
		for _, m := range []api.Message{{Kind: api.Commit, N: 1}, {Kind: 99}} { // ahead of the message's error
			wantRefused(t, "hear, "+c.what, api.Book{}, c.u, m, c.e)
		}
	}
}

func TestCheckOfSoundUnits(t *testing.T) {
	sound := unitOf([]int{1, 0, 0})
	for _, u := range []api.Unit{
		sound,
		down(sound),
		unitOf(),                    // no records
		unitOf([]int{1, 0, 0}, nil), // a head of no words
		minding(sound, 8, 40),
		minding(sound, 0, 40),
		minding(sound, 8, 0),
		fueled(sound, 0),
		fueled(sound, api.MaxTime),
		with(sound, 0, 60000),
		with(sound, 32, 2),
		with(sound, 64, filled(128, 0)...), // slots without images
	} {
		wantErrno(t, "check", Check(u), api.OK)
	}
}

func TestNew(t *testing.T) {
	for _, image := range [][]int{{7}, {0}, {erased}, {1, 2, 3}, counted(28, 5), counted(29, 5), counted(39, 9), counted(40, 100), filled(40, 0), filled(40, erased)} {
		for _, name := range []int{1, 2, 59, 60} {
			given := roomy(image)
			got, e := New(given, name)
			wantErrno(t, "new", e, api.OK)
			wantUnit(t, "new", got, holding(unitOf([]int{1, 0, 0}), 0, name, image...))
			wantErrno(t, "check of new", Check(got), api.OK)
			wantState(t, "new", got, api.UnitState{})
			wantRuns(t, "new", got, name, image...)
			if !slices.Equal(given[:cap(given)], roomy(image)[:cap(given)]) {
				t.Errorf("new changed the image that it was given: %v", given)
			}
		}
	}
}

func TestNewWrongInputs(t *testing.T) {
	cases := []struct {
		what  string
		image []int
		name  int
		e     api.Errno
	}{
		{"nil", nil, 1, api.ErrMany},
		{"empty", []int{}, 1, api.ErrMany},
		{"empty, and no name", []int{}, 0, api.ErrMany},
		{"41 words", counted(41, 1), 1, api.ErrMany},
		{"41 that are no words", filled(41, -1), 0, api.ErrMany},
		{"endless", make([]int, 1000000), 1, api.ErrMany},
		{"no word", []int{-1}, 1, api.ErrRange},
		{"the last is no word", append(counted(39, 1), api.MaxWord+1), 1, api.ErrRange},
		{"name 0", []int{7}, 0, api.ErrRange},
		{"name -1", []int{7}, -1, api.ErrRange},
		{"name 61", []int{7}, 61, api.ErrRange},
		{"name lowest", []int{7}, math.MinInt, api.ErrRange},
		{"name highest", []int{7}, math.MaxInt, api.ErrRange},
	}
	for _, c := range cases {
		u, e := New(c.image, c.name)
		wantErrno(t, "new, "+c.what, e, c.e)
		wantUnit(t, "new, "+c.what, u, api.Unit{})
	}
}

// edged are messages at the edge of what may be, and beyond it.
func edged() []struct {
	what string
	m    api.Message
	e    api.Errno
} {
	right := api.Message{Kind: api.Ask, Unit: 1, N: 2, At: 3, Image: 4, Words: []int{5}, Yes: true}
	but := func(change func(m *api.Message)) api.Message {
		m := right
		change(&m)
		return m
	}
	kind := func(x int) api.Message { return but(func(m *api.Message) { m.Kind = x }) }
	unit := func(x int) api.Message { return but(func(m *api.Message) { m.Unit = x }) }
	campaign := func(x int) api.Message { return but(func(m *api.Message) { m.N = x }) }
	at := func(x int) api.Message { return but(func(m *api.Message) { m.At = x }) }
	image := func(x int) api.Message { return but(func(m *api.Message) { m.Image = x }) }
	words := func(l ...int) api.Message { return but(func(m *api.Message) { m.Words = l }) }
	return []struct {
		what string
		m    api.Message
		e    api.Errno
	}{
		{"right", right, api.OK},
		{"without Yes", but(func(m *api.Message) { m.Yes = false }), api.OK},
		{"piece", kind(1), api.OK}, {"prepare", kind(2), api.OK}, {"vote", kind(3), api.OK}, {"commit", kind(4), api.OK},
		{"abort", kind(5), api.OK}, {"done", kind(6), api.OK}, {"ask", kind(7), api.OK},
		{"kind 0", kind(0), api.ErrRange}, {"kind -1", kind(-1), api.ErrRange}, {"kind 8", kind(8), api.ErrRange},
		{"kind lowest", kind(math.MinInt), api.ErrRange}, {"kind highest", kind(math.MaxInt), api.ErrRange},
		{"unit 0", unit(0), api.OK}, {"unit 3", unit(3), api.OK},
		{"unit -1", unit(-1), api.ErrRange}, {"unit 4", unit(4), api.ErrRange},
		{"unit lowest", unit(math.MinInt), api.ErrRange}, {"unit highest", unit(math.MaxInt), api.ErrRange},
		{"campaign 1", campaign(1), api.OK}, {"campaign 8", campaign(8), api.OK},
		{"campaign 0", campaign(0), api.ErrRange}, {"campaign -1", campaign(-1), api.ErrRange}, {"campaign 9", campaign(9), api.ErrRange},
		{"campaign lowest", campaign(math.MinInt), api.ErrRange}, {"campaign highest", campaign(math.MaxInt), api.ErrRange},
		{"at 0", at(0), api.OK}, {"at 40", at(40), api.OK},
		{"at -1", at(-1), api.ErrRange}, {"at 41", at(41), api.ErrRange},
		{"at lowest", at(math.MinInt), api.ErrRange}, {"at highest", at(math.MaxInt), api.ErrRange},
		{"image 0", image(0), api.OK}, {"image 60", image(60), api.OK},
		{"image -1", image(-1), api.ErrRange}, {"image 61", image(61), api.ErrRange},
		{"image lowest", image(math.MinInt), api.ErrRange}, {"image highest", image(math.MaxInt), api.ErrRange},
		{"no words", words(), api.OK}, {"empty words", words([]int{}...), api.OK},
		{"the least and the greatest word", words(0, erased), api.OK},
		{"eight words", words(counted(8, 1)...), api.OK},
		{"nine words", words(counted(9, 1)...), api.ErrRange},
		{"endless words", words(make([]int, 1000000)...), api.ErrRange},
		{"word -1", words(-1), api.ErrRange}, {"word 65536", words(erased + 1), api.ErrRange},
		{"the last word", words(append(counted(7, 1), -1)...), api.ErrRange},
		{"the last of eight words", words(append(counted(7, 1), math.MaxInt)...), api.ErrRange},
		{"nothing", api.Message{}, api.ErrRange},
	}
}

// TestCheckMessage: what Kind makes no use of is checked, too; and Hear says the same, of a unit that isn't up as well.
func TestCheckMessage(t *testing.T) {
	u := holding(unitOf([]int{1, 0, 5}), 0, 1, 7)
	for _, c := range edged() {
		wantErrno(t, c.what, CheckMessage(c.m), c.e)
		for _, one := range []api.Unit{u, down(u), fueled(u, 0)} {
			if c.e != api.OK {
				wantRefused(t, "hear, "+c.what, api.Book{}, one, c.m, c.e)
				continue
			}
			_, _, e := Hear(api.Book{}, one, c.m)
			wantErrno(t, "hear, "+c.what, e, api.OK)
		}
	}
}

func TestRead(t *testing.T) {
	cases := []struct {
		what    string
		records [][]int
		s       api.UnitState
	}{
		{"no records", nil, api.UnitState{}},
		{"the factory's", [][]int{{1, 0, 0}}, api.UnitState{}},
		{"slot 1", [][]int{{1, 1, 3}}, api.UnitState{Slot: 1, By: 3}},
		{"the last one counts", [][]int{{1, 1, 3}, {1, 0, 2}}, api.UnitState{By: 2}},
		{"ready", [][]int{{1, 1, 3}, {2, 4}}, api.UnitState{Slot: 1, By: 3, Ready: 4}},
		{"ready alone", [][]int{{2, 4}}, api.UnitState{Ready: 4}},
		{"ready for another one", [][]int{{2, 4}, {2, 3}}, api.UnitState{Ready: 3}},
		{"ready for 0", [][]int{{2, 4}, {2, 0}}, api.UnitState{}},
		{"not any more", [][]int{{1, 1, 3}, {2, 4}, {3, 4}}, api.UnitState{Slot: 1, By: 3}},
		{"not any more, by another one", [][]int{{2, 4}, {3, 9}}, api.UnitState{}},
		{"not any more, and again", [][]int{{2, 4}, {3, 4}, {2, 5}}, api.UnitState{Ready: 5}},
		{"not any more, of none", [][]int{{3, 4}}, api.UnitState{}},
		{"it runs, and is ready for none", [][]int{{2, 4}, {1, 1, 3}}, api.UnitState{Slot: 1, By: 3}},
		{"it runs the same again, and is ready for none", [][]int{{1, 1, 3}, {2, 4}, {1, 1, 3}}, api.UnitState{Slot: 1, By: 3}},
		{"great numbers", [][]int{{1, 1, erased}, {2, erased}}, api.UnitState{Slot: 1, By: erased, Ready: erased}},
		{"slot 2", [][]int{{1, 1, 3}, {2, 4}, {1, 2, 5}}, api.UnitState{Slot: 1, By: 3, Ready: 4}},
		{"slot 65535", [][]int{{1, 1, 3}, {2, 4}, {1, erased, 5}}, api.UnitState{Slot: 1, By: 3, Ready: 4}},
		{"others", [][]int{{1, 1, 3}, {2, 4}, {0, 1, 5}, {4, 0, 6}, {0, 7}, {4, 8}, {erased, 9}}, api.UnitState{Slot: 1, By: 3, Ready: 4}},
		{"runs, of other lengths", [][]int{{1, 1, 3}, {2, 4}, {1}, {1, 0}, {1, 0, 6, 6}}, api.UnitState{Slot: 1, By: 3, Ready: 4}},
		{"ready, of other lengths", [][]int{{1, 1, 3}, {2, 4}, {2}, {2, 5, 5}, {2, 6, 6, 6}}, api.UnitState{Slot: 1, By: 3, Ready: 4}},
		{"not any more, of other lengths", [][]int{{1, 1, 3}, {2, 4}, {3}, {3, 4, 4}, {3, 4, 4, 4}}, api.UnitState{Slot: 1, By: 3, Ready: 4}},
	}
	for _, c := range cases {
		for _, u := range []api.Unit{unitOf(c.records...), down(fueled(unitOf(c.records...), 0)), minding(unitOf(c.records...), 7, 7)} {
			wantState(t, c.what, u, c.s)
		}
	}
	behind := with(with(unitOf([]int{1, 1, 3}), 32, 2), 33, logged([]int{1, 0, 4}, []int{2, 6})...)
	wantState(t, "the newer sector counts", behind, api.UnitState{By: 4, Ready: 6})
}

func TestRuns(t *testing.T) {
	two := func(records ...[]int) api.Unit {
		return holding(holding(unitOf(records...), 0, 3, 10, 11), 1, 60, counted(40, 20)...)
	}
	for _, change := range []func(u api.Unit) api.Unit{
		func(u api.Unit) api.Unit { return u },
		down,
		func(u api.Unit) api.Unit { return fueled(u, 0) },
	} {
		wantRuns(t, "no records", change(two()), 3, 10, 11)
		wantRuns(t, "slot 0", change(two([]int{1, 0, 4})), 3, 10, 11)
		wantRuns(t, "slot 1", change(two([]int{1, 1, 4})), 60, counted(40, 20)...)
		wantRuns(t, "ready", change(two([]int{1, 0, 4}, []int{2, 5})), 3, 10, 11)
		wantRuns(t, "slot 2 says nothing", change(two([]int{1, 1, 4}, []int{1, 2, 5})), 60, counted(40, 20)...)
	}
	for _, u := range []api.Unit{
		holding(unitOf([]int{1, 1, 4}), 0, 3, 10),                      // the other one has an image
		with(two([]int{1, 1, 4}), 128, 41, 60, 65535-41, 65535-60),     // a head that is none
		with(two([]int{1, 1, 4}), 131, erased),                         // one that was begun
		with(two([]int{1, 1, 4}), 128, erased, erased, erased, erased), // none
	} {
		image, name, e := Runs(u)
		wantErrno(t, "no image", e, api.ErrForm)
		if image != nil || name != 0 {
			t.Errorf("no image: %v of %d behind an error", image, name)
		}
	}
}

func TestBoot(t *testing.T) {
	u := holding(unitOf([]int{1, 0, 0}, []int{2, 3}), 0, 1, 7)
	for _, one := range []api.Unit{u, down(u), fueled(u, 0), fueled(down(u), 5), minding(u, 8, 40), minding(fueled(down(u), api.MaxTime), 1, 1)} {
		given := with(one, 0)
		got, e := Boot(given)
		wantErrno(t, "boot", e, api.OK)
		wantUnit(t, "boot", got, u)
		wantUnit(t, "boot leaves what it was given", given, one)
	}
	bare := unitOf() // whether there is an image, Boot doesn't ask
	got, e := Boot(down(bare))
	wantErrno(t, "boot of a bare one", e, api.OK)
	wantUnit(t, "boot of a bare one", got, bare)
}
