package gate

import (
	"math"
	"reflect"
	"slices"
	"testing"

	"wainwright/api"
	"wainwright/unit"
)

// wantDue: with an error there is no message; and what was handed in is as it was.
func wantDue(t *testing.T, what string, g api.Gate, c api.Campaign, of int, wantE api.Errno, want ...api.Message) {
	t.Helper()
	given := but(g, func(*api.Gate) {})
	got, e := Due(given, c, of)
	wantErrno(t, what, e, wantE)
	wantMessages(t, what, got, want)
	wantGate(t, what+" leaves what it was given", given, but(g, func(*api.Gate) {}))
}

func wantMessages(t *testing.T, what string, got, want []api.Message) {
	t.Helper()
	if len(got) != len(want) || len(got) > 0 && !reflect.DeepEqual(got, want) {
		t.Errorf("%s: messages %v, want %v", what, got, want)
	}
}

func wantHeard(t *testing.T, what string, g api.Gate, m api.Message, want api.Gate, answers ...api.Message) {
	t.Helper()
	given := but(g, func(*api.Gate) {})
	got, l, e := Hear(given, m)
	wantErrno(t, what, e, api.OK)
	wantGate(t, what, got, want)
	wantMessages(t, what, l, answers)
	wantGate(t, what+" leaves what it was given", given, but(g, func(*api.Gate) {}))
}

func wantRefused(t *testing.T, what string, g api.Gate, m api.Message, want api.Errno) {
	t.Helper()
	got, l, e := Hear(g, m)
	wantErrno(t, what, e, want)
	wantGate(t, what, got, api.Gate{})
	if l != nil {
		t.Errorf("%s: answers %v behind an error", what, l)
	}
}

func vote(of, n int) api.Message {
	return api.Message{Kind: api.Vote, Unit: of, N: n, Yes: true}
}

func did(of, n int) api.Message { return api.Message{Kind: api.Done, Unit: of, N: n} }

func ask(of, n int) api.Message { return api.Message{Kind: api.Ask, Unit: of, N: n} }

func commit(of, n int) api.Message { return api.Message{Kind: api.Commit, Unit: of, N: n} }

func abort(of, n int) api.Message { return api.Message{Kind: api.Abort, Unit: of, N: n} }

// sent is how an image goes out, told by its pieces.
func sent(of, n, name int, pieces ...[]int) []api.Message {
	var l []api.Message
	at := 0
	for _, words := range pieces {
		l = append(l, api.Message{Kind: api.Piece, Unit: of, N: n, At: at, Words: words})
		at += len(words)
	}
	return append(l, api.Message{Kind: api.Prepare, Unit: of, N: n, At: at, Image: name})
}

// campaignOf has the same image for each of its units; what it is called isn't asked.
func campaignOf(n, units, name int, image []int) api.Campaign {
	c := api.Campaign{N: n, R: api.Release{Version: 3, Until: 9}}
	for i := range units {
		c.R.Targets = append(c.R.Targets, api.Target{Unit: i, Image: name, Long: len(image)})
		c.Images = append(c.Images, image)
	}
	return c
}

func TestDueOfEachLength(t *testing.T) {
	w := counted(api.MaxImage+1, 300)
	cases := []struct {
		long   int
		pieces [][]int
	}{
		{0, nil},
		{1, [][]int{w[:1]}},
		{7, [][]int{w[:7]}},
		{8, [][]int{w[:8]}},
		{9, [][]int{w[:8], w[8:9]}},
		{16, [][]int{w[:8], w[8:16]}},
		{17, [][]int{w[:8], w[8:16], w[16:17]}},
		{39, [][]int{w[:8], w[8:16], w[16:24], w[24:32], w[32:39]}},
		{40, [][]int{w[:8], w[8:16], w[16:24], w[24:32], w[32:40]}},
	}
	for units := 1; units <= api.MaxUnits; units++ {
		for _, n := range []int{1, 8} {
			g := gateOf(units, []int{1, n, 3})
			for of := range units {
				for _, c := range cases {
					wantDue(t, "due", g, campaignOf(n, units, 9, w[:c.long]), of, api.OK, sent(of, n, 9, c.pieces...)...)
				}
				wantDue(t, "a word too many", g, campaignOf(n, units, 9, w), of, api.ErrMany)
				wantDue(t, "endless", g, campaignOf(n, units, 9, make([]int, 1000000)), of, api.ErrMany)
			}
		}
	}
	odd := campaignOf(1, 1, -5, []int{-1, 1 << 40}) // what the words, or the name, may be, isn't asked
	wantDue(t, "odd", gateOf(1, []int{1, 1, 3}), odd, 0, api.OK, sent(0, 1, -5, []int{-1, 1 << 40})...)
}

// TestDueOfEachUnit: each has its own image, and target.
func TestDueOfEachUnit(t *testing.T) {
	f := fleetOf(t, 4, []int{7}, []int{8, 8}, counted(9, 90), counted(40, 400))
	g := minding(gateOf(4, []int{1, 2, 5}), []int{1}, []int{0, 1, 2, 3}) // who Did is for later
	c := f.campaign(2, 5)
	image := f.images[2]
	wantDue(t, "unit 0", g, c, 0, api.OK, sent(0, 2, 2, []int{8, 8})...)
	wantDue(t, "unit 1, which voted", g, c, 1, api.OK)
	wantDue(t, "unit 2", g, c, 2, api.OK, sent(2, 2, 4, f.images[3][:8], f.images[3][8:16], f.images[3][16:24], f.images[3][24:32], f.images[3][32:])...)
	wantDue(t, "unit 3", g, c, 3, api.OK, sent(3, 2, 1, []int{7})...)
	all := minding(g, []int{0, 1, 2, 3}, nil)
	for of := range 4 {
		wantDue(t, "all voted", all, c, of, api.OK)
	}
	c.Images[1] = make([]int, 41)
	wantDue(t, "who voted gets nothing, not even of too many words", g, c, 1, api.OK)
	for _, decision := range []struct {
		record int
		tell   func(of, n int) api.Message
	}{{2, commit}, {3, abort}} {
		g := minding(gateOf(4, []int{1, 2, 5}, []int{decision.record, 2}), []int{0, 1}, []int{0, 2})
		wantDue(t, "voted, and did", g, c, 0, api.OK)
		wantDue(t, "voted", g, c, 1, api.OK, decision.tell(1, 2)) // of too many words, which isn't asked any more
		wantDue(t, "did", g, c, 2, api.OK)
		wantDue(t, "neither", g, c, 3, api.OK, decision.tell(3, 2))
	}
	if !slices.Equal(image, counted(9, 90)) {
		t.Errorf("an image was changed")
	}
}

func TestDueWrongInputs(t *testing.T) {
	image := []int{7}
	long := make([]int, 41)
	begun := gateOf(2, []int{1, 3, 5})
	without := func(images, targets int) api.Campaign {
		c := campaignOf(3, 2, 1, image)
		c.Images, c.R.Targets = c.Images[:images], c.R.Targets[:targets]
		return c
	}
	right := campaignOf(3, 2, 1, image)
	cases := []struct {
		what string
		g    api.Gate
		c    api.Campaign
		of   int
		e    api.Errno
	}{
		{"not up", down(begun), right, 0, api.ErrPower},
		{"not up, and none begun", down(gateOf(2)), right, 9, api.ErrPower},
		{"none begun", gateOf(2), right, 0, api.ErrLate},
		{"none begun, of number 0", gateOf(2), campaignOf(0, 2, 1, image), 0, api.ErrLate},
		{"none begun, and no unit", gateOf(2), api.Campaign{}, 2, api.ErrLate},
		{"committed, ended", gateOf(2, []int{1, 3, 5}, []int{2, 3}, []int{4, 3}), right, 0, api.ErrLate},
		{"aborted, ended, and no unit", gateOf(2, []int{1, 3, 5}, []int{3, 3}, []int{4, 3}), right, 2, api.ErrLate},
		{"unit -1", begun, right, -1, api.ErrWho},
		{"unit 2 of 2", begun, campaignOf(3, 3, 1, image), 2, api.ErrWho},
		{"unit lowest", begun, right, math.MinInt, api.ErrWho},
		{"unit highest", begun, right, math.MaxInt, api.ErrWho},
		{"of the one ahead", begun, campaignOf(2, 2, 1, image), 0, api.ErrWho},
		{"of the next one", begun, campaignOf(4, 2, 1, image), 0, api.ErrWho},
		{"of number 0", begun, campaignOf(0, 2, 1, image), 0, api.ErrWho},
		{"nothing", begun, api.Campaign{}, 0, api.ErrWho},
		{"no images", begun, without(0, 2), 0, api.ErrWho},
		{"no targets", begun, without(2, 0), 0, api.ErrWho},
		{"no image of the last unit", begun, without(1, 2), 1, api.ErrWho},
		{"no target of the last unit", begun, without(2, 1), 1, api.ErrWho},
		{"of the one ahead, and too long", begun, campaignOf(2, 2, 1, long), 0, api.ErrWho},
		{"too long", begun, campaignOf(3, 2, 1, long), 0, api.ErrMany},
	}
	for _, c := range cases {
		wantDue(t, c.what, c.g, c.c, c.of, c.e)
	}
	for _, record := range []int{2, 3} { // what isn't needed any more must be there, too
		decided := minding(gateOf(2, []int{1, 3, 5}, []int{record, 3}), []int{0, 1}, []int{0, 1})
		wantDue(t, "decided, no image", decided, without(1, 2), 1, api.ErrWho)
		wantDue(t, "decided, no target", decided, without(2, 1), 1, api.ErrWho)
		wantDue(t, "decided, another one", decided, campaignOf(2, 2, 1, image), 1, api.ErrWho)
	}
	wantDue(t, "the first unit has both", begun, without(1, 1), 0, api.OK, sent(0, 3, 1, image)...)
}

func TestHearWrongInputs(t *testing.T) {
	for units := 1; units <= api.MaxUnits; units++ {
		g := gateOf(units, []int{1, 1, 3})
		for _, one := range []api.Gate{g, down(g), fueled(g, 0)} {
			for kind := -1; kind <= 8; kind++ {
				for _, of := range []int{-1, units, api.MaxUnits, math.MinInt, math.MaxInt} {
					wantRefused(t, "no such unit", one, api.Message{Kind: kind, Unit: of, N: 1, Yes: true}, api.ErrRange)
				}
				for _, n := range []int{-1, 0, api.MaxReleases + 1, math.MinInt, math.MaxInt} {
					wantRefused(t, "no such number", one, api.Message{Kind: kind, Unit: units - 1, N: n, Yes: true}, api.ErrRange)
				}
			}
		}
	}
}

// TestHearsNothing are messages that change nothing, and are not answered, with power or without.
func TestHearsNothing(t *testing.T) {
	begun := gateOf(2, []int{1, 3, 5})
	committed := minding(gateOf(2, []int{1, 3, 5}, []int{2, 3}), []int{0, 1}, []int{0})
	aborted := minding(gateOf(2, []int{1, 3, 5}, []int{3, 3}), []int{0}, nil)
	ended := minding(gateOf(2, []int{1, 3, 5}, []int{2, 3}, []int{4, 3}), []int{0}, []int{0})
	all := minding(begun, []int{0, 1}, []int{0, 1})
	cases := []struct {
		what string
		g    api.Gate
		m    api.Message
	}{
		{"vote, none begun", gateOf(2), vote(0, 1)},
		{"vote of the one ahead", begun, vote(0, 2)},
		{"vote of the next one", begun, vote(0, 4)},
		{"vote without Yes", begun, api.Message{Kind: api.Vote, N: 3}},
		{"vote without Yes, behind one with", minding(begun, []int{0}, nil), api.Message{Kind: api.Vote, N: 3}},
		{"vote without Yes, when all have voted", all, api.Message{Kind: api.Vote, N: 3}},
		{"vote twice", minding(begun, []int{0}, nil), vote(0, 3)},
		{"vote, to be committed", minding(committed, []int{0}, nil), vote(1, 3)},
		{"vote, to be aborted", aborted, vote(1, 3)},
		{"vote, ended", ended, vote(1, 3)},
		{"done, none begun", gateOf(2), did(0, 1)},
		{"done, not decided", begun, did(0, 3)},
		{"done, not decided, when all did", all, did(0, 3)},
		{"done of the one ahead", committed, did(1, 2)},
		{"done of the next one", aborted, did(1, 4)},
		{"done twice", committed, did(0, 3)},
		{"done, ended", ended, did(1, 3)},
		{"ask, not decided", begun, ask(0, 3)},
		{"ask, not decided, of one that voted", minding(begun, []int{1}, nil), ask(1, 3)},
		{"piece", begun, api.Message{Kind: api.Piece, N: 3, Yes: true}},
		{"prepare", begun, api.Message{Kind: api.Prepare, N: 3, Yes: true}},
		{"commit", begun, commit(0, 3)},
		{"abort", begun, abort(0, 3)},
		{"commit of one that is to be aborted", aborted, commit(0, 3)},
		{"abort of one that is to be committed", committed, abort(1, 3)},
		{"kind 0", begun, api.Message{N: 3, Yes: true}},
		{"kind -1", begun, api.Message{Kind: -1, N: 3, Yes: true}},
		{"kind 8", begun, api.Message{Kind: 8, N: 3, Yes: true}},
		{"kind highest", committed, api.Message{Kind: math.MaxInt, Unit: 1, N: 3, Yes: true}},
	}
	for _, c := range cases {
		for _, fuel := range []int{-1, 0} {
			wantHeard(t, c.what, fueled(c.g, fuel), c.m, fueled(c.g, fuel))
		}
	}
}

// TestHearDown: to a gateway that isn't up nothing is told, whatever it is.
func TestHearDown(t *testing.T) {
	for _, g := range []api.Gate{
		gateOf(1),
		gateOf(1, []int{1, 3, 5}),
		gateOf(1, []int{1, 3, 5}, []int{2, 3}),
		gateOf(1, []int{1, 3, 5}, []int{3, 3}),
		minding(gateOf(1, []int{1, 3, 5}, []int{3, 3}, []int{4, 3}), []int{0}, []int{0}),
	} {
		for _, m := range []api.Message{vote(0, 3), did(0, 3), ask(0, 3), ask(0, 2), ask(0, 8), commit(0, 3), {Kind: 99, N: 1}} {
			for _, fuel := range []int{-1, 0, 100} {
				wantHeard(t, "down", fueled(down(g), fuel), m, fueled(down(g), fuel))
			}
		}
	}
}

// TestHearsOfSome: as long as others are missing it is kept in mind alone, for which no power is needed.
func TestHearsOfSome(t *testing.T) {
	for units := 2; units <= api.MaxUnits; units++ {
		for last := range units {
			others := slices.Delete(counted(units, 0), last, last+1)
			for i, of := range others {
				for _, fuel := range []int{-1, 0, 5} {
					begun := fueled(gateOf(units, []int{1, 8, 5}), fuel)
					wantHeard(t, "vote", minding(begun, others[:i], others), vote(of, 8), minding(begun, others[:i+1], others))
					for _, record := range []int{2, 3} {
						decided := fueled(gateOf(units, []int{1, 1, 5}, []int{record, 1}), fuel)
						wantHeard(t, "done", minding(decided, others, others[:i]), did(of, 1), minding(decided, others, others[:i+1]))
					}
				}
			}
		}
	}
}

// TestAsk: the answer hangs on the number alone, not on who asks, or what else is in mind.
func TestAsk(t *testing.T) {
	begun, committed, aborted, ended := []int{1, 3, 5}, []int{2, 3}, []int{3, 3}, []int{4, 3}
	cases := []struct {
		what   string
		g      api.Gate
		commit int // the number that is to be committed
		silent int // the number of which nothing is said yet
	}{
		{"none begun", gateOf(4), 0, 0},
		{"pending", gateOf(4, begun), 0, 3},
		{"to be committed", gateOf(4, begun, committed), 3, 0},
		{"to be aborted", gateOf(4, begun, aborted), 0, 0},
		{"committed, ended", gateOf(4, begun, committed, ended), 3, 0},
		{"aborted, ended", gateOf(4, begun, aborted, ended), 0, 0},
		{"the next one is pending", gateOf(4, []int{1, 2, 4}, []int{2, 2}, []int{4, 2}, begun), 0, 3},
		{"the first one", gateOf(4, []int{1, 1, 4}, []int{2, 1}), 1, 0},
		{"the last one", gateOf(4, []int{1, 8, 4}, []int{2, 8}), 8, 0},
	}
	for _, c := range cases {
		for of := range 4 {
			for n := 1; n <= api.MaxReleases; n++ {
				for _, g := range []api.Gate{c.g, fueled(minding(c.g, []int{0, 1, 2, 3}, []int{1}), 0)} {
					m := api.Message{Kind: api.Ask, Unit: of, N: n, At: 3, Image: 4, Words: []int{5}, Yes: true}
					switch n {
					case c.silent:
						wantHeard(t, c.what, g, m, g)
					case c.commit:
						wantHeard(t, c.what, g, m, g, commit(of, n))
					default:
						wantHeard(t, c.what, g, m, g, abort(of, n))
					}
				}
			}
		}
	}
}

// wordChange is a word of flash that is to be erased (to -1), or programmed.
type wordChange struct{ at, to int }

// recorded is a record behind n words of the log's sector 0: its words first, then its head.
func recorded(n int, words ...int) []wordChange {
	var l []wordChange
	for i, w := range words {
		l = append(l, wordChange{n + 2 + i, w})
	}
	return append(l, wordChange{n + 1, 0xA500 + len(words)})
}

// moved are records that go to sector 1, with the generation 2 behind them.
func moved(records ...[]int) []wordChange {
	var l []wordChange
	for i := range 32 {
		l = append(l, wordChange{32 + i, -1})
	}
	for i, w := range logged(records...) {
		l = append(l, wordChange{33 + i, w})
	}
	return append(l, wordChange{32, 2})
}

// after is the gateway when as many of the changes are done as its fuel lets.
func after(g api.Gate, l []wordChange) (api.Gate, bool) {
	whole := g.F.Fuel < 0 || g.F.Fuel >= len(l)
	if !whole {
		l = l[:g.F.Fuel]
	}
	return but(g, func(g *api.Gate) {
		for _, c := range l {
			if c.to == -1 {
				g.F.Words[c.at] = erased
			} else {
				g.F.Words[c.at] &= c.to
			}
		}
		if g.F.Fuel >= 0 {
			g.F.Fuel -= len(l)
		}
	}), whole
}

// noted is a call by which a record is noted: its changes, word by word; what is in mind behind it; and what it says, done and not done.
type noted struct {
	what       string
	g          api.Gate
	do         func(g api.Gate) (api.Gate, int, api.Errno)
	l          []wordChange
	voted, did []int
	version    int // which was taken; 0: as ahead
	n          int
	ahead      api.GateState
	behind     api.GateState
}

// hearing leaves it to others to look at the answers, of which there are none here.
func hearing(t *testing.T, m api.Message) func(g api.Gate) (api.Gate, int, api.Errno) {
	return func(g api.Gate) (api.Gate, int, api.Errno) {
		out, l, e := Hear(g, m)
		wantMessages(t, "hear", l, nil)
		return out, 0, e
	}
}

func givingUp(g api.Gate) (api.Gate, int, api.Errno) {
	out, e := GiveUp(g)
	return out, 0, e
}

// notings are all kinds of records, of a gateway of three units: in a log with room, in one without, and in one that isn't clean.
func notings(t *testing.T) []noted {
	f := fleetOf(t, 3, []int{7}, []int{8, 8})
	beginning := func(version int) func(g api.Gate) (api.Gate, int, api.Errno) {
		return func(g api.Gate) (api.Gate, int, api.Errno) { return Begin(f.b, f.l, g, f.offer(version), 0) }
	}
	all, some := []int{0, 1, 2}, []int{0, 2}
	torn := func(g api.Gate) api.Gate { return with(with(g, 31, 0), 33, counted(31, 1)...) }
	none := api.GateState{}
	begun := api.GateState{N: 1, Version: 3}
	toCommit := api.GateState{N: 1, Version: 3, Commit: true}
	toAbort := api.GateState{N: 1, Version: 3, Abort: true}
	committed := api.GateState{N: 1, Version: 3, Commit: true, Ended: true}
	aborted := api.GateState{N: 1, Version: 3, Abort: true, Ended: true}
	next := api.GateState{N: 2, Version: 6}
	one, two, three, four := []int{1, 1, 3}, []int{2, 1}, []int{3, 1}, []int{4, 1}
	filler := []int{9, 9, 9, 9} // says nothing, and takes five words
	g := func(records ...[]int) api.Gate { return minding(gateOf(3, records...), some, some) }
	return []noted{
		{"begin", g(), beginning(3), recorded(0, 1, 1, 3), nil, nil, 3, 1, none, begun},
		{"begin, torn", torn(g()), beginning(3), moved(one), nil, nil, 3, 1, none, begun},
		{"begin, behind one that was committed", g(one, two, four), beginning(6), recorded(10, 1, 2, 6), nil, nil, 6, 2, committed, next},
		{"begin, behind one that was committed, torn", torn(g(one, two, four)), beginning(6), moved(one, two, four, []int{1, 2, 6}), nil, nil, 6, 2, committed, next},
		{"begin, behind one that was aborted, torn", torn(g(one, three, four)), beginning(6), moved(one, three, four, []int{1, 2, 6}), nil, nil, 6, 2, aborted, next},
		{"begin, in the last words", g(one, two, four, filler, filler, filler, []int{9}), beginning(6), recorded(27, 1, 2, 6), nil, nil, 6, 2, committed, next},
		{"begin, without room", g(one, two, four, filler, filler, filler, []int{9, 9}), beginning(6), moved(one, two, four, []int{1, 2, 6}), nil, nil, 6, 2, committed, next},
		{"give up", g(one), givingUp, recorded(4, 3, 1), some, some, 0, 0, begun, toAbort},
		{"give up, torn", torn(g(one)), givingUp, moved(one, three), some, some, 0, 0, begun, toAbort},
		{"the last vote", g(one), hearing(t, vote(1, 1)), recorded(4, 2, 1), all, some, 0, 0, begun, toCommit},
		{"the last vote, torn", torn(g(one)), hearing(t, vote(1, 1)), moved(one, two), all, some, 0, 0, begun, toCommit},
		{"the last vote, in the last words", g(one, filler, filler, filler, filler, []int{9, 9, 9}), hearing(t, vote(1, 1)), recorded(28, 2, 1), all, some, 0, 0, begun, toCommit},
		{"the last vote, without room", g(one, filler, filler, filler, filler, filler), hearing(t, vote(1, 1)), moved(one, two), all, some, 0, 0, begun, toCommit},
		{"a vote twice, when all have voted", minding(g(one), all, nil), hearing(t, vote(1, 1)), recorded(4, 2, 1), all, nil, 0, 0, begun, toCommit},
		{"the last that did", g(one, two), hearing(t, did(1, 1)), recorded(7, 4, 1), some, all, 0, 0, toCommit, committed},
		{"the last that did, torn", torn(g(one, two)), hearing(t, did(1, 1)), moved(one, two, four), some, all, 0, 0, toCommit, committed},
		{"the last that gave up", g(one, three), hearing(t, did(1, 1)), recorded(7, 4, 1), some, all, 0, 0, toAbort, aborted},
		{"the last that gave up, torn", torn(g(one, three)), hearing(t, did(1, 1)), moved(one, three, four), some, all, 0, 0, toAbort, aborted},
		{"a done twice, when all did", minding(g(one, three), nil, all), hearing(t, did(1, 1)), recorded(7, 4, 1), nil, all, 0, 0, toAbort, aborted},
	}
}

// TestNotedWithEachFuel: behind each number of changed words the gateway is as far as it came, isn't up, trusts what it trusted, and has nothing in mind; booted, its records say what they said.
func TestNotedWithEachFuel(t *testing.T) {
	for _, c := range notings(t) {
		wantState(t, c.what+", ahead", c.g, c.ahead)
		for fuel := -1; fuel <= len(c.l)+2; fuel++ {
			want, whole := after(fueled(c.g, fuel), c.l)
			if !whole {
				wantNoted(t, c.what+", in part", c, fueled(c.g, fuel), minding(down(want), nil, nil), 0, c.ahead)
				continue
			}
			if c.version != 0 {
				want = taken(want, c.version)
			}
			wantNoted(t, c.what, c, fueled(c.g, fuel), minding(want, c.voted, c.did), c.n, c.behind)
		}
	}
}

func wantNoted(t *testing.T, what string, c noted, g, want api.Gate, wantN int, s api.GateState) {
	t.Helper()
	given := but(g, func(*api.Gate) {})
	got, n, e := c.do(given)
	wantErrno(t, what, e, api.OK)
	if n != wantN {
		t.Errorf("%s: begun as %d, want %d", what, n, wantN)
	}
	wantGate(t, what, got, want)
	wantGate(t, what+" leaves what it was given", given, but(g, func(*api.Gate) {}))
	booted, e := Boot(got)
	wantErrno(t, what, e, api.OK)
	wantState(t, what+", booted", booted, s)
}

// TestFullLog: where the log has no room any more nothing is noted, whatever power there is; what is only kept in mind is kept.
func TestFullLog(t *testing.T) {
	for _, c := range notings(t) {
		last := with(with(c.g, 0, 60000), 31, 0) // not clean, and no generation behind
		for _, fuel := range []int{-1, 0, 3, 100} {
			g := fueled(last, fuel)
			want := minding(g, c.voted, c.did)
			if c.version != 0 {
				want = g
			}
			wantNoted(t, c.what+", full", c, g, want, 0, c.ahead)
			wantNoted(t, c.what+", full, again", c, want, want, 0, c.ahead)
		}
		if c.l[len(c.l)-1].at < 32 {
			got, n, e := c.do(with(c.g, 0, 60000))
			wantErrno(t, c.what+", the last generation with room", e, api.OK)
			wantState(t, c.what+", the last generation with room", got, c.behind)
			if n != c.n {
				t.Errorf("%s, the last generation with room: begun as %d, want %d", c.what, n, c.n)
			}
		}
	}
}

// roomy is the list with spare room behind it, which is told from all that is in it.
func roomy[T any](l []T, spare T) []T {
	own := append(make([]T, 0, len(l)+8), l...)
	for i := len(own); i < cap(own); i++ {
		own[:cap(own)][i] = spare
	}
	return own
}

func spoil[T any](l []T, x T) {
	l = l[:cap(l)]
	for i := range l {
		l[i] = x
	}
}

// roomyGate has spare room behind each of its lists.
func roomyGate(g api.Gate) api.Gate {
	g.F.Words, g.T.R.Keys = roomy(g.F.Words, 777), roomy(g.T.R.Keys, 777)
	g.Voted, g.Did = roomy(g.Voted, true), roomy(g.Did, true)
	return g
}

// wholeGate is the gateway with the spare room laid open.
func wholeGate(g api.Gate) api.Gate {
	g.F.Words, g.T.R.Keys = g.F.Words[:cap(g.F.Words)], g.T.R.Keys[:cap(g.T.R.Keys)]
	g.Voted, g.Did = g.Voted[:cap(g.Voted)], g.Did[:cap(g.Did)]
	return g
}

// wantOwn spoils the lists of an answer one by one: neither the others nor what was handed in may see it.
func wantOwn(t *testing.T, what string, given, ahead, got api.Gate) {
	t.Helper()
	want := but(got, func(*api.Gate) {})
	spoil(got.Voted, true)
	wantGate(t, what+", votes spoilt", but(got, func(g *api.Gate) { g.Voted = want.Voted }), want)
	spoil(got.Did, true)
	spoil(got.F.Words, -1)
	wantGate(t, what+", all but the keys spoilt", api.Gate{F: want.F, Up: got.Up, T: got.T, Voted: want.Voted, Did: want.Did}, want)
	spoil(got.T.R.Keys, -1)
	wantGate(t, what+", what was handed in", wholeGate(given), wholeGate(roomyGate(ahead)))
}

func TestAnswersAreNewMemory(t *testing.T) {
	for _, c := range notings(t) {
		for _, fuel := range []int{-1, 0, 2, 1000} {
			ahead := fueled(c.g, fuel)
			given := roomyGate(ahead)
			got, _, _ := c.do(given)
			wantOwn(t, c.what, given, ahead, got)
			got, _ = Boot(given)
			wantOwn(t, "boot", given, ahead, got)
			for _, m := range []api.Message{ask(0, 1), vote(0, 1), did(0, 1), ask(0, 8), {Kind: 99, N: 1}} {
				got, _, _ = Hear(given, m)
				wantOwn(t, "hear", given, ahead, got)
				off := down(ahead)
				still := roomyGate(off)
				got, _, _ = Hear(still, m)
				wantOwn(t, "hear, down", still, off, got)
			}
		}
	}
}

// TestDueIsNewMemory: neither the image nor the other pieces see what becomes of a piece.
func TestDueIsNewMemory(t *testing.T) {
	image := roomy(counted(20, 60), 777)
	g := gateOf(2, []int{1, 1, 3})
	l, e := Due(g, campaignOf(1, 2, 5, image), 1)
	wantErrno(t, "due", e, api.OK)
	w := counted(20, 60)
	pieces := [][]int{w[:8], w[8:16], w[16:]}
	wantMessages(t, "due", l, sent(1, 1, 5, pieces...))
	for i := range pieces {
		spoil(l[i].Words, -1)
		for j := i + 1; j < len(pieces); j++ {
			if !slices.Equal(l[j].Words, pieces[j]) {
				t.Errorf("piece %d shares memory with piece %d", j, i)
			}
		}
	}
	if !slices.Equal(image[:cap(image)], roomy(w, 777)[:cap(image)]) {
		t.Errorf("a piece shares memory with the image: %v", image[:cap(image)])
	}
}

// TestBeginLeavesItsOffer: what is trusted then has keys of its own, and nothing of what was handed in is changed.
func TestBeginLeavesItsOffer(t *testing.T) {
	f := fleetOf(t, 2, []int{7}, []int{8, 8})
	f.b.Texts = append(f.b.Texts, "root 2 1 of 3 6")
	f.l = append(f.l, api.Signed{Key: 3, Name: len(f.b.Texts)})
	freshly := func() (fleet, api.Offer) {
		o := f.offer(4)
		o.Roots, o.RootSigs = []api.Root{{Version: 2, Keys: roomy([]int{3, 6}, 777), Threshold: 1}}, [][]int{{3}}
		return fleet{b: api.Book{Texts: roomy(f.b.Texts, "spare")}, l: roomy(f.l, api.Signed{Key: 9, Name: 9})}, o
	}
	for _, fuel := range []int{-1, 2} {
		given, o := freshly()
		got, n, e := Begin(given.b, given.l, fueled(gateOf(2), fuel), o, 0)
		wantErrno(t, "begin", e, api.OK)
		if fuel == -1 && (n != 1 || !reflect.DeepEqual(got.T, api.Trust{R: root(2, 1, 3, 6), Version: 4})) {
			t.Errorf("begun as %d, trusting %v", n, got.T)
		}
		spoil(got.T.R.Keys, -1)
		same, same2 := freshly()
		if !reflect.DeepEqual(o, same2) || !slices.Equal(o.Roots[0].Keys[:10], same2.Roots[0].Keys[:10]) {
			t.Errorf("the offer was changed: %v", o)
		}
		if !slices.Equal(given.b.Texts[:cap(given.b.Texts)], same.b.Texts[:cap(same.b.Texts)]) || !slices.Equal(given.l[:cap(given.l)], same.l[:cap(same.l)]) {
			t.Errorf("the book, or who has signed, was changed")
		}
	}
}

// bench is a gateway and its units, between which each message comes, at once and in order.
type bench struct {
	f     fleet
	g     api.Gate
	units []api.Unit
}

func benchOf(t *testing.T, f fleet) *bench {
	t.Helper()
	g, e := New(root(1, 1, 3), f.units)
	wantErrno(t, "new", e, api.OK)
	x := &bench{f: f, g: g}
	for range f.units {
		u, e := unit.New(f.images[0], 1)
		wantErrno(t, "new unit", e, api.OK)
		x.units = append(x.units, u)
	}
	return x
}

func (x *bench) begin(t *testing.T, version, want int) {
	t.Helper()
	g, n, e := Begin(x.f.b, x.f.l, x.g, x.f.offer(version), 0)
	wantErrno(t, "begin", e, api.OK)
	if n != want {
		t.Errorf("begun as %d, want %d", n, want)
	}
	x.g = g
}

// tell sends a unit what is due, and the gateway what the unit answers; it says what went, by kinds.
func (x *bench) tell(t *testing.T, n, version, of int) []int {
	t.Helper()
	var kinds []int
	l, e := Due(x.g, x.f.campaign(n, version), of)
	wantErrno(t, "due", e, api.OK)
	for _, m := range l {
		kinds = append(kinds, m.Kind)
		u, answers, e := unit.Hear(x.f.b, x.units[of], m)
		wantErrno(t, "unit hears", e, api.OK)
		x.units[of] = u
		for _, a := range answers {
			kinds = append(kinds, a.Kind)
			g, back, e := Hear(x.g, a)
			wantErrno(t, "gateway hears", e, api.OK)
			wantMessages(t, "gateway hears", back, nil)
			x.g = g
		}
	}
	return kinds
}

func (x *bench) wantRuns(t *testing.T, of, image int) {
	t.Helper()
	words, name, e := unit.Runs(x.units[of])
	wantErrno(t, "runs", e, api.OK)
	if name != image+1 || !slices.Equal(words, x.f.images[image]) {
		t.Errorf("unit %d runs %v of name %d, want %d", of, words, name, image+1)
	}
}

// TestExample is the document's: a campaign of one unit with an image of 10 words.
func TestExample(t *testing.T) {
	x := benchOf(t, fleetOf(t, 1, []int{7}, counted(10, 70)))
	x.begin(t, 1, 1)
	if got := x.tell(t, 1, 1, 0); !slices.Equal(got, []int{api.Piece, api.Piece, api.Prepare, api.Vote}) {
		t.Errorf("went %v", got)
	}
	x.wantRuns(t, 0, 0)
	if got := x.tell(t, 1, 1, 0); !slices.Equal(got, []int{api.Commit, api.Done}) {
		t.Errorf("went %v", got)
	}
	x.wantRuns(t, 0, 1)
	wantState(t, "ended", x.g, api.GateState{N: 1, Version: 1, Commit: true, Ended: true})
}

// TestCampaigns brings as many campaigns to units as there may be, of which some are given up; ahead of each step the gateway may be booted, by which it forgets votes.
func TestCampaigns(t *testing.T) {
	for units := 1; units <= api.MaxUnits; units++ {
		for _, boots := range []bool{false, true} {
			x := benchOf(t, fleetOf(t, units, []int{7}, []int{8, 8}, counted(9, 90), counted(40, 500)))
			boot := func() {
				if boots {
					x.g, _ = Boot(x.g)
				}
			}
			runs := make([]int, units)
			for n := 1; n <= api.MaxReleases; n++ {
				version := n + 1
				boot()
				x.begin(t, version, n)
				s := api.GateState{N: n, Version: version}
				wantState(t, "begun", x.g, s)
				wanted := units
				if s.Abort = n%3 == 0; s.Abort {
					wanted = units - 1
				}
				for of := range wanted {
					x.tell(t, n, version, of)
				}
				if s.Abort {
					boot()
					g, e := GiveUp(x.g)
					wantErrno(t, "give up", e, api.OK)
					x.g = g
				} else {
					s.Commit = true
					for of := range units {
						runs[of] = x.f.imageOf(version, of)
					}
				}
				wantState(t, "decided", x.g, s)
				boot()
				for of := range units {
					x.tell(t, n, version, of)
					x.wantRuns(t, of, runs[of])
				}
				s.Ended = true
				wantState(t, "ended", x.g, s)
			}
			wantBegun(t, "all numbers were begun", x.f, x.g, x.f.offer(10), 0, api.Gate{}, 0, api.ErrFull)
		}
	}
}
