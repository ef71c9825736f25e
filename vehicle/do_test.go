package vehicle

import (
	"math"
	"math/rand"
	"reflect"
	"slices"
	"testing"

	"wainwright/api"
	"wainwright/gate"
	"wainwright/unit"
)

// wantDone: the vehicle is as ahead, but for the changes; and what was handed in is as it was.
func wantDone(t *testing.T, what string, v api.Vehicle, x api.Happening, changes ...func(v *api.Vehicle)) api.Vehicle {
	t.Helper()
	given := but(v)
	got, e := Do(given, x)
	wantErrno(t, what, e, api.OK)
	wantVehicle(t, what, got, but(v, changes...))
	wantVehicle(t, what+" leaves what it was given", given, v)
	return got
}

func wantRefused(t *testing.T, what string, v api.Vehicle, x api.Happening, want api.Errno) {
	t.Helper()
	given := but(v)
	got, e := Do(given, x)
	wantErrno(t, what, e, want)
	wantNothing(t, what, got)
	wantVehicle(t, what+" leaves what it was given", given, v)
}

func proposing(o api.Offer) api.Happening { return api.Happening{Kind: api.Propose, O: o} }

func poking(of int) api.Happening { return api.Happening{Kind: api.Poke, Unit: of} }

func querying(of int) api.Happening { return api.Happening{Kind: api.Query, Unit: of} }

func arriving(k int) api.Happening { return api.Happening{Kind: api.Arrive, K: k} }

func losing(k int) api.Happening { return api.Happening{Kind: api.Lose, K: k} }

func doubling(k int) api.Happening { return api.Happening{Kind: api.Double, K: k} }

func cutting(node, k int) api.Happening { return api.Happening{Kind: api.Cut, Unit: node, K: k} }

func booting(node int) api.Happening { return api.Happening{Kind: api.Boot, Unit: node} }

var (
	givingUp = api.Happening{Kind: api.GiveUp}
	ticking  = api.Happening{Kind: api.Tick}
)

func message(kind, of, n int) api.Message { return api.Message{Kind: kind, Unit: of, N: n} }

func yes(of, n int) api.Message { return api.Message{Kind: api.Vote, Unit: of, N: n, Yes: true} }

// sent is how an image goes out, told by its pieces.
func sent(of, n, name int, pieces ...[]int) []api.Message {
	var l []api.Message
	at := 0
	for _, words := range pieces {
		l = append(l, api.Message{Kind: api.Piece, Unit: of, N: n, At: at, Words: words})
		at += len(words)
	}
	return append(l, api.Message{Kind: api.Prepare, Unit: of, N: n, At: at, Image: name})
}

func sending(l ...api.Message) func(v *api.Vehicle) {
	return func(v *api.Vehicle) { v.Net = append(v.Net, l...) }
}

// net is the vehicle with just these messages on their way.
func net(l ...api.Message) func(v *api.Vehicle) {
	return func(v *api.Vehicle) { v.Net = l }
}

// asks are n messages that say little.
func asks(n int) []api.Message {
	l := make([]api.Message, n)
	for i := range l {
		l[i] = message(api.Ask, 0, i%api.MaxReleases+1)
	}
	return l
}

// noted is a change by which the gateway's log has these records more.
func noted(t *testing.T, records ...[]int) func(v *api.Vehicle) {
	return func(v *api.Vehicle) { layRecords(t, &v.G.F, records...) }
}

func unitNoted(t *testing.T, of int, records ...[]int) func(v *api.Vehicle) {
	return func(v *api.Vehicle) { layRecords(t, &v.Units[of].F, records...) }
}

// layRecords lays records behind those that are there, word by word, in the log's first sector.
func layRecords(t *testing.T, f *api.Flash, records ...[]int) {
	t.Helper()
	at := 1
	for at < api.Sector && f.Words[at] != api.MaxWord {
		at += f.Words[at] - 0xA500 + 1
	}
	for _, r := range records {
		if at+len(r) >= api.Sector {
			t.Fatalf("no room for %v", r)
		}
		f.Words[at] = 0xA500 + len(r)
		copy(f.Words[at+1:], r)
		at += len(r) + 1
	}
}

func gateUp(up bool) func(v *api.Vehicle) { return func(v *api.Vehicle) { v.G.Up = up } }

func unitUp(of int, up bool) func(v *api.Vehicle) {
	return func(v *api.Vehicle) { v.Units[of].Up = up }
}

func now(n int) func(v *api.Vehicle) { return func(v *api.Vehicle) { v.Now = n } }

// wantState holds what the gateway's log says against what it should.
func wantState(t *testing.T, what string, v api.Vehicle, want api.GateState) {
	t.Helper()
	got, e := gate.Read(v.G)
	wantErrno(t, what, e, api.OK)
	if got != want {
		t.Errorf("%s: state %v, want %v", what, got, want)
	}
}

func wantRuns(t *testing.T, what string, v api.Vehicle, of int, image []int) {
	t.Helper()
	got, _, e := unit.Runs(v.Units[of])
	wantErrno(t, what, e, api.OK)
	if !slices.Equal(got, image) {
		t.Errorf("%s: unit %d runs %v, want %v", what, of, got, image)
	}
}

// TestExample is the document's: a campaign of one unit with an image of 10 words: two pieces, a Prepare, a Vote, a Commit, a Done.
func TestExample(t *testing.T) {
	f := fleetOf(t, 1, []int{7}, counted(10, 70))
	v := f.vehicle(t)
	taken := func(v *api.Vehicle) { v.G.T.Version, v.Campaigns = 1, []api.Campaign{f.campaign(1, 1)} }
	v = wantDone(t, "propose", v, proposing(f.offer(1)), noted(t, []int{1, 1, 1}), taken)
	image := f.images[1]
	v = wantDone(t, "poke", v, poking(0), sending(sent(0, 1, 2, image[:8], image[8:])...))
	v = wantDone(t, "the first piece", v, arriving(0), func(v *api.Vehicle) {
		v.Net = v.Net[1:]
		v.Units[0].N, v.Units[0].Have = 1, 8
		copy(v.Units[0].F.Words[4*32+4:], image[:8])
	})
	v = wantDone(t, "the second piece", v, arriving(0), func(v *api.Vehicle) {
		v.Net = v.Net[1:]
		v.Units[0].Have = 10
		copy(v.Units[0].F.Words[4*32+12:], image[8:])
	})
	v = wantDone(t, "prepare", v, arriving(0), net(yes(0, 1)), unitNoted(t, 0, []int{2, 1}), func(v *api.Vehicle) {
		v.Units[0].N, v.Units[0].Have = 0, 0
		copy(v.Units[0].F.Words[4*32:], []int{10, 2, 65525, 65533})
	})
	v = wantDone(t, "vote", v, arriving(0), net(), noted(t, []int{2, 1}), func(v *api.Vehicle) { v.G.Voted[0] = true })
	wantRuns(t, "not yet", v, 0, []int{7})
	v = wantDone(t, "poke again", v, poking(0), net(message(api.Commit, 0, 1)))
	v = wantDone(t, "commit", v, arriving(0), net(message(api.Done, 0, 1)), unitNoted(t, 0, []int{1, 1, 1}))
	wantRuns(t, "committed", v, 0, image)
	v = wantDone(t, "done", v, arriving(0), net(), noted(t, []int{4, 1}), func(v *api.Vehicle) { v.G.Did[0] = true })
	wantState(t, "ended", v, api.GateState{N: 1, Version: 1, Commit: true, Ended: true})
	wantRefused(t, "nothing is due", v, poking(0), api.ErrLate)
	wantRefused(t, "give up", v, givingUp, api.ErrLate)
	wantRefused(t, "nothing to ask", v, querying(0), api.ErrLate)
	wantRefused(t, "propose again", v, proposing(f.offer(1)), api.ErrOld)
}

// TestGivenUp: a unit that was ready, and one that heard nothing, both run what they ran.
func TestGivenUp(t *testing.T) {
	f := fleetOf(t, 2, []int{7}, []int{8, 8}, []int{9})
	v := told(t, f.vehicle(t), proposing(f.offer(1)), poking(0), arriving(0), arriving(0))
	v = wantDone(t, "give up", v, givingUp, noted(t, []int{3, 1}))
	wantRefused(t, "give up twice", v, givingUp, api.ErrLate)
	v = wantDone(t, "a vote that comes late", v, arriving(0), net())
	v = wantDone(t, "query", v, querying(0), net(message(api.Ask, 0, 1)))
	v = wantDone(t, "ask", v, arriving(0), net(message(api.Abort, 0, 1)))
	v = wantDone(t, "abort", v, arriving(0), net(message(api.Done, 0, 1)), unitNoted(t, 0, []int{3, 1}))
	v = wantDone(t, "done", v, arriving(0), net(), func(v *api.Vehicle) { v.G.Did[0] = true })
	v = wantDone(t, "poke the other one", v, poking(1), net(message(api.Abort, 1, 1)))
	v = told(t, v, arriving(0), arriving(0))
	wantState(t, "ended", v, api.GateState{N: 1, Version: 1, Abort: true, Ended: true})
	for of := range f.units {
		wantRuns(t, "given up", v, of, []int{7})
	}
	wantRefused(t, "a version that was taken", v, proposing(f.offer(1)), api.ErrOld)
	v = told(t, v, proposing(f.offer(2)))
	wantState(t, "the next one", v, api.GateState{N: 2, Version: 2})
}

func TestNoKind(t *testing.T) {
	_, v := busy(t)
	for _, kind := range []int{0, -1, 11, math.MinInt, math.MaxInt} {
		wantRefused(t, "no kind", v, api.Happening{Kind: kind}, api.ErrForm)
		wantRefused(t, "no kind, and nothing else", v, api.Happening{Kind: kind, Unit: -5, K: -5}, api.ErrForm)
	}
}

// TestPropose: what Begin says is said; of what wasn't begun nothing stands among the campaigns.
func TestPropose(t *testing.T) {
	f := fleetOf(t, 2, []int{7}, []int{8, 8}, []int{9})
	v := f.vehicle(t)
	taken := func(version int, l ...api.Campaign) func(v *api.Vehicle) {
		return func(v *api.Vehicle) { v.G.T.Version, v.Campaigns = version, l }
	}
	first := f.campaign(1, 3)
	got := wantDone(t, "propose", v, proposing(f.offer(3)), noted(t, []int{1, 1, 3}), taken(3, first))
	wantRefused(t, "one is pending", got, proposing(f.offer(4)), api.ErrLate)
	wantDone(t, "at its last time", but(v, now(until)), proposing(f.offer(3)), noted(t, []int{1, 1, 3}), taken(3, first))
	wantRefused(t, "behind its last time", but(v, now(until+1)), proposing(f.offer(3)), api.ErrOver)
	wantRefused(t, "not up", but(v, gateUp(false)), proposing(f.offer(3)), api.ErrPower)
	unsigned := f.offer(3)
	unsigned.Sigs = nil
	wantRefused(t, "not signed", v, proposing(unsigned), api.ErrSign)
	short := f.offer(3)
	short.Images = short.Images[:1]
	wantRefused(t, "an image is missing", v, proposing(short), api.ErrForm)
	wantRefused(t, "nothing", v, api.Happening{Kind: api.Propose}, api.ErrRange)
	three := but(v, taken(0, f.campaign(1, 5), f.campaign(2, 6), f.campaign(3, 7)))
	wantDone(t, "campaigns that the log doesn't know", three, proposing(f.offer(3)), noted(t, []int{1, 1, 3}), taken(3, first))
	two := but(three, noted(t, []int{1, 2, 2}, []int{3, 2}, []int{4, 2}))
	wantDone(t, "the third", two, proposing(f.offer(8)), noted(t, []int{1, 3, 8}), taken(8, f.campaign(1, 5), f.campaign(2, 6), f.campaign(3, 8)))
	one := but(two, taken(0, f.campaign(1, 5)))
	odd := wantDone(t, "the second is missing", one, proposing(f.offer(8)), noted(t, []int{1, 3, 8}), taken(8, f.campaign(1, 5), f.campaign(3, 8)))
	wantErrno(t, "a campaign that isn't at its place", Check(odd), api.ErrForm)
	last := but(v, noted(t, []int{1, 8, 2}, []int{3, 8}, []int{4, 8}))
	wantRefused(t, "all were begun", last, proposing(f.offer(8)), api.ErrFull)
}

// TestProposeWithEachFuel: behind each number of changed words it is begun wholly, or not at all.
func TestProposeWithEachFuel(t *testing.T) {
	f := fleetOf(t, 2, []int{7}, []int{8, 8}, []int{9})
	for fuel := range 7 {
		ahead := told(t, f.vehicle(t), cutting(gateway, fuel))
		v := told(t, ahead, proposing(f.offer(3)))
		if fuel < 4 {
			wantVehicle(t, "in part", but(v, func(v *api.Vehicle) { v.G.F = ahead.G.F }), but(ahead, gateUp(false)))
			v = told(t, v, booting(gateway))
			wantState(t, "in part, booted", v, api.GateState{})
			wantRefused(t, "nothing is due", v, poking(0), api.ErrLate)
			v = told(t, v, proposing(f.offer(3)))
		}
		wantState(t, "begun", v, api.GateState{N: 1, Version: 3})
		if want := []api.Campaign{f.campaign(1, 3)}; !reflect.DeepEqual(v.Campaigns, want) || v.G.T.Version != 3 {
			t.Errorf("fuel %d: campaigns %v, version %d", fuel, v.Campaigns, v.G.T.Version)
		}
	}
}

// TestRootsTurn: with an offer the gateway may come to trust another root.
func TestRootsTurn(t *testing.T) {
	f := fleetOf(t, 1, []int{7}, []int{8, 8})
	f.b.Texts = append(f.b.Texts, "root 2 1 of 6")
	f.l = append(f.l, api.Signed{Key: 3, Name: len(f.b.Texts)}, api.Signed{Key: 6, Name: len(f.b.Texts)}, api.Signed{Key: 6, Name: 4})
	o := f.offer(2)
	o.Roots, o.RootSigs, o.Sigs = []api.Root{root(2, 1, 6)}, [][]int{{3, 6}}, []int{6}
	v := told(t, f.vehicle(t), proposing(o))
	if want := (api.Trust{R: root(2, 1, 6), Version: 2}); !reflect.DeepEqual(v.G.T, want) {
		t.Errorf("trusts %v, want %v", v.G.T, want)
	}
	o.Sigs = []int{3}
	wantRefused(t, "signed by the old root", f.vehicle(t), proposing(o), api.ErrSign)
}

func TestPoke(t *testing.T) {
	f := fleetOf(t, 2, []int{7}, []int{8, 8}, counted(40, 90))
	v := f.vehicle(t)
	for _, of := range []int{-1, 2, 3, math.MinInt, math.MaxInt} {
		wantRefused(t, "no such unit", v, poking(of), api.ErrWho)
		wantRefused(t, "no such unit, and not up", but(v, gateUp(false)), poking(of), api.ErrWho)
	}
	wantRefused(t, "none was begun", v, poking(1), api.ErrLate)
	wantRefused(t, "none was begun, and not up", but(v, gateUp(false)), poking(1), api.ErrPower)
	begun := but(v, noted(t, []int{1, 2, 5}))
	wantRefused(t, "not among the campaigns", begun, poking(0), api.ErrWho)
	wantRefused(t, "not among the campaigns, and not up", but(begun, gateUp(false)), poking(0), api.ErrWho)
	wantRefused(t, "not among the campaigns, and ended", but(begun, noted(t, []int{3, 2}, []int{4, 2})), poking(0), api.ErrWho)
	one := but(begun, func(v *api.Vehicle) { v.Campaigns = []api.Campaign{f.campaign(1, 4)} })
	wantRefused(t, "the one ahead alone", one, poking(0), api.ErrWho)
	two := but(one, func(v *api.Vehicle) { v.Campaigns = append(v.Campaigns, f.campaign(2, 5)) })
	w := f.images[2]
	long := sent(0, 2, 3, w[:8], w[8:16], w[16:24], w[24:32], w[32:])
	wantDone(t, "poke", two, poking(0), sending(long...))
	wantDone(t, "poke the other one", two, poking(1), sending(sent(1, 2, 1, []int{7})...))
	wantRefused(t, "not up", but(two, gateUp(false)), poking(0), api.ErrPower)
	three := but(two, func(v *api.Vehicle) { v.Campaigns = append(v.Campaigns, f.campaign(3, 6)) })
	wantDone(t, "the last that was begun, not the last of all", three, poking(1), sending(sent(1, 2, 1, []int{7})...))
	wantDone(t, "who voted", but(two, func(v *api.Vehicle) { v.G.Voted[1] = true }), poking(1))
	wantDone(t, "commit", but(two, noted(t, []int{2, 2})), poking(1), sending(message(api.Commit, 1, 2)))
	wantDone(t, "abort", but(two, noted(t, []int{3, 2})), poking(0), sending(message(api.Abort, 0, 2)))
	wantRefused(t, "ended", but(two, noted(t, []int{3, 2}, []int{4, 2})), poking(0), api.ErrLate)
	for there := range api.MaxNet + 1 { // six are sent: as many come behind the others as there is room for
		room := min(api.MaxNet-there, len(long))
		wantDone(t, "room for a part", but(two, net(asks(there)...)), poking(0), sending(long[:room]...))
	}
}

func TestQuery(t *testing.T) {
	f := fleetOf(t, 3, []int{7}, []int{8, 8})
	v := f.vehicle(t)
	for _, of := range []int{-1, 3, 4, math.MinInt, math.MaxInt} {
		wantRefused(t, "no such unit", v, querying(of), api.ErrWho)
	}
	for of := range f.units {
		wantRefused(t, "ready for none", v, querying(of), api.ErrLate)
		wantRefused(t, "ready for none, and not up", but(v, unitUp(of, false)), querying(of), api.ErrPower)
		for _, n := range []int{1, api.MaxReleases} {
			ready := but(v, unitNoted(t, of, []int{2, n}))
			wantDone(t, "query", ready, querying(of), sending(message(api.Ask, of, n)))
			wantDone(t, "query, others not up", but(ready, unitUp((of+1)%3, false), gateUp(false)), querying(of), sending(message(api.Ask, of, n)))
			wantRefused(t, "not up", but(ready, unitUp(of, false)), querying(of), api.ErrPower)
			wantDone(t, "the last one that there is room for", but(ready, net(asks(api.MaxNet-1)...)), querying(of), sending(message(api.Ask, of, n)))
			wantDone(t, "no room", but(ready, net(asks(api.MaxNet)...)), querying(of))
			wantRefused(t, "not ready any more", but(ready, unitNoted(t, of, []int{3, n})), querying(of), api.ErrLate)
		}
		for _, n := range []int{api.MaxReleases + 1, 1000, api.MaxWord} {
			wantRefused(t, "ready for what no campaign is", but(v, unitNoted(t, of, []int{2, n})), querying(of), api.ErrLate)
		}
		wantRefused(t, "ready for 0", but(v, unitNoted(t, of, []int{2, 0})), querying(of), api.ErrLate)
	}
}

// without is the change by which message k is taken away.
func without(k int) func(v *api.Vehicle) {
	return func(v *api.Vehicle) { v.Net = append(list(v.Net[:k]), v.Net[k+1:]...) }
}

func TestLoseAndDouble(t *testing.T) {
	_, v := busy(t)
	for there := range api.MaxNet + 1 {
		l := asks(there)
		if there > 0 {
			l[there/2] = api.Message{Kind: api.Piece, Unit: 1, N: 2, At: 3, Image: 4, Words: []int{5, 6}, Yes: true}
		}
		some := but(v, net(l...))
		for _, k := range []int{-1, there, there + 1, math.MinInt, math.MaxInt} {
			wantRefused(t, "lose what isn't there", some, losing(k), api.ErrWho)
			wantRefused(t, "double what isn't there", some, doubling(k), api.ErrWho)
			wantRefused(t, "what isn't there comes", some, arriving(k), api.ErrWho)
		}
		for k := range there {
			wantDone(t, "lose", some, losing(k), without(k))
			if there == api.MaxNet {
				wantRefused(t, "double without room", some, doubling(k), api.ErrFull)
			} else {
				wantDone(t, "double", some, doubling(k), sending(l[k]))
			}
		}
	}
}

// TestArrive: each kind comes to whom it is for, and what is answered stands behind the others, however many there are.
func TestArrive(t *testing.T) {
	f := fleetOf(t, 2, []int{7}, []int{8, 8}, []int{9})
	v := told(t, f.vehicle(t), proposing(f.offer(1)))
	ready := but(v, unitNoted(t, 1, []int{2, 1}))
	ended := but(v, noted(t, []int{2, 1}, []int{4, 1}))
	cases := []struct {
		what    string
		v       api.Vehicle
		m       api.Message
		change  func(v *api.Vehicle)
		answers []api.Message
	}{
		{"piece", v, api.Message{Kind: api.Piece, Unit: 1, N: 1, Words: []int{8, 8}}, func(v *api.Vehicle) {
			v.Units[1].N, v.Units[1].Have = 1, 2
			copy(v.Units[1].F.Words[4*32+4:], []int{8, 8})
		}, nil},
		{"prepare", v, message(api.Prepare, 1, 1), nil, []api.Message{message(api.Vote, 1, 1)}},
		{"prepare again", ready, message(api.Prepare, 1, 1), nil, []api.Message{yes(1, 1)}},
		{"commit", ready, message(api.Commit, 1, 1), unitNoted(t, 1, []int{1, 1, 1}), []api.Message{message(api.Done, 1, 1)}},
		{"commit to one that isn't ready", ready, message(api.Commit, 0, 1), nil, nil},
		{"abort", ready, message(api.Abort, 1, 1), unitNoted(t, 1, []int{3, 1}), []api.Message{message(api.Done, 1, 1)}},
		{"abort to the other one", ready, message(api.Abort, 0, 1), nil, []api.Message{message(api.Done, 0, 1)}},
		{"vote", v, yes(1, 1), func(v *api.Vehicle) { v.G.Voted[1] = true }, nil},
		{"vote without", v, message(api.Vote, 1, 1), nil, nil},
		{"vote of another campaign", v, yes(1, 2), nil, nil},
		{"done", but(v, noted(t, []int{3, 1})), message(api.Done, 0, 1), func(v *api.Vehicle) { v.G.Did[0] = true }, nil},
		{"ask", v, message(api.Ask, 1, 1), nil, nil},
		{"ask, ended", ended, message(api.Ask, 1, 1), nil, []api.Message{message(api.Commit, 1, 1)}},
		{"ask of another campaign", ended, message(api.Ask, 0, 2), nil, []api.Message{message(api.Abort, 0, 2)}},
		{"prepare, not up", but(ready, unitUp(1, false)), message(api.Prepare, 1, 1), nil, nil},
		{"prepare, the gateway not up", but(ready, gateUp(false), unitUp(0, false)), message(api.Prepare, 1, 1), nil, []api.Message{yes(1, 1)}},
		{"ask, not up", but(ended, gateUp(false)), message(api.Ask, 1, 1), nil, nil},
		{"ask, the units not up", but(ended, unitUp(0, false), unitUp(1, false)), message(api.Ask, 1, 1), nil, []api.Message{message(api.Commit, 1, 1)}},
	}
	for _, c := range cases {
		if c.change == nil {
			c.change = func(*api.Vehicle) {}
		}
		for _, there := range []int{1, 2, 5, api.MaxNet} {
			for _, k := range []int{0, there / 2, there - 1} {
				l := slices.Insert(asks(there-1), k, c.m)
				wantDone(t, c.what, but(c.v, net(l...)), arriving(k), c.change, without(k), sending(c.answers...))
			}
		}
	}
}

func TestCutAndBoot(t *testing.T) {
	for units := 1; units <= api.MaxUnits; units++ {
		f := fleetOf(t, units, []int{7}, []int{8, 8})
		v := but(f.vehicle(t), net(asks(3)...), func(v *api.Vehicle) {
			v.G.Voted[0], v.G.Did[0], v.G.F.Fuel = true, true, 5
			for i := range v.Units {
				v.Units[i].N, v.Units[i].Have, v.Units[i].F.Fuel = 1, 2, 3
			}
		})
		off := but(v, gateUp(false), unitUp(0, false), unitUp(units-1, false))
		for _, node := range []int{math.MinInt, -2, units, units + 1, math.MaxInt} {
			wantRefused(t, "boot none", v, booting(node), api.ErrWho)
			wantRefused(t, "cut none", v, cutting(node, 1), api.ErrWho)
			wantRefused(t, "cut none, beyond", v, cutting(node, -1), api.ErrWho)
		}
		for node := gateway; node < units; node++ {
			for _, k := range []int{math.MinInt, -1, api.MaxTime + 1, math.MaxInt} {
				wantRefused(t, "cut beyond", v, cutting(node, k), api.ErrRange)
			}
			for _, k := range []int{0, 1, 77, api.MaxTime} {
				for _, one := range []api.Vehicle{v, off} { // one that is cut stays up until a word is to be changed
					wantDone(t, "cut", one, cutting(node, k), func(v *api.Vehicle) { fuel(v, node, k) })
				}
			}
			for _, one := range []api.Vehicle{v, off} {
				wantDone(t, "boot", one, booting(node), func(v *api.Vehicle) {
					fuel(v, node, -1)
					if node == gateway {
						v.G.Up, v.G.Voted, v.G.Did = true, make([]bool, units), make([]bool, units)
						return
					}
					v.Units[node].Up, v.Units[node].N, v.Units[node].Have = true, 0, 0
				})
			}
		}
	}
}

func fuel(v *api.Vehicle, node, k int) {
	if node == -1 {
		v.G.F.Fuel = k
		return
	}
	v.Units[node].F.Fuel = k
}

// TestGiveUpWithEachFuel: it is noted wholly, or the gateway isn't up, and can be told again.
func TestGiveUpWithEachFuel(t *testing.T) {
	f := fleetOf(t, 1, []int{7}, []int{8, 8})
	v := f.vehicle(t)
	wantRefused(t, "none was begun", v, givingUp, api.ErrLate)
	v = told(t, v, proposing(f.offer(1)))
	wantRefused(t, "not up", but(v, gateUp(false)), givingUp, api.ErrPower)
	wantRefused(t, "to be committed", but(v, noted(t, []int{2, 1})), givingUp, api.ErrLate)
	for k := range 6 {
		got := told(t, v, cutting(gateway, k), givingUp)
		if k < 3 {
			wantVehicle(t, "in part", but(got, func(w *api.Vehicle) { w.G.F = v.G.F }), but(v, gateUp(false)))
			got = told(t, got, booting(gateway))
			wantState(t, "in part, booted", got, api.GateState{N: 1, Version: 1})
			got = told(t, got, givingUp)
		}
		wantState(t, "given up", got, api.GateState{N: 1, Version: 1, Abort: true})
	}
}

func TestTick(t *testing.T) {
	_, v := busy(t)
	for _, n := range []int{0, 1, 500, api.MaxTime - 1} {
		wantDone(t, "tick", but(v, now(n)), ticking, now(n+1))
	}
	wantRefused(t, "the last time", but(v, now(api.MaxTime)), ticking, api.ErrFull)
	wantDone(t, "nobody needs to be up", but(v, gateUp(false), unitUp(0, false)), ticking, now(v.Now+1))
}

// TestRun: each happening says its error, and one that has one changes nothing.
func TestRun(t *testing.T) {
	f := fleetOf(t, 1, []int{7}, []int{8, 8})
	ahead := f.vehicle(t)
	script := []api.Happening{
		poking(0), proposing(f.offer(1)), {}, proposing(f.offer(2)), poking(0), doubling(2), doubling(1), losing(2), arriving(0), ticking, arriving(0), arriving(5),
		arriving(0), givingUp, querying(0), arriving(0), arriving(0), querying(0), arriving(0), cutting(1, 0), booting(-2),
	}
	want := []api.Errno{
		api.ErrLate, 0, api.ErrForm, api.ErrLate, 0, api.ErrWho, 0, 0, 0, 0, 0, api.ErrWho,
		0, api.ErrLate, 0, 0, 0, api.ErrLate, 0, api.ErrWho, api.ErrWho,
	}
	given := but(ahead)
	got, said, e := Run(given, script)
	wantErrno(t, "run", e, api.OK)
	if !slices.Equal(said, want) {
		t.Errorf("run: errors %v, want %v", said, want)
	}
	wantVehicle(t, "what was given", given, ahead)
	one := ahead
	for _, x := range script {
		if next, e := Do(one, x); e == api.OK {
			one = next
		}
	}
	wantVehicle(t, "one by one", got, one)
	wantState(t, "run", got, api.GateState{N: 1, Version: 1, Commit: true, Ended: true})
	wantRuns(t, "run", got, 0, []int{8, 8})
}

func TestRunAtTheEdges(t *testing.T) {
	_, v := busy(t)
	for _, script := range [][]api.Happening{nil, {}, {{}}, make([]api.Happening, api.MaxScript)} {
		got, said, e := Run(v, script)
		wantErrno(t, "run", e, api.OK)
		wantVehicle(t, "nothing happened", got, v)
		if len(said) != len(script) || slices.ContainsFunc(said, func(e api.Errno) bool { return e != api.ErrForm }) {
			t.Errorf("errors %v of %d happenings", said, len(script))
		}
	}
	ticks := make([]api.Happening, api.MaxScript+1)
	for i := range ticks {
		ticks[i] = ticking
	}
	got, said, e := Run(v, ticks[1:])
	wantErrno(t, "as long as may be", e, api.OK)
	wantVehicle(t, "as long as may be", got, but(v, now(v.Now+api.MaxScript)))
	if len(said) != api.MaxScript {
		t.Errorf("%d errors", len(said))
	}
	for _, script := range [][]api.Happening{ticks, make([]api.Happening, 100000)} {
		got, said, e = Run(v, script)
		wantErrno(t, "one too many", e, api.ErrMany)
		wantNothing(t, "one too many", got)
		if said != nil {
			t.Errorf("errors %v behind an error", said)
		}
	}
	got, said, e = Run(but(v, now(-1)), ticks)
	wantErrno(t, "unsound, and one too many", e, api.ErrRange)
	wantNothing(t, "unsound, and one too many", got)
	if said != nil {
		t.Errorf("errors %v behind an error", said)
	}
}

// TestRunAsksDoOfEach: where a happening leaves what Check refuses, the next ones say so.
func TestRunAsksDoOfEach(t *testing.T) {
	f := fleetOf(t, 1, []int{7}, []int{8, 8})
	v := but(f.vehicle(t), noted(t, []int{1, 2, 1}, []int{3, 2}, []int{4, 2})) // campaigns 1 and 2 are missing
	got, said, e := Run(v, []api.Happening{ticking, proposing(f.offer(2)), ticking, poking(0), {}})
	wantErrno(t, "run", e, api.OK)
	if want := []api.Errno{0, 0, api.ErrForm, api.ErrForm, api.ErrForm}; !slices.Equal(said, want) {
		t.Errorf("errors %v, want %v", said, want)
	}
	if got.Now != 1 || len(got.Campaigns) != 1 || got.Campaigns[0].N != 3 {
		t.Errorf("%v", got)
	}
}

// worn is the vehicle with some of its words, numbers and lists changed to what may be, or may not.
func worn(v api.Vehicle, r *rand.Rand) api.Vehicle {
	odd := []int{-2, -1, 0, 1, 2, 3, 4, 8, 9, 40, api.MaxTime, api.MaxTime + 1, math.MinInt, math.MaxInt}
	words := []int{0, 1, 2, 3, 4, 8, 9, 0xA501, 0xA502, 0xA503, 0xA504, 59999, 60000, 60001, api.MaxWord}
	number := func() int { return odd[r.Intn(len(odd))] }
	word := func() int { return words[r.Intn(len(words))] }
	return but(v, func(v *api.Vehicle) {
		for range r.Intn(6) {
			of := r.Intn(len(v.Units))
			switch r.Intn(14) {
			case 0, 1, 2:
				v.G.F.Words[r.Intn(len(v.G.F.Words))] = word()
			case 3, 4, 5:
				v.Units[of].F.Words[r.Intn(len(v.Units[of].F.Words))] = word()
			case 6:
				v.Units[of].N, v.Units[of].Have = r.Intn(9), r.Intn(41)
			case 7:
				v.Units[of].Up, v.G.Up = r.Intn(2) == 0, r.Intn(2) == 0
			case 8:
				fuel(v, of, r.Intn(9))
			case 9:
				v.Net = append(v.Net, api.Message{Kind: r.Intn(8), Unit: r.Intn(3), N: r.Intn(9), At: r.Intn(41), Image: r.Intn(9), Words: counted(r.Intn(9), word())})
			case 10:
				v.Campaigns = v.Campaigns[:r.Intn(len(v.Campaigns)+1)]
			case 11:
				v.Now = number()
			case 12:
				v.G.F.Fuel = number()
			case 13:
				v.Units = v.Units[:1+r.Intn(len(v.Units))]
			}
		}
	})
}

// TestWornVehicles: whatever the logs and slots say, no call panics, what Check refuses is refused, and what it lets by stays sound.
func TestWornVehicles(t *testing.T) {
	f, v := busy(t)
	done := 0
	for seed := range int64(3000) {
		r := rand.New(rand.NewSource(seed))
		one := worn(v, r)
		for range 12 {
			x := api.Happening{Kind: r.Intn(13) - 1, Unit: r.Intn(5) - 2, K: r.Intn(6) - 1, O: f.offer(3 + r.Intn(2))}
			next, e := Do(one, x)
			if want := Check(one); want != api.OK {
				wantErrno(t, "unsound", e, want)
			}
			if e != api.OK {
				wantNothing(t, "error", next)
				continue
			}
			if e := Check(next); e != api.OK && x.Kind != api.Propose {
				t.Fatalf("seed %d: %v leaves what Check refuses: %d", seed, x, e)
			}
			one = next
			done++
		}
	}
	if done < 3000 {
		t.Errorf("%d were done: too few to tell", done)
	}
}
