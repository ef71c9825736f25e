package gate

import (
	"math"
	"reflect"
	"slices"
	"testing"

	"wainwright/api"
	"wainwright/meta"
)

const erased = api.MaxWord

func filled(n, x int) []int {
	l := make([]int, n)
	for i := range l {
		l[i] = x
	}
	return l
}

// counted is a list of n unlike words.
func counted(n, first int) []int {
	l := make([]int, n)
	for i := range l {
		l[i] = first + i
	}
	return l
}

// logged is how records stand in a sector, behind its generation.
func logged(records ...[]int) []int {
	var words []int
	for _, r := range records {
		words = append(append(words, 0xA500+len(r)), r...)
	}
	return words
}

func root(version, threshold int, keys ...int) api.Root {
	return api.Root{Version: version, Keys: keys, Threshold: threshold}
}

// gateOf is up, with these records in sector 0, of the generation 1; all else of its flash is erased. It trusts the key 3, and has taken nothing yet.
func gateOf(units int, records ...[]int) api.Gate {
	g := api.Gate{F: api.Flash{Words: filled(64, erased), Fuel: -1}, Up: true, T: api.Trust{R: root(1, 1, 3)}}
	g.Voted, g.Did = make([]bool, units), make([]bool, units)
	return with(with(g, 0, 1), 1, logged(records...)...)
}

// but is the gateway with a change, which what was given doesn't see.
func but(g api.Gate, change func(g *api.Gate)) api.Gate {
	g.F.Words = append([]int{}, g.F.Words...)
	g.T.R.Keys = append([]int{}, g.T.R.Keys...)
	g.Voted = append([]bool{}, g.Voted...)
	g.Did = append([]bool{}, g.Did...)
	change(&g)
	return g
}

// with is the gateway with these words of flash from the place on, whatever stood there.
func with(g api.Gate, at int, words ...int) api.Gate {
	return but(g, func(g *api.Gate) { copy(g.F.Words[at:], words) })
}

func fueled(g api.Gate, fuel int) api.Gate {
	return but(g, func(g *api.Gate) { g.F.Fuel = fuel })
}

func down(g api.Gate) api.Gate {
	return but(g, func(g *api.Gate) { g.Up = false })
}

func trusting(g api.Gate, t api.Trust) api.Gate {
	return but(g, func(g *api.Gate) { g.T = t })
}

// minding is the gateway that has in mind that these units, and no others, voted, and these did.
func minding(g api.Gate, voted, did []int) api.Gate {
	return but(g, func(g *api.Gate) {
		for i := range g.Voted {
			g.Voted[i], g.Did[i] = slices.Contains(voted, i), slices.Contains(did, i)
		}
	})
}

func wantErrno(t *testing.T, what string, got, want api.Errno) {
	t.Helper()
	if got != want {
		t.Errorf("%s: error %d, want %d", what, got, want)
	}
}

func wantGate(t *testing.T, what string, got, want api.Gate) {
	t.Helper()
	if !reflect.DeepEqual(got, want) {
		t.Errorf("%s: %v, want %v", what, got, want)
	}
}

func wantState(t *testing.T, what string, g api.Gate, want api.GateState) {
	t.Helper()
	got, e := Read(g)
	wantErrno(t, what, e, api.OK)
	if got != want {
		t.Errorf("%s: state %v, want %v", what, got, want)
	}
}

// wantBegun holds all that Begin answers against what it should be.
func wantBegun(t *testing.T, what string, f fleet, g api.Gate, o api.Offer, now int, want api.Gate, wantN int, wantE api.Errno) {
	t.Helper()
	given := but(g, func(*api.Gate) {})
	got, n, e := Begin(f.b, f.l, given, o, now)
	wantErrno(t, what, e, wantE)
	if n != wantN {
		t.Errorf("%s: begun as %d, want %d", what, n, wantN)
	}
	wantGate(t, what, got, want)
	wantGate(t, what+" leaves what it was given", given, but(g, func(*api.Gate) {}))
}

func wantGivenUp(t *testing.T, what string, g, want api.Gate, wantE api.Errno) {
	t.Helper()
	given := but(g, func(*api.Gate) {})
	got, e := GiveUp(given)
	wantErrno(t, what, e, wantE)
	wantGate(t, what, got, want)
	wantGate(t, what+" leaves what it was given", given, but(g, func(*api.Gate) {}))
}

// fleet is what offers are made of: images, by name from 1 on; behind them in the book the releases of the versions from 1 on; the key 3 has signed all.
type fleet struct {
	b      api.Book
	l      []api.Signed
	images [][]int
	units  int
}

const versions = 12

func fleetOf(t *testing.T, units int, images ...[]int) fleet {
	t.Helper()
	f := fleet{images: images, units: units}
	add := func(s string, e api.Errno) {
		t.Helper()
		wantErrno(t, "text", e, api.OK)
		f.b.Texts = append(f.b.Texts, s)
		f.l = append(f.l, api.Signed{Key: 3, Name: len(f.b.Texts)})
	}
	for _, image := range images {
		add(meta.ImageText(image))
	}
	for version := 1; version <= versions; version++ {
		add(meta.ReleaseText(f.release(version)))
	}
	return f
}

func (f fleet) imageOf(version, unit int) int { return (version + unit) % len(f.images) }

func (f fleet) release(version int) api.Release {
	r := api.Release{Version: version, Until: 50}
	for unit := range f.units {
		i := f.imageOf(version, unit)
		r.Targets = append(r.Targets, api.Target{Unit: unit, Image: i + 1, Long: len(f.images[i])})
	}
	return r
}

func (f fleet) offer(version int) api.Offer {
	o := api.Offer{R: f.release(version), Sigs: []int{3}}
	for unit := range f.units {
		o.Images = append(o.Images, append([]int{}, f.images[f.imageOf(version, unit)]...))
	}
	return o
}

func (f fleet) campaign(n, version int) api.Campaign {
	return api.Campaign{N: n, R: f.release(version), Images: f.offer(version).Images}
}

// unsound are gateways that Check refuses, and why; some are wrong in several ways, of which the first one counts.
func unsound() []struct {
	what string
	g    api.Gate
	e    api.Errno
} {
	sound := gateOf(2, []int{1, 1, 5})
	long := func(words int) api.Gate {
		return but(sound, func(g *api.Gate) { g.F.Words = append(g.F.Words, filled(words, erased)...) })
	}
	short := but(sound, func(g *api.Gate) { g.F.Words = g.F.Words[:32] })
	minds := func(g api.Gate, voted, did int) api.Gate {
		return but(g, func(g *api.Gate) { g.Voted, g.Did = make([]bool, voted), make([]bool, did) })
	}
	trusts := func(version int, r api.Root) api.Gate {
		return trusting(sound, api.Trust{R: r, Version: version})
	}
	return []struct {
		what string
		g    api.Gate
		e    api.Errno
	}{
		{"nothing", api.Gate{}, api.ErrForm},
		{"a word too many", long(1), api.ErrForm},
		{"seven sectors", long(5 * api.Sector), api.ErrForm},
		{"one sector", short, api.ErrForm},
		{"one sector, and fuel", fueled(short, -2), api.ErrRange},
		{"fuel -2", fueled(sound, -2), api.ErrRange},
		{"fuel above all time", fueled(sound, api.MaxTime+1), api.ErrRange},
		{"no word", with(sound, 5, -1), api.ErrRange},
		{"no word at the end", with(sound, 63, api.MaxWord+1), api.ErrRange},
		{"no log", with(sound, 0, erased), api.ErrWho},
		{"a log of generation 0", with(sound, 0, 0), api.ErrWho},
		{"a log of generation 60001", with(sound, 32, 60001), api.ErrWho},
		{"no log, and nobody", minds(with(sound, 0, 0), 0, 0), api.ErrWho},
		{"nobody", minds(sound, 0, 0), api.ErrForm},
		{"nil", but(sound, func(g *api.Gate) { g.Voted, g.Did = nil, nil }), api.ErrForm},
		{"five", minds(sound, 5, 5), api.ErrForm},
		{"endless", minds(sound, 1000000, 1000000), api.ErrForm},
		{"fewer did", minds(sound, 2, 1), api.ErrForm},
		{"more did", minds(sound, 2, 3), api.ErrForm},
		{"none did", minds(sound, 2, 0), api.ErrForm},
		{"nobody, and the trust", trusting(minds(sound, 0, 0), api.Trust{Version: -1}), api.ErrForm},
		{"version -1", trusts(-1, root(1, 1, 3)), api.ErrRange},
		{"version 1001", trusts(1001, root(1, 1, 3)), api.ErrRange},
		{"version -1, and no keys", trusts(-1, root(1, 1)), api.ErrRange},
		{"a root of version 0", trusts(0, root(0, 1, 3)), api.ErrRange},
		{"a root without keys", trusts(0, root(1, 1)), api.ErrMany},
		{"a root of seven keys", trusts(0, root(1, 1, counted(7, 1)...)), api.ErrMany},
		{"key 51", trusts(0, root(1, 1, 3, 51)), api.ErrRange},
		{"a key twice", trusts(0, root(1, 1, 3, 3)), api.ErrTwice},
		{"threshold 0", trusts(0, root(1, 0, 3)), api.ErrForm},
		{"threshold 2 of 1", trusts(0, root(1, 2, 3)), api.ErrForm},
		{"not up, and the trust", down(trusts(0, root(1, 2, 3))), api.ErrForm},
	}
}

// TestUnsoundGates: all calls say Check's error, and with it all else is zero.
func TestUnsoundGates(t *testing.T) {
	f := fleetOf(t, 2, []int{7})
	for _, c := range unsound() {
		wantErrno(t, "check, "+c.what, Check(c.g), c.e)
		s, e := Read(c.g)
		wantErrno(t, "read, "+c.what, e, c.e)
		if s != (api.GateState{}) {
			t.Errorf("read, %s: %v behind an error", c.what, s)
		}
		g, e := Boot(c.g)
		wantErrno(t, "boot, "+c.what, e, c.e)
		wantGate(t, "boot, "+c.what, g, api.Gate{})
		wantBegun(t, "begin, "+c.what, f, c.g, f.offer(1), 0, api.Gate{}, 0, c.e)
		wantGivenUp(t, "give up, "+c.what, c.g, api.Gate{}, c.e)
		wantDue(t, "due, "+c.what, c.g, f.campaign(1, 1), 0, c.e)
		wantDue(t, "due of no unit, "+c.what, c.g, f.campaign(2, 1), 9, c.e)
		wantRefused(t, "hear, "+c.what, c.g, api.Message{Kind: api.Vote, N: 1, Yes: true}, c.e)
		wantRefused(t, "hear of no unit, "+c.what, c.g, api.Message{Unit: -1}, c.e) // ahead of the message's error
	}
}

func TestCheckOfSoundGates(t *testing.T) {
	sound := gateOf(2, []int{1, 1, 5})
	for _, g := range []api.Gate{
		sound,
		down(sound),
		gateOf(1),
		gateOf(4),
		gateOf(2, []int{1, 9, 5}, nil), // what says nothing
		minding(sound, []int{0, 1}, []int{1}),
		fueled(sound, 0),
		fueled(sound, api.MaxTime),
		with(sound, 0, 60000),
		with(sound, 32, 2),
		trusting(sound, api.Trust{R: root(1000, 6, 1, 2, 3, 4, 5, 50), Version: 1000}),
		but(sound, func(g *api.Gate) { g.F.Words = append(g.F.Words, filled(4*api.Sector, 0)...) }),
	} {
		wantErrno(t, "check", Check(g), api.OK)
	}
}

func TestNew(t *testing.T) {
	for units := 1; units <= api.MaxUnits; units++ {
		for _, r := range []api.Root{root(1, 1, 3), root(1000, 2, 1, 50), root(7, 6, 1, 2, 3, 4, 5, 6)} {
			keys := append(make([]int, 0, 9), r.Keys...)
			got, e := New(api.Root{Version: r.Version, Keys: keys, Threshold: r.Threshold}, units)
			wantErrno(t, "new", e, api.OK)
			wantGate(t, "new", got, trusting(gateOf(units), api.Trust{R: r}))
			wantErrno(t, "check of new", Check(got), api.OK)
			wantState(t, "new", got, api.GateState{})
			got.T.R.Keys[0] = 99
			if !slices.Equal(keys, r.Keys) {
				t.Errorf("new shares the keys that it was given")
			}
		}
	}
}

func TestNewWrongInputs(t *testing.T) {
	right := root(1, 1, 3)
	cases := []struct {
		what  string
		r     api.Root
		units int
		e     api.Errno
	}{
		{"no units", right, 0, api.ErrRange},
		{"one unit too many", right, api.MaxUnits + 1, api.ErrRange},
		{"units -1", right, -1, api.ErrRange},
		{"units lowest", right, math.MinInt, api.ErrRange},
		{"units highest", right, math.MaxInt, api.ErrRange},
		{"no units, and no keys", root(1, 1), 0, api.ErrRange},
		{"no root", api.Root{}, 1, api.ErrRange},
		{"version 1001", root(1001, 1, 3), 1, api.ErrRange},
		{"no keys", root(1, 1), 4, api.ErrMany},
		{"seven keys", root(1, 1, counted(7, 1)...), 4, api.ErrMany},
		{"endless keys", root(1, 1, make([]int, 1000000)...), 4, api.ErrMany},
		{"key 0", root(1, 1, 0), 4, api.ErrRange},
		{"a key twice", root(1, 1, 4, 4), 4, api.ErrTwice},
		{"threshold 2 of 1", root(1, 2, 3), 4, api.ErrForm},
	}
	for _, c := range cases {
		g, e := New(c.r, c.units)
		wantErrno(t, "new, "+c.what, e, c.e)
		wantGate(t, "new, "+c.what, g, api.Gate{})
	}
}

func TestRead(t *testing.T) {
	cases := []struct {
		what    string
		records [][]int
		s       api.GateState
	}{
		{"no records", nil, api.GateState{}},
		{"begun", [][]int{{1, 1, 5}}, api.GateState{N: 1, Version: 5}},
		{"begun, as the last number", [][]int{{1, 8, 1000}}, api.GateState{N: 8, Version: 1000}},
		{"a great version", [][]int{{1, 8, erased}}, api.GateState{N: 8, Version: erased}},
		{"number 0", [][]int{{1, 0, 5}}, api.GateState{}},
		{"number 0, behind another one", [][]int{{1, 2, 5}, {2, 2}, {1, 0, 6}}, api.GateState{N: 2, Version: 5, Commit: true}},
		{"number 9", [][]int{{1, 2, 5}, {1, 9, 6}, {2, 9}}, api.GateState{N: 2, Version: 5}},
		{"number 65535", [][]int{{1, 2, 5}, {1, erased, 6}}, api.GateState{N: 2, Version: 5}},
		{"to be committed", [][]int{{1, 1, 5}, {2, 1}}, api.GateState{N: 1, Version: 5, Commit: true}},
		{"to be aborted", [][]int{{1, 1, 5}, {3, 1}}, api.GateState{N: 1, Version: 5, Abort: true}},
		{"committed, not aborted", [][]int{{1, 1, 5}, {2, 1}, {3, 1}}, api.GateState{N: 1, Version: 5, Commit: true}},
		{"aborted, not committed", [][]int{{1, 1, 5}, {3, 1}, {2, 1}}, api.GateState{N: 1, Version: 5, Abort: true}},
		{"committed twice", [][]int{{1, 1, 5}, {2, 1}, {2, 1}, {3, 1}, {2, 1}}, api.GateState{N: 1, Version: 5, Commit: true}},
		{"aborted twice", [][]int{{1, 1, 5}, {3, 1}, {3, 1}, {2, 1}, {3, 1}}, api.GateState{N: 1, Version: 5, Abort: true}},
		{"committed, ended", [][]int{{1, 1, 5}, {2, 1}, {4, 1}}, api.GateState{N: 1, Version: 5, Commit: true, Ended: true}},
		{"aborted, ended", [][]int{{1, 1, 5}, {3, 1}, {4, 1}}, api.GateState{N: 1, Version: 5, Abort: true, Ended: true}},
		{"ended, not aborted any more", [][]int{{1, 1, 5}, {2, 1}, {4, 1}, {3, 1}, {4, 1}}, api.GateState{N: 1, Version: 5, Commit: true, Ended: true}},
		{"ended, but not decided", [][]int{{1, 1, 5}, {4, 1}}, api.GateState{N: 1, Version: 5}},
		{"ended, then decided", [][]int{{1, 1, 5}, {4, 1}, {2, 1}}, api.GateState{N: 1, Version: 5, Commit: true}},
		{"decided ahead of all", [][]int{{2, 1}, {4, 1}, {1, 1, 5}}, api.GateState{N: 1, Version: 5}},
		{"decided, none begun", [][]int{{2, 1}, {3, 2}, {4, 1}}, api.GateState{}},
		{"number 0 decided, none begun", [][]int{{2, 0}, {3, 0}, {4, 0}}, api.GateState{}},
		{"of another number", [][]int{{1, 2, 5}, {2, 1}, {3, 3}, {2, 0}}, api.GateState{N: 2, Version: 5}},
		{"of another number, ended", [][]int{{1, 2, 5}, {2, 2}, {4, 1}, {4, 3}}, api.GateState{N: 2, Version: 5, Commit: true}},
		{"the next one", [][]int{{1, 1, 5}, {2, 1}, {4, 1}, {1, 2, 6}}, api.GateState{N: 2, Version: 6}},
		{"the next one, aborted", [][]int{{1, 1, 5}, {2, 1}, {1, 2, 6}, {2, 1}, {3, 2}, {4, 1}}, api.GateState{N: 2, Version: 6, Abort: true}},
		{"a lower number is the last one, too", [][]int{{1, 5, 5}, {2, 5}, {1, 2, 6}}, api.GateState{N: 2, Version: 6}},
		{"begun again", [][]int{{1, 1, 5}, {2, 1}, {4, 1}, {1, 1, 6}}, api.GateState{N: 1, Version: 6}},
		{"begun, of other lengths", [][]int{{1, 1, 5}, {2, 1}, {1}, {1, 2}, {1, 2, 6, 6}}, api.GateState{N: 1, Version: 5, Commit: true}},
		{"committed, of other lengths", [][]int{{1, 1, 5}, {2}, {2, 1, 1}, {2, 1, 1, 1}}, api.GateState{N: 1, Version: 5}},
		{"aborted, of other lengths", [][]int{{1, 1, 5}, {3}, {3, 1, 1}, {3, 1, 1, 1}}, api.GateState{N: 1, Version: 5}},
		{"ended, of other lengths", [][]int{{1, 1, 5}, {2, 1}, {4}, {4, 1, 1}, {4, 1, 1, 1}}, api.GateState{N: 1, Version: 5, Commit: true}},
		{"others", [][]int{{1, 1, 5}, {0, 1}, {5, 1}, {erased, 1}, {0, 2, 6}, {2, 2, 6}, {5, 2, 6}}, api.GateState{N: 1, Version: 5}},
	}
	for _, c := range cases {
		g := gateOf(2, c.records...)
		for _, one := range []api.Gate{g, down(fueled(g, 0)), minding(g, []int{0, 1}, []int{0, 1}), trusting(g, api.Trust{R: root(9, 1, 9), Version: 9})} {
			wantState(t, c.what, one, c.s)
		}
	}
	behind := with(with(gateOf(1, []int{1, 1, 5}), 32, 2), 33, logged([]int{1, 2, 6}, []int{2, 2})...)
	wantState(t, "the newer sector counts", behind, api.GateState{N: 2, Version: 6, Commit: true})
}

func TestBoot(t *testing.T) {
	for units := 1; units <= api.MaxUnits; units++ {
		g := trusting(gateOf(units, []int{1, 3, 5}, []int{2, 3}), api.Trust{R: root(4, 2, 3, 5), Version: 5})
		all := counted(units, 0)
		for _, one := range []api.Gate{g, down(g), fueled(g, 0), fueled(down(g), 5), minding(g, all, nil), minding(fueled(down(g), api.MaxTime), all, all)} {
			given := but(one, func(*api.Gate) {})
			got, e := Boot(given)
			wantErrno(t, "boot", e, api.OK)
			wantGate(t, "boot", got, g)
			wantGate(t, "boot leaves what it was given", given, one)
			wantState(t, "boot", got, api.GateState{N: 3, Version: 5, Commit: true})
		}
	}
}

// taken is the gateway behind an offer of that version.
func taken(g api.Gate, version int) api.Gate {
	return minding(trusting(g, api.Trust{R: g.T.R, Version: version}), nil, nil)
}

func TestBegin(t *testing.T) {
	for units := 1; units <= api.MaxUnits; units++ {
		f := fleetOf(t, units, []int{7}, []int{8, 8}, counted(40, 500))
		g := gateOf(units)
		wantBegun(t, "the first one", f, g, f.offer(3), 50, taken(gateOf(units, []int{1, 1, 3}), 3), 1, api.OK)
		all := counted(units, 0)
		for _, decision := range []int{2, 3} {
			ended := [][]int{{1, 4, 5}, {decision, 4}, {4, 4}}
			g = minding(trusting(gateOf(units, ended...), api.Trust{R: root(1, 1, 3), Version: 5}), all, all)
			want := taken(gateOf(units, append(ended, []int{1, 5, 6})...), 6)
			wantBegun(t, "the next one", f, g, f.offer(6), 0, want, 5, api.OK)
		}
		ended := [][]int{{1, 7, 5}, {2, 7}, {4, 7}}
		wantBegun(t, "the last one", f, gateOf(units, ended...), f.offer(6), 0, taken(gateOf(units, append(ended, []int{1, 8, 6})...), 6), 8, api.OK)
	}
}

// TestBeginTurnsRoots: with the offer come roots; the last of them counts from there on.
func TestBeginTurnsRoots(t *testing.T) {
	f := fleetOf(t, 1, []int{7})
	next := root(2, 1, 4, 9)
	text, e := meta.RootText(next)
	wantErrno(t, "text", e, api.OK)
	f.b.Texts = append(f.b.Texts, text)
	for name := range len(f.b.Texts) {
		f.l = append(f.l, api.Signed{Key: 4, Name: name + 1})
	}
	f.l = append(f.l, api.Signed{Key: 3, Name: len(f.b.Texts)})
	o := f.offer(2)
	o.Roots, o.RootSigs, o.Sigs = []api.Root{next}, [][]int{{3, 4}}, []int{4}
	want := trusting(gateOf(1, []int{1, 1, 2}), api.Trust{R: next, Version: 2})
	wantBegun(t, "with a root", f, gateOf(1), o, 0, want, 1, api.OK)
	o.RootSigs[0] = []int{3}
	wantBegun(t, "with a root that its own keys haven't signed", f, gateOf(1), o, 0, api.Gate{}, 0, api.ErrSign)
	o.RootSigs[0], o.Sigs = []int{3, 4}, []int{3}
	wantBegun(t, "signed by the old root's", f, gateOf(1), o, 0, api.Gate{}, 0, api.ErrSign)
}

func TestBeginWrongInputs(t *testing.T) {
	f := fleetOf(t, 2, []int{7}, []int{8, 8})
	fresh := gateOf(2)
	changed := func(change func(o *api.Offer)) api.Offer {
		o := f.offer(3)
		change(&o)
		return o
	}
	right := f.offer(3)
	wrong := changed(func(o *api.Offer) { o.Sigs = nil })
	cases := []struct {
		what string
		g    api.Gate
		o    api.Offer
		now  int
		e    api.Errno
	}{
		{"not up", down(fresh), right, 0, api.ErrPower},
		{"not up, and late", down(gateOf(2, []int{1, 1, 5})), wrong, 0, api.ErrPower},
		{"one was begun", gateOf(2, []int{1, 1, 1}), right, 0, api.ErrLate},
		{"one was begun, and a wrong offer", gateOf(2, []int{1, 1, 1}), wrong, 0, api.ErrLate},
		{"to be committed", gateOf(2, []int{1, 1, 1}, []int{2, 1}), right, 0, api.ErrLate},
		{"to be aborted", gateOf(2, []int{1, 1, 1}, []int{3, 1}), right, 0, api.ErrLate},
		{"the last number isn't ended", gateOf(2, []int{1, 8, 1}, []int{2, 8}), right, 0, api.ErrLate},
		{"all numbers were begun", gateOf(2, []int{1, 8, 1}, []int{2, 8}, []int{4, 8}), right, 0, api.ErrFull},
		{"all numbers were begun, the last one in vain", gateOf(2, []int{1, 8, 1}, []int{3, 8}, []int{4, 8}), wrong, 0, api.ErrFull},
		{"not signed", fresh, wrong, 0, api.ErrSign},
		{"signed by another one", fresh, changed(func(o *api.Offer) { o.Sigs = []int{4} }), 0, api.ErrSign},
		{"too many sigs", fresh, changed(func(o *api.Offer) { o.Sigs = make([]int, 51) }), 0, api.ErrMany},
		{"no release", fresh, api.Offer{}, 0, api.ErrRange},
		{"roots without sigs", fresh, changed(func(o *api.Offer) { o.Roots = []api.Root{root(2, 1, 3)} }), 0, api.ErrMany},
		{"not newer", taken(fresh, 3), right, 0, api.ErrOld},
		{"older", taken(fresh, 4), right, 0, api.ErrOld},
		{"over", fresh, right, 51, api.ErrOver},
		{"over for ever", fresh, right, math.MaxInt, api.ErrOver},
		{"fewer units", gateOf(1), right, 0, api.ErrForm},
		{"more units", gateOf(3), right, 0, api.ErrForm},
		{"no images", fresh, changed(func(o *api.Offer) { o.Images = nil }), 0, api.ErrForm},
		{"another image", fresh, changed(func(o *api.Offer) { o.Images[1] = []int{9} }), 0, api.ErrWho},
	}
	for _, c := range cases {
		wantBegun(t, c.what, f, c.g, c.o, c.now, api.Gate{}, 0, c.e)
	}
	twice := fleet{b: api.Book{Texts: []string{"a", "a"}}, l: f.l}
	wantBegun(t, "a text twice", twice, fresh, right, 0, api.Gate{}, 0, api.ErrTwice)
	keyless := fleet{b: f.b, l: []api.Signed{{Key: 0, Name: 1}}}
	wantBegun(t, "signed by none", keyless, fresh, right, 0, api.Gate{}, 0, api.ErrRange)
	wantBegun(t, "long ago", f, fresh, right, math.MinInt, taken(gateOf(2, []int{1, 1, 3}), 3), 1, api.OK)
}

func TestGiveUp(t *testing.T) {
	for units := 1; units <= api.MaxUnits; units++ {
		for _, n := range []int{1, 8} {
			begun := gateOf(units, []int{1, n, 3})
			want := gateOf(units, []int{1, n, 3}, []int{3, n})
			wantGivenUp(t, "given up", begun, want, api.OK)
			some := []int{0}
			wantGivenUp(t, "given up, with votes", minding(begun, some, some), minding(want, some, some), api.OK)
			wantState(t, "given up", want, api.GateState{N: n, Version: 3, Abort: true})
		}
	}
	cases := []struct {
		what string
		g    api.Gate
		e    api.Errno
	}{
		{"not up", down(gateOf(1, []int{1, 1, 3})), api.ErrPower},
		{"not up, and none begun", down(gateOf(1)), api.ErrPower},
		{"none begun", gateOf(1), api.ErrLate},
		{"none begun, as it says nothing", gateOf(1, []int{1, 9, 3}), api.ErrLate},
		{"to be committed", gateOf(1, []int{1, 1, 3}, []int{2, 1}), api.ErrLate},
		{"given up already", gateOf(1, []int{1, 1, 3}, []int{3, 1}), api.ErrLate},
		{"committed, ended", gateOf(1, []int{1, 1, 3}, []int{2, 1}, []int{4, 1}), api.ErrLate},
		{"aborted, ended", gateOf(1, []int{1, 1, 3}, []int{3, 1}, []int{4, 1}), api.ErrLate},
	}
	for _, c := range cases {
		wantGivenUp(t, c.what, c.g, api.Gate{}, c.e)
	}
}
