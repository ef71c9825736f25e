package vehicle

import (
	"math"
	"reflect"
	"strings"
	"testing"

	"wainwright/api"
	"wainwright/gate"
	"wainwright/meta"
	"wainwright/unit"
)

// counted is a list of n unlike words.
func counted(n, first int) []int {
	l := make([]int, n)
	for i := range l {
		l[i] = first + i
	}
	return l
}

func root(version, threshold int, keys ...int) api.Root {
	return api.Root{Version: version, Keys: keys, Threshold: threshold}
}

// fleet is what vehicles and offers are made of: images, by name from 1 on; behind them in the book the releases of the versions from 1 on; the key 3 has signed all. The factory's image is the first one.
type fleet struct {
	b      api.Book
	l      []api.Signed
	images [][]int
	units  int
}

const (
	versions = 12
	until    = 50
)

func fleetOf(t *testing.T, units int, images ...[]int) fleet {
	t.Helper()
	f := fleet{images: images, units: units}
	add := func(s string, e api.Errno) {
		t.Helper()
		wantErrno(t, "text", e, api.OK)
		f.b.Texts = append(f.b.Texts, s)
		f.l = append(f.l, api.Signed{Key: 3, Name: len(f.b.Texts)})
	}
	for _, image := range images {
		add(meta.ImageText(image))
	}
	for version := 1; version <= versions; version++ {
		add(meta.ReleaseText(f.release(version)))
	}
	return f
}

// imageOf is unlike the factory's of the first versions, and unlike from unit to unit, if there are images enough.
func (f fleet) imageOf(version, of int) int { return (version + of) % len(f.images) }

func (f fleet) release(version int) api.Release {
	r := api.Release{Version: version, Until: until}
	for of := range f.units {
		i := f.imageOf(version, of)
		r.Targets = append(r.Targets, api.Target{Unit: of, Image: i + 1, Long: len(f.images[i])})
	}
	return r
}

func (f fleet) offer(version int) api.Offer {
	o := api.Offer{R: f.release(version), Sigs: []int{3}}
	for of := range f.units {
		o.Images = append(o.Images, append([]int{}, f.images[f.imageOf(version, of)]...))
	}
	return o
}

func (f fleet) campaign(n, version int) api.Campaign {
	return api.Campaign{N: n, R: f.release(version), Images: f.offer(version).Images}
}

func (f fleet) factory() [][]int {
	var l [][]int
	for range f.units {
		l = append(l, f.images[0])
	}
	return l
}

func (f fleet) vehicle(t *testing.T) api.Vehicle {
	t.Helper()
	v, e := New(f.b, f.l, root(1, 1, 3), f.factory())
	wantErrno(t, "new", e, api.OK)
	return v
}

// list is new memory, and never nil: so what is told alike is held alike.
func list[T any](l []T) []T { return append([]T{}, l...) }

func listOf[T any](l []T, one func(T) T) []T {
	own := []T{}
	for _, x := range l {
		own = append(own, one(x))
	}
	return own
}

// but is the vehicle with changes, which what was given doesn't see.
func but(v api.Vehicle, changes ...func(v *api.Vehicle)) api.Vehicle {
	v.B.Texts, v.S = list(v.B.Texts), list(v.S)
	v.G.F.Words, v.G.T.R.Keys = list(v.G.F.Words), list(v.G.T.R.Keys)
	v.G.Voted, v.G.Did = list(v.G.Voted), list(v.G.Did)
	v.Units = listOf(v.Units, func(u api.Unit) api.Unit {
		u.F.Words = list(u.F.Words)
		return u
	})
	v.Campaigns = listOf(v.Campaigns, func(c api.Campaign) api.Campaign {
		c.R.Targets, c.Images = list(c.R.Targets), listOf(c.Images, list[int])
		return c
	})
	v.Net = listOf(v.Net, func(m api.Message) api.Message {
		m.Words = list(m.Words)
		return m
	})
	for _, change := range changes {
		change(&v)
	}
	return v
}

func wantErrno(t *testing.T, what string, got, want api.Errno) {
	t.Helper()
	if got != want {
		t.Errorf("%s: error %d, want %d", what, got, want)
	}
}

func wantVehicle(t *testing.T, what string, got, want api.Vehicle) {
	t.Helper()
	if !reflect.DeepEqual(but(got), but(want)) {
		t.Errorf("%s: %v, want %v", what, got, want)
	}
}

func wantNothing(t *testing.T, what string, got api.Vehicle) {
	t.Helper()
	if !reflect.DeepEqual(got, api.Vehicle{}) {
		t.Errorf("%s: a vehicle behind an error: %v", what, got)
	}
}

// busy is a vehicle of two units with something in each of its lists: two campaigns, of which the second is pending, and three messages.
func busy(t *testing.T) (fleet, api.Vehicle) {
	t.Helper()
	f := fleetOf(t, 2, []int{7}, counted(10, 70), []int{8, 8})
	v := f.vehicle(t)
	v = told(t, v, api.Happening{Kind: api.Propose, O: f.offer(1)})
	v = told(t, v, api.Happening{Kind: api.GiveUp})
	for of := range f.units {
		v = told(t, v, api.Happening{Kind: api.Poke, Unit: of}, api.Happening{Kind: api.Arrive}, api.Happening{Kind: api.Arrive})
	}
	v = told(t, v, api.Happening{Kind: api.Propose, O: f.offer(2)}, api.Happening{Kind: api.Tick}, api.Happening{Kind: api.Poke, Unit: 1})
	return f, told(t, v, api.Happening{Kind: api.Double})
}

// told is the vehicle behind happenings that have no error.
func told(t *testing.T, v api.Vehicle, l ...api.Happening) api.Vehicle {
	t.Helper()
	for _, x := range l {
		next, e := Do(v, x)
		if e != api.OK {
			t.Fatalf("%v: error %d", x, e)
		}
		v = next
	}
	return v
}

func TestNew(t *testing.T) {
	all := [][]int{{7}, counted(40, 300), {0, api.MaxWord}, {9, 9}}
	for units := 1; units <= api.MaxUnits; units++ {
		f := fleetOf(t, units, all...)
		r := root(4, 2, 1, 3, 50)
		v, e := New(f.b, f.l, r, all[:units])
		wantErrno(t, "new", e, api.OK)
		want := api.Vehicle{B: f.b, S: f.l}
		want.G, e = gate.New(r, units)
		wantErrno(t, "gateway", e, api.OK)
		for i, image := range all[:units] {
			u, e := unit.New(image, i+1)
			wantErrno(t, "unit", e, api.OK)
			want.Units = append(want.Units, u)
		}
		wantVehicle(t, "new", v, want)
		wantErrno(t, "check", Check(v), api.OK)
	}
}

// textsOf is a book of n texts that name nothing.
func textsOf(n int) []string {
	var l []string
	for i := range n {
		l = append(l, strings.Repeat("x", i+1))
	}
	return l
}

func signedOf(n int, s api.Signed) []api.Signed {
	l := make([]api.Signed, n)
	for i := range l {
		l[i] = s
	}
	return l
}

func TestNewAtTheEdges(t *testing.T) {
	b := api.Book{Texts: append(textsOf(api.MaxBook-2), strings.Repeat("y", api.MaxText), "image 7")}
	l := signedOf(api.MaxBook*api.MaxKeys, api.Signed{Key: api.MaxKey, Name: api.MaxBook})
	v, e := New(b, l, root(api.MaxVersion, 6, 1, 2, 3, 4, 5, api.MaxKey), [][]int{{7}, {7}, {7}, {7}})
	wantErrno(t, "new", e, api.OK)
	wantErrno(t, "check", Check(v), api.OK)
	for _, u := range v.Units { // the same image, but each has its own flash
		if _, name, _ := unit.Runs(u); name != api.MaxBook {
			t.Errorf("runs the name %d", name)
		}
	}
	v, e = New(api.Book{Texts: []string{"image 7"}}, nil, root(1, 1, 1), [][]int{{7}})
	wantErrno(t, "nobody has signed", e, api.OK)
	wantErrno(t, "check", Check(v), api.OK)
}

func TestNewWrongInputs(t *testing.T) {
	book := []string{"image 7", "image 8 8"}
	twice := []string{"image 7", "image 8 8", "image 7"}
	fine, key := []api.Signed{{Key: 1, Name: 1}}, []api.Signed{{Key: 1, Name: 1}, {Key: 0, Name: 1}}
	r := root(1, 1, 3)
	seven, none := []int{7}, []int{6}
	cases := []struct {
		what   string
		texts  []string
		l      []api.Signed
		r      api.Root
		images [][]int
		e      api.Errno
	}{
		{"a text too many", textsOf(api.MaxBook + 1), fine, r, [][]int{seven}, api.ErrMany},
		{"a text that is too long", append(list(book), strings.Repeat("z", api.MaxText+1)), fine, r, [][]int{seven}, api.ErrMany},
		{"a text twice", twice, fine, r, [][]int{seven}, api.ErrTwice},
		{"a text twice, and a key, a root, images", twice, key, api.Root{}, nil, api.ErrTwice},
		{"too many have signed", book, signedOf(api.MaxBook*api.MaxKeys+1, fine[0]), r, [][]int{seven}, api.ErrMany},
		{"a key 0", book, key, r, [][]int{seven}, api.ErrRange},
		{"a name 61", book, []api.Signed{{Key: 1, Name: api.MaxBook + 1}}, r, [][]int{seven}, api.ErrRange},
		{"too many have signed, and a root", book, signedOf(api.MaxBook*api.MaxKeys+1, fine[0]), root(0, 1), nil, api.ErrMany},
		{"no units", book, fine, r, nil, api.ErrRange},
		{"no units, empty", book, fine, r, [][]int{}, api.ErrRange},
		{"a unit too many", book, fine, r, [][]int{seven, seven, seven, seven, seven}, api.ErrRange},
		{"no units, and a root of no keys", book, fine, root(1, 1), nil, api.ErrRange},
		{"a unit too many, and no images", book, fine, r, make([][]int, 5), api.ErrRange},
		{"a root of version 0", book, fine, root(0, 1, 3), [][]int{seven}, api.ErrRange},
		{"a root of no keys", book, fine, root(1, 1), [][]int{seven}, api.ErrMany},
		{"a root with a key twice", book, fine, root(1, 1, 3, 3), [][]int{seven}, api.ErrTwice},
		{"a root that wants too many", book, fine, root(1, 2, 3), [][]int{seven}, api.ErrForm},
		{"a root that wants too many, and an image", book, fine, root(1, 2, 3), [][]int{none}, api.ErrForm},
		{"an image of no words", book, fine, r, [][]int{{}}, api.ErrMany},
		{"an image of a word too many", book, fine, r, [][]int{make([]int, api.MaxImage+1)}, api.ErrMany},
		{"an image of what is no word", book, fine, r, [][]int{{-1}}, api.ErrRange},
		{"an image of what is no word, above", book, fine, r, [][]int{{8, api.MaxWord + 1}}, api.ErrRange},
		{"an image that has no name", book, fine, r, [][]int{none}, api.ErrWho},
		{"the last image has no name", book, fine, r, [][]int{seven, {8, 8}, seven, {8}}, api.ErrWho},
		{"of two images the first one counts", book, fine, r, [][]int{seven, none, {}}, api.ErrWho},
		{"of two images the first one counts, turned", book, fine, r, [][]int{seven, {}, none}, api.ErrMany},
		{"of two images the first one counts, words", book, fine, r, [][]int{{-1}, none}, api.ErrRange},
		{"a book of nothing", nil, nil, r, [][]int{seven}, api.ErrWho},
	}
	for _, c := range cases {
		v, e := New(api.Book{Texts: c.texts}, c.l, c.r, c.images)
		wantErrno(t, c.what, e, c.e)
		wantNothing(t, c.what, v)
	}
}

// fault is a change by which Check refuses the vehicle.
type fault struct {
	what  string
	e     api.Errno
	spoil func(v *api.Vehicle)
}

// faults stand in the order in which Check tells them; each is in a place of its own, so that two can be there at once. They are of a vehicle of two units, two campaigns, and some messages.
func faults() []fault {
	return []fault{
		{"a text twice", api.ErrTwice, func(v *api.Vehicle) { v.B.Texts[1] = v.B.Texts[0] }},
		{"a text that is too long", api.ErrMany, func(v *api.Vehicle) { v.B.Texts = append(v.B.Texts, strings.Repeat("z", api.MaxText+1)) }},
		{"a key beyond", api.ErrRange, func(v *api.Vehicle) { v.S[0].Key = api.MaxKey + 1 }},
		{"the gateway's flash", api.ErrRange, func(v *api.Vehicle) { v.G.F.Fuel = -2 }},
		{"the gateway's log", api.ErrWho, func(v *api.Vehicle) { v.G.F.Words[0] = api.MaxWord }},
		{"who did", api.ErrForm, func(v *api.Vehicle) { v.G.Did = v.G.Did[1:] }},
		{"a version beyond", api.ErrRange, func(v *api.Vehicle) { v.G.T.Version = api.MaxVersion + 1 }},
		{"a root of no keys", api.ErrMany, func(v *api.Vehicle) { v.G.T.R.Keys = nil }},
		{"a unit too many", api.ErrForm, func(v *api.Vehicle) { v.Units = append(v.Units, v.Units[1]) }},
		{"the first unit's log", api.ErrWho, func(v *api.Vehicle) { v.Units[0].F.Words[0] = 0 }},
		{"the first unit's Have", api.ErrRange, func(v *api.Vehicle) { v.Units[0].Have = api.MaxImage + 1 }},
		{"the second unit's flash", api.ErrForm, func(v *api.Vehicle) { v.Units[1].F.Words = v.Units[1].F.Words[:64] }},
		{"the second unit's N", api.ErrRange, func(v *api.Vehicle) { v.Units[1].N = -1 }},
		{"a campaign too many", api.ErrMany, func(v *api.Vehicle) {
			v.Campaigns = append(v.Campaigns, make([]api.Campaign, api.MaxReleases+1-len(v.Campaigns))...)
		}},
		{"the first campaign's number", api.ErrForm, func(v *api.Vehicle) { v.Campaigns[0].N = 2 }},
		{"the first campaign's first image", api.ErrMany, func(v *api.Vehicle) { v.Campaigns[0].Images[0] = nil }},
		{"the first campaign's second image", api.ErrRange, func(v *api.Vehicle) { v.Campaigns[0].Images[1][0] = -1 }},
		{"the first campaign's release", api.ErrRange, func(v *api.Vehicle) { v.Campaigns[0].R.Until = -1 }},
		{"the second campaign's images", api.ErrForm, func(v *api.Vehicle) { v.Campaigns[1].Images = append(v.Campaigns[1].Images, []int{}) }},
		{"the second campaign's targets", api.ErrForm, func(v *api.Vehicle) { v.Campaigns[1].R.Targets = v.Campaigns[1].R.Targets[:1] }},
		{"the second campaign's first image", api.ErrMany, func(v *api.Vehicle) { v.Campaigns[1].Images[0] = make([]int, api.MaxImage+1) }},
		{"the second campaign's release", api.ErrRange, func(v *api.Vehicle) { v.Campaigns[1].R.Version = 0 }},
		{"the first message's kind", api.ErrRange, func(v *api.Vehicle) { v.Net[0].Kind = 0 }},
		{"the first message's unit", api.ErrWho, func(v *api.Vehicle) { v.Net[0].Unit = 2 }},
		{"the second message's unit", api.ErrWho, func(v *api.Vehicle) { v.Net[1].Unit = api.MaxUnits - 1 }},
		{"the third message's words", api.ErrRange, func(v *api.Vehicle) { v.Net[2].Words = make([]int, api.Chunk+1) }},
		{"the time", api.ErrRange, func(v *api.Vehicle) { v.Now = api.MaxTime + 1 }},
	}
}

// TestCheckTellsTheFirst: of two faults the one that is told first counts, and all calls say so ahead of what is theirs.
func TestCheckTellsTheFirst(t *testing.T) {
	_, v := busy(t)
	wantErrno(t, "busy", Check(v), api.OK)
	l := faults()
	for i, first := range l {
		wantErrno(t, first.what, Check(but(v, first.spoil)), first.e)
		for _, second := range l[i+1:] {
			both := but(v, second.spoil, first.spoil)
			wantErrno(t, first.what+", and "+second.what, Check(both), first.e)
			got, e := Do(both, api.Happening{Kind: 99})
			wantErrno(t, first.what+", and "+second.what+": do", e, first.e)
			wantNothing(t, "do", got)
			got, said, e := Run(both, make([]api.Happening, api.MaxScript+1))
			wantErrno(t, first.what+", and "+second.what+": run", e, first.e)
			wantNothing(t, "run", got)
			if said != nil {
				t.Errorf("run: errors %v behind an error", said)
			}
		}
	}
}

// TestCheckAtTheEdges are values at both sides of each bound.
func TestCheckAtTheEdges(t *testing.T) {
	f, v := busy(t)
	many := func(campaigns, messages int) func(v *api.Vehicle) {
		return func(v *api.Vehicle) {
			v.Campaigns, v.Net = nil, nil
			for i := range campaigns {
				v.Campaigns = append(v.Campaigns, f.campaign(i+1, i+1))
			}
			for range messages {
				v.Net = append(v.Net, api.Message{Kind: api.Ask, N: 1})
			}
		}
	}
	now := func(n int) func(v *api.Vehicle) { return func(v *api.Vehicle) { v.Now = n } }
	message := func(m api.Message) func(v *api.Vehicle) { return func(v *api.Vehicle) { v.Net[2] = m } }
	campaign := func(change func(c *api.Campaign)) func(v *api.Vehicle) {
		return func(v *api.Vehicle) { change(&v.Campaigns[1]) }
	}
	cases := []struct {
		what   string
		change func(v *api.Vehicle)
		e      api.Errno
	}{
		{"nothing begun, nothing on its way", many(0, 0), api.OK},
		{"as many as may be", many(api.MaxReleases, api.MaxNet), api.OK},
		{"a campaign too many", many(api.MaxReleases+1, 0), api.ErrMany},
		{"a message too many", many(0, api.MaxNet+1), api.ErrMany},
		{"many messages", many(0, 10000), api.ErrMany},
		{"time 0", now(0), api.OK},
		{"the last time", now(api.MaxTime), api.OK},
		{"time -1", now(-1), api.ErrRange},
		{"behind the last time", now(api.MaxTime + 1), api.ErrRange},
		{"the lowest time", now(math.MinInt), api.ErrRange},
		{"the highest time", now(math.MaxInt), api.ErrRange},
		{"a message at its bounds", message(api.Message{Kind: api.Ask, Unit: 1, N: api.MaxReleases, At: api.MaxImage, Image: api.MaxBook, Words: counted(api.Chunk, api.MaxWord-7), Yes: true}), api.OK},
		{"a message of kind 8", message(api.Message{Kind: api.Ask + 1, N: 1}), api.ErrRange},
		{"a message of campaign 0", message(api.Message{Kind: api.Ask}), api.ErrRange},
		{"a message of campaign 9", message(api.Message{Kind: api.Ask, N: api.MaxReleases + 1}), api.ErrRange},
		{"a message of unit -1", message(api.Message{Kind: api.Ask, Unit: -1, N: 1}), api.ErrRange},
		{"a message of unit 2 of 2", message(api.Message{Kind: api.Ask, Unit: 2, N: 1}), api.ErrWho},
		{"a message of unit 3 of 2", message(api.Message{Kind: api.Ask, Unit: 3, N: 1}), api.ErrWho},
		{"a message of unit 4", message(api.Message{Kind: api.Ask, Unit: api.MaxUnits, N: 1}), api.ErrRange},
		{"a message of at 41", message(api.Message{Kind: api.Ask, N: 1, At: api.MaxImage + 1}), api.ErrRange},
		{"a message of a campaign that wasn't begun", message(api.Message{Kind: api.Commit, N: 8}), api.OK},
		{"a campaign's number 1 at the second place", campaign(func(c *api.Campaign) { c.N = 1 }), api.ErrForm},
		{"a campaign's number 3 at the second place", campaign(func(c *api.Campaign) { c.N = 3 }), api.ErrForm},
		{"no images", campaign(func(c *api.Campaign) { c.Images = nil }), api.ErrForm},
		{"a third image", campaign(func(c *api.Campaign) { c.Images = append(c.Images, []int{1}) }), api.ErrForm},
		{"no targets", campaign(func(c *api.Campaign) { c.R.Targets = nil }), api.ErrForm},
		{"a third target", campaign(func(c *api.Campaign) { c.R.Targets = append(c.R.Targets, api.Target{Unit: 2, Image: 1, Long: 1}) }), api.ErrForm},
		{"a target of another unit", campaign(func(c *api.Campaign) { c.R.Targets[0].Unit = 1 }), api.ErrRange},
		{"an image that isn't its target's", campaign(func(c *api.Campaign) { c.Images[0] = counted(40, 1) }), api.OK},
		{"an image that has no name", campaign(func(c *api.Campaign) { c.Images[0] = []int{6} }), api.OK},
		{"the last unit is missing", func(v *api.Vehicle) { v.Units = v.Units[:1] }, api.ErrForm},
		{"no units", func(v *api.Vehicle) { v.Units = nil }, api.ErrForm},
		{"no units, and no votes", func(v *api.Vehicle) { v.Units, v.G.Voted, v.G.Did = nil, nil, nil }, api.ErrForm},
		{"neither is up", func(v *api.Vehicle) { v.G.Up, v.Units[0].Up, v.Units[1].Up = false, false, false }, api.OK},
		{"fuel", func(v *api.Vehicle) { v.G.F.Fuel, v.Units[0].F.Fuel, v.Units[1].F.Fuel = 0, api.MaxTime, 0 }, api.OK},
		{"all of it", func(v *api.Vehicle) { *v = api.Vehicle{} }, api.ErrForm},
	}
	for _, c := range cases {
		wantErrno(t, c.what, Check(but(v, c.change)), c.e)
	}
}

// differences are changes of one field each, all of them seen.
func differences() []func(v *api.Vehicle) {
	return []func(v *api.Vehicle){
		func(v *api.Vehicle) { v.B.Texts[2] += "x" },
		func(v *api.Vehicle) { v.B.Texts = append(v.B.Texts, "") },
		func(v *api.Vehicle) { v.S[1].Key++ },
		func(v *api.Vehicle) { v.S[1].Name-- },
		func(v *api.Vehicle) { v.S = v.S[1:] },
		func(v *api.Vehicle) { v.G.F.Words[63]-- },
		func(v *api.Vehicle) { v.G.F.Words = v.G.F.Words[:63] },
		func(v *api.Vehicle) { v.G.F.Fuel = 7 },
		func(v *api.Vehicle) { v.G.Up = false },
		func(v *api.Vehicle) { v.G.T.Version++ },
		func(v *api.Vehicle) { v.G.T.R.Version++ },
		func(v *api.Vehicle) { v.G.T.R.Keys[0]++ },
		func(v *api.Vehicle) { v.G.T.R.Keys = append(v.G.T.R.Keys, 9) },
		func(v *api.Vehicle) { v.G.T.R.Threshold++ },
		func(v *api.Vehicle) { v.G.Voted[1] = true },
		func(v *api.Vehicle) { v.G.Voted = nil },
		func(v *api.Vehicle) { v.G.Did[0] = true },
		func(v *api.Vehicle) { v.G.Did = append(v.G.Did, false) },
		func(v *api.Vehicle) { v.Units[1].F.Words[191]-- },
		func(v *api.Vehicle) { v.Units[0].F.Words = nil },
		func(v *api.Vehicle) { v.Units[1].F.Fuel = 0 },
		func(v *api.Vehicle) { v.Units[1].Up = false },
		func(v *api.Vehicle) { v.Units[0].N++ },
		func(v *api.Vehicle) { v.Units[1].Have++ },
		func(v *api.Vehicle) { v.Units = v.Units[:1] },
		func(v *api.Vehicle) { v.Campaigns[1].N++ },
		func(v *api.Vehicle) { v.Campaigns[0].R.Version++ },
		func(v *api.Vehicle) { v.Campaigns[0].R.Until-- },
		func(v *api.Vehicle) { v.Campaigns[1].R.Targets[1].Unit-- },
		func(v *api.Vehicle) { v.Campaigns[1].R.Targets[1].Image++ },
		func(v *api.Vehicle) { v.Campaigns[1].R.Targets[0].Long++ },
		func(v *api.Vehicle) { v.Campaigns[1].R.Targets = v.Campaigns[1].R.Targets[:1] },
		func(v *api.Vehicle) { v.Campaigns[1].Images[1][0]++ },
		func(v *api.Vehicle) { v.Campaigns[1].Images[0] = append(v.Campaigns[1].Images[0], 1) },
		func(v *api.Vehicle) { v.Campaigns[1].Images = append(v.Campaigns[1].Images, nil) },
		func(v *api.Vehicle) { v.Campaigns = v.Campaigns[:1] },
		func(v *api.Vehicle) { v.Net[0].Kind++ },
		func(v *api.Vehicle) { v.Net[1].Unit-- },
		func(v *api.Vehicle) { v.Net[2].N-- },
		func(v *api.Vehicle) { v.Net[0].At++ },
		func(v *api.Vehicle) { v.Net[0].Image++ },
		func(v *api.Vehicle) { v.Net[0].Words[0]++ },
		func(v *api.Vehicle) { v.Net[0].Words = append(v.Net[0].Words, 0) },
		func(v *api.Vehicle) { v.Net[1].Yes = true },
		func(v *api.Vehicle) { v.Net[0], v.Net[1] = v.Net[1], v.Net[0] },
		func(v *api.Vehicle) { v.Net = v.Net[:2] },
		func(v *api.Vehicle) { v.Now-- },
		func(v *api.Vehicle) { v.Now = math.MinInt },
	}
}

func TestSame(t *testing.T) {
	_, v := busy(t)
	l := differences()
	for i, change := range l {
		one := but(v, change)
		if Same(v, one) || Same(one, v) {
			t.Errorf("difference %d isn't seen", i)
		}
		if !Same(one, but(one)) {
			t.Errorf("difference %d: a copy isn't the same", i)
		}
		for j, other := range l[i+1:] {
			if two := but(v, other); Same(one, two) || Same(two, one) {
				t.Errorf("differences %d and %d are taken for one", i, i+1+j)
			}
		}
	}
	wantVehicle(t, "nothing was changed", v, but(v))
	if !Same(v, but(v)) || !Same(api.Vehicle{}, api.Vehicle{}) || Same(v, api.Vehicle{}) || Same(api.Vehicle{}, v) {
		t.Errorf("the same, or nothing")
	}
	if !Same(api.Vehicle{}, but(api.Vehicle{})) || !Same(but(api.Vehicle{}), api.Vehicle{}) {
		t.Errorf("no list, and a list of nothing, are unlike")
	}
	for _, broken := range faults() {
		if one := but(v, broken.spoil); !Same(one, but(one)) || Same(one, v) {
			t.Errorf("%s: unsound, and alike", broken.what)
		}
	}
}
