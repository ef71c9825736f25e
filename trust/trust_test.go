package trust

import (
	"fmt"
	"math"
	"math/rand"
	"reflect"
	"slices"
	"strings"
	"testing"

	"wainwright/api"
	"wainwright/meta"
)

const spare = 777 // what lies in the spare room behind a list that is handed in

func wantErrno(t *testing.T, what string, got, want api.Errno) {
	t.Helper()
	if got != want {
		t.Errorf("%s: error %d, want %d", what, got, want)
	}
}

// wantTrust: with an error there is none.
func wantTrust(t *testing.T, what string, got api.Trust, e api.Errno, trust api.Trust, want api.Errno) {
	t.Helper()
	wantErrno(t, what, e, want)
	if want != api.OK {
		trust = api.Trust{}
	}
	if !reflect.DeepEqual(got, trust) {
		t.Errorf("%s: %v, want %v", what, got, trust)
	}
}

func wantCount(t *testing.T, what string, got int, e api.Errno, count int, want api.Errno) {
	t.Helper()
	wantErrno(t, what, e, want)
	if got != count {
		t.Errorf("%s: %d, want %d", what, got, count)
	}
}

func counted(n, first int) []int {
	l := make([]int, n)
	for i := range l {
		l[i] = first + i
	}
	return l
}

// signedBy: each of the keys has signed each of the names.
func signedBy(keys, names []int) []api.Signed {
	var l []api.Signed
	for _, key := range keys {
		for _, name := range names {
			l = append(l, api.Signed{Key: key, Name: name})
		}
	}
	return l
}

func root(version, threshold int, keys ...int) api.Root {
	return api.Root{Version: version, Keys: keys, Threshold: threshold}
}

func TestCheckSigned(t *testing.T) {
	full := slices.Repeat([]api.Signed{{Key: 1, Name: 1}}, 360)
	cases := []struct {
		what string
		l    []api.Signed
		e    api.Errno
	}{
		{"none", nil, api.OK},
		{"empty", []api.Signed{}, api.OK},
		{"the least", []api.Signed{{Key: 1, Name: 1}}, api.OK},
		{"the most", []api.Signed{{Key: 50, Name: 60}}, api.OK},
		{"one twice", []api.Signed{{Key: 2, Name: 3}, {Key: 2, Name: 3}}, api.OK},
		{"unlike ones, in no order", signedBy([]int{9, 3, 50}, []int{60, 1}), api.OK},
		{"360", full, api.OK},
		{"361", append(slices.Clone(full), api.Signed{Key: 1, Name: 1}), api.ErrMany},
		{"361 that are wrong", make([]api.Signed, 361), api.ErrMany},
		{"endless", make([]api.Signed, 1000000), api.ErrMany},
		{"nothing of one", []api.Signed{{}}, api.ErrRange},
		{"key 0", []api.Signed{{Key: 0, Name: 1}}, api.ErrRange},
		{"key -1", []api.Signed{{Key: -1, Name: 1}}, api.ErrRange},
		{"key 51", []api.Signed{{Key: 51, Name: 1}}, api.ErrRange},
		{"key lowest", []api.Signed{{Key: math.MinInt, Name: 1}}, api.ErrRange},
		{"key highest", []api.Signed{{Key: math.MaxInt, Name: 1}}, api.ErrRange},
		{"name 0", []api.Signed{{Key: 1, Name: 0}}, api.ErrRange},
		{"name -1", []api.Signed{{Key: 1, Name: -1}}, api.ErrRange},
		{"name 61", []api.Signed{{Key: 1, Name: 61}}, api.ErrRange},
		{"name lowest", []api.Signed{{Key: 1, Name: math.MinInt}}, api.ErrRange},
		{"name highest", []api.Signed{{Key: 1, Name: math.MaxInt}}, api.ErrRange},
		{"the last key", append(slices.Clone(full[:359]), api.Signed{Key: 51, Name: 1}), api.ErrRange},
		{"the last name", append(slices.Clone(full[:359]), api.Signed{Key: 1, Name: 0}), api.ErrRange},
	}
	for _, c := range cases {
		wantErrno(t, c.what, CheckSigned(c.l), c.e)
		n, e := Count(c.l, root(1, 1, 50), []int{50}, 61)
		wantCount(t, c.what, n, e, 0, c.e)
	}
}

func TestCheckTrust(t *testing.T) {
	right := root(1, 2, 2, 5)
	cases := []struct {
		what string
		t    api.Trust
		e    api.Errno
	}{
		{"nothing taken yet", api.Trust{R: right}, api.OK},
		{"some version", api.Trust{R: right, Version: 12}, api.OK},
		{"the greatest version", api.Trust{R: right, Version: 1000}, api.OK},
		{"the greatest root", api.Trust{R: root(1000, 6, counted(6, 45)...), Version: 1000}, api.OK},
		{"nothing", api.Trust{}, api.ErrRange},
		{"version -1", api.Trust{R: right, Version: -1}, api.ErrRange},
		{"version 1001", api.Trust{R: right, Version: 1001}, api.ErrRange},
		{"version lowest", api.Trust{R: right, Version: math.MinInt}, api.ErrRange},
		{"version highest", api.Trust{R: right, Version: math.MaxInt}, api.ErrRange},
		{"version, ahead of the root's many", api.Trust{R: root(1, 1), Version: -1}, api.ErrRange},
		{"root of version 0", api.Trust{R: root(0, 1, 2)}, api.ErrRange},
		{"root of version 1001", api.Trust{R: root(1001, 1, 2)}, api.ErrRange},
		{"root without keys", api.Trust{R: root(1, 1)}, api.ErrMany},
		{"root of seven keys", api.Trust{R: root(1, 1, counted(7, 1)...)}, api.ErrMany},
		{"root of key 51", api.Trust{R: root(1, 1, 51)}, api.ErrRange},
		{"root with a key twice", api.Trust{R: root(1, 1, 2, 2)}, api.ErrTwice},
		{"root's threshold", api.Trust{R: root(1, 3, 2, 5)}, api.ErrForm},
	}
	for _, c := range cases {
		wantErrno(t, c.what, CheckTrust(c.t), c.e)
		if c.e == api.OK {
			continue
		}
		// ahead of all else that is wrong
		got, e := Turn(api.Book{Texts: make([]string, 61)}, make([]api.Signed, 1), c.t, root(0, 0), nil)
		wantTrust(t, "turn: "+c.what, got, e, api.Trust{}, c.e)
		got, e = Take(api.Book{Texts: make([]string, 61)}, make([]api.Signed, 1), c.t, api.Offer{Roots: make([]api.Root, 7)}, 1, 1)
		wantTrust(t, "take: "+c.what, got, e, api.Trust{}, c.e)
	}
}

func TestCount(t *testing.T) {
	l := []api.Signed{{Key: 3, Name: 7}, {Key: 5, Name: 7}, {Key: 5, Name: 7}, {Key: 9, Name: 8}, {Key: 7, Name: 9}, {Key: 50, Name: 60}, {Key: 4, Name: 7}}
	r := root(1, 1, 3, 5, 7, 9)
	wrong := []api.Signed{{Key: 1}}
	cases := []struct {
		what  string
		l     []api.Signed
		r     api.Root
		sigs  []int
		name  int
		count int
		e     api.Errno
	}{
		{"two of them", l, r, []int{5, 3}, 7, 2, api.OK},
		{"one of them", l, r, []int{5}, 7, 1, api.OK},
		{"no sigs", l, r, nil, 7, 0, api.OK},
		{"empty sigs", l, r, []int{}, 7, 0, api.OK},
		{"nobody has signed", nil, r, []int{3, 5}, 7, 0, api.OK},
		{"a key twice among sigs", l, r, []int{5, 5, 5}, 7, 1, api.OK},
		{"a key twice, not side by side", l, r, []int{5, 3, 5, 3}, 7, 2, api.OK},
		{"more keys than are wanted", l, root(1, 1, 3, 5), []int{3, 5}, 7, 2, api.OK},
		{"has signed, but isn't among sigs", l, r, []int{3}, 7, 1, api.OK},
		{"among sigs, but has signed another name", l, r, []int{7, 9}, 7, 0, api.OK},
		{"has signed, but isn't the root's", l, r, []int{4, 3}, 7, 1, api.OK},
		{"another name", l, r, []int{3, 5, 7, 9}, 8, 1, api.OK},
		{"the greatest key and name", l, root(1, 1, 50), []int{50}, 60, 1, api.OK},
		{"the key for the name", []api.Signed{{Key: 7, Name: 3}}, r, []int{3, 7}, 7, 0, api.OK},
		{"a name that nobody has", l, r, []int{3, 5, 7, 9}, 1, 0, api.OK},
		{"name 0", l, r, []int{3, 5, 7, 9}, 0, 0, api.OK},
		{"name lowest", l, r, []int{3, 5}, math.MinInt, 0, api.OK},
		{"name highest", l, r, []int{3, 5}, math.MaxInt, 0, api.OK},
		{"sigs that are no keys", l, r, []int{0, -1, 51, math.MinInt, math.MaxInt, 3}, 7, 1, api.OK},
		{"all of six", signedBy(counted(6, 10), []int{2}), root(1, 1, counted(6, 10)...), counted(6, 10), 2, 6, api.OK},
		{"fifty sigs", l, r, counted(50, 1), 7, 2, api.OK},
		{"fifty sigs, the last counts", l, r, append(make([]int, 49), 3), 7, 1, api.OK},
		{"fifty-one sigs", l, r, counted(51, 1), 7, 0, api.ErrMany},
		{"fifty-one the same", l, r, slices.Repeat([]int{3}, 51), 7, 0, api.ErrMany},
		{"endless sigs", l, r, make([]int, 1000000), 7, 0, api.ErrMany},
		{"root of nothing", l, api.Root{}, []int{3}, 7, 0, api.ErrRange},
		{"root without keys", l, root(1, 0), []int{3}, 7, 0, api.ErrMany},
		{"root with a key twice", l, root(1, 1, 3, 3), []int{3}, 7, 0, api.ErrTwice},
		{"root's threshold", l, root(1, 2, 3), []int{3}, 7, 0, api.ErrForm},
		{"wrong l", wrong, r, []int{3}, 7, 0, api.ErrRange},
		{"wrong l, ahead of the root and sigs", wrong, root(1, 0), counted(51, 1), 7, 0, api.ErrRange},
		{"many of l, ahead of the root and sigs", make([]api.Signed, 361), api.Root{}, counted(51, 1), 7, 0, api.ErrMany},
		{"root, ahead of sigs", l, root(1, 2, 3), counted(51, 1), 7, 0, api.ErrForm},
	}
	for _, c := range cases {
		n, e := Count(c.l, c.r, c.sigs, c.name)
		wantCount(t, c.what, n, e, c.count, c.e)
	}
}

// bookOf has the texts of roots, releases and images, and texts as they are, in this order.
func bookOf(t *testing.T, things ...any) api.Book {
	t.Helper()
	var b api.Book
	for _, thing := range things {
		s, e := "", api.OK
		switch x := thing.(type) {
		case api.Root:
			s, e = meta.RootText(x)
		case api.Release:
			s, e = meta.ReleaseText(x)
		case []int:
			s, e = meta.ImageText(x)
		case string:
			s = x
		}
		wantErrno(t, "text", e, api.OK)
		b.Texts = append(b.Texts, s)
	}
	return b
}

func TestTurn(t *testing.T) {
	old := root(4, 2, 1, 2, 3)
	next := root(5, 3, 3, 4, 5, 6)
	b := bookOf(t, "something", next, root(4, 1, 9), root(6, 1, 9))
	all := signedBy(counted(6, 1), []int{2, 3, 4})
	without := func(keys ...int) []api.Signed { // those keys have signed another text alone
		l := signedBy(counted(6, 1), []int{1, 3, 4})
		return append(l, signedBy(slices.DeleteFunc(counted(6, 1), func(key int) bool { return slices.Contains(keys, key) }), []int{2})...)
	}
	trust := api.Trust{R: old, Version: 7}
	cases := []struct {
		what string
		b    api.Book
		l    []api.Signed
		t    api.Trust
		next api.Root
		sigs []int
		e    api.Errno
	}{
		{"all have signed", b, all, trust, next, counted(6, 1), api.OK},
		{"just enough, one for both", b, all, trust, next, []int{6, 4, 3, 1}, api.OK},
		{"just enough in l", b, without(1, 4), trust, next, counted(6, 1), api.OK},
		{"fifty sigs", b, all, trust, next, counted(50, 1), api.OK},
		{"one too few of the old root", b, all, trust, next, []int{3, 4, 5, 6}, api.ErrSign},
		{"none of the old root", b, all, trust, next, []int{4, 5, 6}, api.ErrSign},
		{"one too few of the next root", b, all, trust, next, []int{1, 2, 3, 4}, api.ErrSign},
		{"the old root alone", b, all, trust, next, []int{1, 2}, api.ErrSign},
		{"a key twice isn't two", b, all, trust, next, []int{3, 3, 4, 5, 6}, api.ErrSign},
		{"no signatures", b, all, trust, next, nil, api.ErrSign},
		{"nothing is signed", b, nil, trust, next, counted(6, 1), api.ErrSign},
		{"too few of the old root in l", b, without(1, 2), trust, next, counted(6, 1), api.ErrSign},
		{"too few of the next root in l", b, without(4, 5), trust, next, counted(6, 1), api.ErrSign},
		{"not in the book", bookOf(t, "something", "else"), all, trust, next, counted(6, 1), api.ErrSign},
		{"an empty book", api.Book{}, all, trust, next, counted(6, 1), api.ErrSign},
		{"elsewhere in the book", bookOf(t, next), all, trust, next, counted(6, 1), api.ErrSign},
		{"the same version", b, all, trust, root(4, 1, 9), counted(9, 1), api.ErrOld},
		{"the same root", b, all, trust, old, counted(6, 1), api.ErrOld},
		{"two more", b, all, trust, root(6, 1, 9), counted(9, 1), api.ErrOld},
		{"one less", b, all, trust, root(3, 1, 9), counted(9, 1), api.ErrOld},
		{"behind the greatest version", b, all, api.Trust{R: root(1000, 1, 1)}, root(1, 1, 9), counted(9, 1), api.ErrOld},
		{"the greatest version again", b, all, api.Trust{R: root(1000, 1, 1)}, root(1000, 1, 9), counted(9, 1), api.ErrOld},
		{"beyond the greatest version", b, all, api.Trust{R: root(1000, 1, 1)}, root(1001, 1, 9), counted(9, 1), api.ErrRange},
		{"next of nothing", b, all, trust, api.Root{}, nil, api.ErrRange},
		{"next without keys", b, all, trust, root(5, 1), nil, api.ErrMany},
		{"next with a key twice", b, all, trust, root(5, 1, 3, 3), nil, api.ErrTwice},
		{"next's threshold", b, all, trust, root(5, 0, 3), nil, api.ErrForm},
		{"a book with one twice", bookOf(t, next, next), all, trust, next, counted(6, 1), api.ErrTwice},
		{"a book of too many", api.Book{Texts: make([]string, 61)}, all, trust, next, counted(6, 1), api.ErrMany},
		{"wrong l", b, append(slices.Clone(all), api.Signed{Key: 51, Name: 2}), trust, next, counted(6, 1), api.ErrRange},
		{"many of l", b, slices.Repeat(all, 21), trust, next, counted(6, 1), api.ErrMany},
		{"fifty-one sigs", b, all, trust, next, counted(51, 1), api.ErrMany},
		{"next, ahead of the book", bookOf(t, "", ""), nil, trust, root(6, 0, 3), counted(51, 1), api.ErrForm},
		{"the book, ahead of the version", bookOf(t, "", ""), nil, trust, root(6, 1, 3), counted(51, 1), api.ErrTwice},
		{"the version, ahead of l", b, make([]api.Signed, 1), trust, root(6, 1, 3), counted(51, 1), api.ErrOld},
		{"l, ahead of sigs", b, make([]api.Signed, 1), trust, next, counted(51, 1), api.ErrRange},
		{"sigs, ahead of too few", b, nil, trust, next, counted(51, 1), api.ErrMany},
	}
	for _, c := range cases {
		got, e := Turn(c.b, c.l, c.t, c.next, c.sigs)
		wantTrust(t, c.what, got, e, api.Trust{R: c.next, Version: c.t.Version}, c.e)
	}
}

// TestThresholds: just as many as each of the roots wants turn it, one less doesn't.
func TestThresholds(t *testing.T) {
	for many := 1; many <= api.MaxKeys; many++ {
		for threshold := 1; threshold <= many; threshold++ {
			old := api.Trust{R: root(1, threshold, counted(many, 1)...)}
			for wanted := 1; wanted <= many; wanted++ {
				next := root(2, wanted, counted(many, 11)...)
				b := bookOf(t, next)
				l := signedBy(counted(20, 1), []int{1})
				for signed := 0; signed <= many; signed++ {
					for nexts := 0; nexts <= many; nexts++ {
						want := api.OK
						if signed < threshold || nexts < wanted {
							want = api.ErrSign
						}
						got, e := Turn(b, l, old, next, append(counted(signed, 1), counted(nexts, 11)...))
						wantTrust(t, fmt.Sprint(signed, " of ", threshold, ", ", nexts, " of ", wanted), got, e, api.Trust{R: next}, want)
					}
				}
			}
		}
	}
}

// scene is all that Take is given.
type scene struct {
	b          api.Book
	l          []api.Signed
	t          api.Trust
	o          api.Offer
	now, units int
}

func (s scene) take() (api.Trust, api.Errno) { return Take(s.b, s.l, s.t, s.o, s.now, s.units) }

// goodScene: two units, two roots on the way, and just enough signatures; both keys of one root sign for the next one.
func goodScene(t *testing.T) scene {
	t.Helper()
	first, second := root(2, 2, 3, 4), root(3, 2, 5, 6, 7)
	r := api.Release{Version: 8, Until: 90, Targets: []api.Target{{Unit: 0, Image: 4, Long: 3}, {Unit: 1, Image: 5, Long: 1}}}
	return scene{
		b:     bookOf(t, first, second, r, []int{1, 2, 3}, []int{9}, []int{1, 2}),
		l:     append(signedBy([]int{1, 3, 4}, []int{1}), append(signedBy([]int{3, 4, 5, 7}, []int{2}), signedBy([]int{5, 6}, []int{3})...)...),
		t:     api.Trust{R: root(1, 1, 1, 2), Version: 7},
		o:     api.Offer{Roots: []api.Root{first, second}, RootSigs: [][]int{{1, 3, 4}, {3, 4, 5, 7}}, R: r, Sigs: []int{5, 6}, Images: [][]int{{1, 2, 3}, {9}}},
		now:   90,
		units: 2,
	}
}

func TestTakeByRoots(t *testing.T) {
	cases := []struct {
		what   string
		change func(s *scene)
		e      api.Errno
	}{
		{"two roots", func(s *scene) {}, api.OK},
		{"the root counts already", func(s *scene) {
			s.t.R, s.o.Roots, s.o.RootSigs = s.o.Roots[1], nil, nil
		}, api.OK},
		{"empty lists of roots", func(s *scene) {
			s.t.R, s.o.Roots, s.o.RootSigs = s.o.Roots[1], []api.Root{}, [][]int{}
		}, api.OK},
		{"a root too few", func(s *scene) { s.o.Roots, s.o.RootSigs = s.o.Roots[:1], s.o.RootSigs[:1] }, api.ErrSign},
		{"no roots", func(s *scene) { s.o.Roots, s.o.RootSigs = nil, nil }, api.ErrSign},
		{"a root is left out", func(s *scene) { s.o.Roots, s.o.RootSigs = s.o.Roots[1:], s.o.RootSigs[1:] }, api.ErrOld},
		{"a root twice", func(s *scene) {
			s.o.Roots, s.o.RootSigs = append(s.o.Roots, s.o.Roots[1]), append(s.o.RootSigs, s.o.RootSigs[1])
		}, api.ErrOld},
		{"roots the other way round", func(s *scene) { slices.Reverse(s.o.Roots); slices.Reverse(s.o.RootSigs) }, api.ErrOld},
		{"too few for the first root", func(s *scene) { s.o.RootSigs[0] = []int{1, 3} }, api.ErrSign},
		{"too few for the second root", func(s *scene) { s.o.RootSigs[1] = []int{3, 5, 7} }, api.ErrSign},
		{"the first root signs, not the second", func(s *scene) { s.o.Sigs = []int{3, 4} }, api.ErrSign},
		{"one signature too few", func(s *scene) { s.o.Sigs = []int{5} }, api.ErrSign},
		{"a key twice isn't two", func(s *scene) { s.o.Sigs = []int{5, 5} }, api.ErrSign},
		{"said to have signed, and has not", func(s *scene) { s.o.Sigs = []int{5, 7} }, api.ErrSign},
		{"no signatures", func(s *scene) { s.o.Sigs = nil }, api.ErrSign},
		{"nothing is signed", func(s *scene) { s.l = nil }, api.ErrSign},
		{"the release isn't in the book", func(s *scene) { s.o.R.Until = 91 }, api.ErrSign},
		{"one RootSigs too few", func(s *scene) { s.o.RootSigs = s.o.RootSigs[:1] }, api.ErrMany},
		{"one RootSigs too many", func(s *scene) { s.o.RootSigs = append(s.o.RootSigs, nil) }, api.ErrMany},
		{"RootSigs without roots", func(s *scene) { s.o.Roots = nil }, api.ErrMany},
		{"roots without RootSigs", func(s *scene) { s.o.RootSigs = nil }, api.ErrMany},
		{"too many for the second root", func(s *scene) { s.o.RootSigs[1] = counted(51, 1) }, api.ErrMany},
		{"the first root's error, ahead of the second's", func(s *scene) {
			s.o.RootSigs[0], s.o.Roots[1].Threshold = nil, 0
		}, api.ErrSign},
		{"the second root's error", func(s *scene) { s.o.Roots[1].Threshold = 0 }, api.ErrForm},
	}
	for _, c := range cases {
		s := goodScene(t)
		second := s.o.Roots[1]
		c.change(&s)
		got, e := s.take()
		wantTrust(t, c.what, got, e, api.Trust{R: second, Version: 8}, c.e)
	}
}

func TestTakeOfReleases(t *testing.T) {
	cases := []struct {
		what   string
		change func(s *scene)
		e      api.Errno
	}{
		{"now is Until", func(s *scene) { s.now = 90 }, api.OK},
		{"now is one ahead", func(s *scene) { s.now = 89 }, api.OK},
		{"now is lowest", func(s *scene) { s.now = math.MinInt }, api.OK},
		{"now is one above", func(s *scene) { s.now = 91 }, api.ErrOver},
		{"now is highest", func(s *scene) { s.now = math.MaxInt }, api.ErrOver},
		{"nothing taken yet", func(s *scene) { s.t.Version = 0 }, api.OK},
		{"the same version", func(s *scene) { s.t.Version = 8 }, api.ErrOld},
		{"an older version", func(s *scene) { s.t.Version = 9 }, api.ErrOld},
		{"the greatest version is there", func(s *scene) { s.t.Version = 1000 }, api.ErrOld},
		{"fewer units", func(s *scene) { s.units = 1 }, api.ErrForm},
		{"more units", func(s *scene) { s.units = 3 }, api.ErrForm},
		{"no units", func(s *scene) { s.units = 0 }, api.ErrForm},
		{"units lowest", func(s *scene) { s.units = math.MinInt }, api.ErrForm},
		{"units highest", func(s *scene) { s.units = math.MaxInt }, api.ErrForm},
		{"an image too few", func(s *scene) { s.o.Images = s.o.Images[:1] }, api.ErrForm},
		{"an image too many", func(s *scene) { s.o.Images = append(s.o.Images, []int{9}) }, api.ErrForm},
		{"no images", func(s *scene) { s.o.Images = nil }, api.ErrForm},
		{"as many images as units, but not targets", func(s *scene) { s.o.Images = s.o.Images[:1]; s.units = 1 }, api.ErrForm},
		{"more images and units than targets", func(s *scene) { s.o.Images = append(s.o.Images, []int{9}); s.units = 3 }, api.ErrForm},
		{"images the other way round", func(s *scene) { slices.Reverse(s.o.Images) }, api.ErrWho},
		{"the first image for both", func(s *scene) { s.o.Images[1] = []int{1, 2, 3} }, api.ErrWho},
		{"another image of that length", func(s *scene) { s.o.Images[0] = []int{1, 2, 4} }, api.ErrWho},
		{"an image that isn't in the book", func(s *scene) { s.o.Images[1] = []int{10} }, api.ErrWho},
		{"another's name and length", func(s *scene) { s.o.Images[0] = []int{1, 2} }, api.ErrWho},
		{"an image without words", func(s *scene) { s.o.Images[0] = nil }, api.ErrWho},
		{"an image of too many words", func(s *scene) { s.o.Images[1] = make([]int, 41) }, api.ErrWho},
		{"an image with no word", func(s *scene) { s.o.Images[1] = []int{65536} }, api.ErrWho},
		{"release of nothing", func(s *scene) { s.o.R = api.Release{} }, api.ErrRange},
		{"version 1001", func(s *scene) { s.o.R.Version = 1001 }, api.ErrRange},
		{"no targets", func(s *scene) { s.o.R.Targets = nil }, api.ErrMany},
		{"five targets", func(s *scene) { s.o.R.Targets = make([]api.Target, 5) }, api.ErrMany},
		{"targets the other way round", func(s *scene) { slices.Reverse(s.o.R.Targets) }, api.ErrRange},
	}
	for _, c := range cases {
		s := goodScene(t)
		c.change(&s)
		got, e := s.take()
		wantTrust(t, c.what, got, e, api.Trust{R: root(3, 2, 5, 6, 7), Version: 8}, c.e)
	}
}

// TestLongOfAnother: the name is right, and Long isn't: such a release is signed as any other.
func TestLongOfAnother(t *testing.T) {
	for long := 1; long <= api.MaxImage; long++ {
		r := api.Release{Version: 1, Targets: []api.Target{{Unit: 0, Image: 2, Long: long}}}
		s := scene{
			b:     bookOf(t, r, []int{4, 4, 4}),
			l:     signedBy([]int{1}, []int{1}),
			t:     api.Trust{R: root(1, 1, 1)},
			o:     api.Offer{R: r, Sigs: []int{1}, Images: [][]int{{4, 4, 4}}},
			units: 1,
		}
		want := api.ErrWho
		if long == 3 {
			want = api.OK
		}
		got, e := s.take()
		wantTrust(t, fmt.Sprint("long ", long), got, e, api.Trust{R: root(1, 1, 1), Version: 1}, want)
	}
}

// TestNameOfWhatIsNoImage: a target that names a release or nothing in the book fits no image.
func TestNameOfWhatIsNoImage(t *testing.T) {
	for _, named := range []int{1, 3, 4, api.MaxBook} {
		r := api.Release{Version: 1, Targets: []api.Target{{Unit: 0, Image: named, Long: 1}}}
		s := scene{
			b:     bookOf(t, r, []int{4}, "image"),
			l:     signedBy([]int{1}, []int{1}),
			t:     api.Trust{R: root(1, 1, 1)},
			o:     api.Offer{R: r, Sigs: []int{1}, Images: [][]int{{4}}},
			units: 1,
		}
		got, e := s.take()
		wantTrust(t, fmt.Sprint("named ", named), got, e, api.Trust{}, api.ErrWho)
	}
}

// manyRoots: an offer of n roots, one key each, that each sign for the one behind.
func manyRoots(t *testing.T, n int) scene {
	t.Helper()
	r := api.Release{Version: 1, Targets: []api.Target{{Unit: 0, Image: 2, Long: 1}}}
	things := []any{r, []int{4}}
	s := scene{
		l:     signedBy([]int{1 + n}, []int{1}),
		t:     api.Trust{R: root(1, 1, 1)},
		o:     api.Offer{R: r, Sigs: []int{1 + n}, Images: [][]int{{4}}},
		units: 1,
	}
	for i := range n {
		next := root(2+i, 1, 2+i)
		things = append(things, next)
		s.o.Roots = append(s.o.Roots, next)
		s.o.RootSigs = append(s.o.RootSigs, []int{1 + i, 2 + i})
		s.l = append(s.l, signedBy([]int{1 + i, 2 + i}, []int{3 + i})...)
	}
	s.b = bookOf(t, things...)
	return s
}

func TestManyRoots(t *testing.T) {
	for n := range 9 {
		s := manyRoots(t, n)
		want := api.OK
		if n > 6 {
			want = api.ErrMany
		}
		got, e := s.take()
		wantTrust(t, fmt.Sprint(n, " roots"), got, e, api.Trust{R: root(1+n, 1, 1+n), Version: 1}, want)
		for i := range min(n, 6) { // each link is needed
			s := manyRoots(t, n)
			s.o.RootSigs[i] = s.o.RootSigs[i][1:]
			if n <= 6 {
				want = api.ErrSign
			}
			got, e := s.take()
			wantTrust(t, fmt.Sprint(n, " roots, without a link"), got, e, api.Trust{}, want)
		}
	}
	endless := manyRoots(t, 1)
	endless.o.Roots, endless.o.RootSigs = make([]api.Root, 1000000), make([][]int, 1000000)
	got, e := endless.take()
	wantTrust(t, "endless roots", got, e, api.Trust{}, api.ErrMany)
}

// TestEachErrorAheadOfThoseBehind puts all faults in at once, and takes out the one that is told first, one by one.
func TestEachErrorAheadOfThoseBehind(t *testing.T) {
	right := goodScene(t)
	s := goodScene(t)
	s.t.Version = -1
	s.t.R.Threshold = 3
	s.o.Roots = append(slices.Clone(right.o.Roots), make([]api.Root, 5)...)
	s.o.RootSigs = [][]int{counted(51, 1)}
	s.o.Roots[0].Keys = []int{4, 4}
	s.b.Texts = append(slices.Clone(right.b.Texts), right.b.Texts[0])
	s.l = append(slices.Clone(right.l), api.Signed{Key: 1, Name: 61})
	s.o.R.Targets = nil
	s.o.Sigs = counted(51, 1)
	s.now = 91
	s.units = 5
	s.o.Images = [][]int{nil, {9}}
	steps := []struct {
		what string
		e    api.Errno
		mend func()
	}{
		{"trust's version", api.ErrRange, func() { s.t.Version = 8 }},
		{"trust's root", api.ErrForm, func() { s.t.R = right.t.R }},
		{"seven roots", api.ErrMany, func() { s.o.Roots = s.o.Roots[:2] }},
		{"too few RootSigs", api.ErrMany, func() { s.o.RootSigs = append(s.o.RootSigs, nil) }},
		{"the first root", api.ErrTwice, func() { s.o.Roots[0] = root(3, 1, 4) }},
		{"the book", api.ErrTwice, func() { s.b = right.b }},
		{"the first root's version", api.ErrOld, func() { s.o.Roots[0] = right.o.Roots[0] }},
		{"who has signed", api.ErrRange, func() { s.l = right.l }},
		{"the first root's sigs", api.ErrMany, func() { s.o.RootSigs[0] = []int{3, 4} }},
		{"too few sigs of the old root", api.ErrSign, func() { s.o.RootSigs[0] = []int{1, 3} }},
		{"too few sigs of the first root", api.ErrSign, func() { s.o.RootSigs[0] = right.o.RootSigs[0] }},
		{"too few sigs of the second root", api.ErrSign, func() { s.o.RootSigs[1] = right.o.RootSigs[1] }},
		{"the release without targets", api.ErrMany, func() { s.o.R.Targets = right.o.R.Targets }},
		{"the release's sigs", api.ErrMany, func() { s.o.Sigs = []int{5} }},
		{"too few sigs of the release", api.ErrSign, func() { s.o.Sigs = right.o.Sigs }},
		{"an old version", api.ErrOld, func() { s.t.Version = 7 }},
		{"over", api.ErrOver, func() { s.now = 90 }},
		{"units", api.ErrForm, func() { s.units = 2 }},
		{"images", api.ErrWho, func() { s.o.Images = right.o.Images }},
	}
	for _, step := range steps {
		got, e := s.take()
		wantTrust(t, step.what, got, e, api.Trust{}, step.e)
		step.mend()
	}
	got, e := s.take()
	wantTrust(t, "all mended", got, e, api.Trust{R: root(3, 2, 5, 6, 7), Version: 8}, api.OK)
}

// TestReleaseAheadOfTheBook needs an offer without roots, as a root's name asks the book, too.
func TestReleaseAheadOfTheBook(t *testing.T) {
	s := manyRoots(t, 0)
	s.b.Texts = append(s.b.Texts, s.b.Texts[0])
	s.l = make([]api.Signed, 1)
	s.o.R.Version = 0
	for _, want := range []api.Errno{api.ErrRange, api.ErrTwice, api.ErrRange, api.OK} {
		got, e := s.take()
		wantTrust(t, "mended by and by", got, e, api.Trust{R: root(1, 1, 1), Version: 1}, want)
		switch {
		case s.o.R.Version == 0:
			s.o.R.Version = 1
		case len(s.b.Texts) == 3:
			s.b.Texts = s.b.Texts[:2]
		default:
			s.l = signedBy([]int{1}, []int{1})
		}
	}
}

// modelEnough counts with sets, unlike the program, and asks no limits: the random scenes keep them.
func modelEnough(s scene, r api.Root, sigs []int, text string) bool {
	keys := map[int]int{}
	for _, key := range r.Keys {
		keys[key] = 1
	}
	name := 0
	for i, x := range s.b.Texts {
		if x == text {
			name = i + 1
		}
	}
	for _, key := range sigs {
		for _, x := range s.l {
			if keys[key] > 0 && x.Key == key && x.Name == name {
				keys[key] = 2
			}
		}
	}
	n := 0
	for _, mark := range keys {
		n += mark / 2
	}
	return n >= r.Threshold
}

// written is the text by fmt, not by package meta.
func written(start string, numbers []int) string {
	return start + strings.Trim(fmt.Sprint(numbers), "[]")
}

func modelTake(s scene) (api.Trust, api.Errno) {
	r, o := s.t.R, s.o
	if len(o.Roots) != len(o.RootSigs) {
		return api.Trust{}, api.ErrMany
	}
	for i, next := range o.Roots {
		text := written(fmt.Sprintf("root %d %d of ", next.Version, next.Threshold), next.Keys)
		if next.Version-r.Version != 1 {
			return api.Trust{}, api.ErrOld
		}
		if !modelEnough(s, r, o.RootSigs[i], text) || !modelEnough(s, next, o.RootSigs[i], text) {
			return api.Trust{}, api.ErrSign
		}
		r = next
	}
	text := fmt.Sprintf("release %d until %d", o.R.Version, o.R.Until)
	for _, x := range o.R.Targets {
		text += fmt.Sprintf("; %d %d %d", x.Unit, x.Image, x.Long)
	}
	wrong := false
	for i := range min(len(o.R.Targets), len(o.Images)) {
		x := o.R.Targets[i]
		wrong = wrong || x.Image > len(s.b.Texts) || s.b.Texts[x.Image-1] != written("image ", o.Images[i]) || len(o.Images[i]) != x.Long
	}
	switch {
	case !modelEnough(s, r, o.Sigs, text):
		return api.Trust{}, api.ErrSign
	case o.R.Version <= s.t.Version:
		return api.Trust{}, api.ErrOld
	case s.now > o.R.Until:
		return api.Trust{}, api.ErrOver
	case len(o.R.Targets) != s.units || len(o.Images) != s.units:
		return api.Trust{}, api.ErrForm
	case wrong:
		return api.Trust{}, api.ErrWho
	}
	return api.Trust{R: r, Version: o.R.Version}, api.OK
}

// randomKeys of few, so that roots and sigs often meet.
func randomKeys(rng *rand.Rand, least int) []int {
	var l []int
	for key := 1; key <= 5; key++ {
		if rng.Intn(3) > 0 {
			l = append(l, key)
		}
	}
	if len(l) < least {
		return []int{1 + rng.Intn(5)}
	}
	return l
}

func randomRoot(rng *rand.Rand, version int) api.Root {
	keys := randomKeys(rng, 1)
	return root(version, 1+rng.Intn(min(2, len(keys))), keys...)
}

// randomScene is right in its form; what is signed, and which version, time, units and images there are, is as it comes.
func randomScene(rng *rand.Rand, t *testing.T) scene {
	images := []any{[]int{1}, []int{2, 2}, []int{3, 3}}
	s := scene{t: api.Trust{R: randomRoot(rng, 1), Version: rng.Intn(3)}, now: rng.Intn(4), units: 1 + rng.Intn(2)}
	for i := range rng.Intn(3) {
		version := 2 + i
		if rng.Intn(12) == 0 {
			version += rng.Intn(3) - 1
		}
		s.o.Roots = append(s.o.Roots, randomRoot(rng, version))
		s.o.RootSigs = append(s.o.RootSigs, randomKeys(rng, 0))
	}
	s.o.R = api.Release{Version: 1 + rng.Intn(4), Until: 1 + rng.Intn(4)}
	for i := range s.units {
		image := rng.Intn(3)
		words := images[image].([]int)
		s.o.R.Targets = append(s.o.R.Targets, api.Target{Unit: i, Image: 1 + image, Long: len(words)})
		if rng.Intn(8) == 0 {
			words = images[rng.Intn(3)].([]int)
		}
		s.o.Images = append(s.o.Images, words)
	}
	if rng.Intn(8) == 0 {
		s.units = 1 + rng.Intn(2)
	}
	s.o.Sigs = randomKeys(rng, 0)
	s.b = bookOf(t, append(images, s.o.R)...)
	for i, r := range s.o.Roots {
		text, _ := meta.RootText(r)
		if !slices.Contains(s.b.Texts, text) && (i == 0 || rng.Intn(9) > 0) {
			s.b.Texts = append(s.b.Texts, text)
		}
	}
	for _, x := range signedBy(counted(6, 1), counted(7, 1)) {
		if rng.Intn(6) > 0 {
			s.l = append(s.l, x)
		}
	}
	return s
}

// TestTakeByTheModel: random offers, each answer as a plain model of the chapter has it.
func TestTakeByTheModel(t *testing.T) {
	rng := rand.New(rand.NewSource(5))
	seen := map[api.Errno]int{}
	for range 20000 {
		s := randomScene(rng, t)
		want, e := modelTake(s)
		seen[e]++
		got, code := s.take()
		wantTrust(t, fmt.Sprintf("%+v", s), got, code, want, e)
		if t.Failed() {
			return
		}
	}
	for _, e := range []api.Errno{api.OK, api.ErrSign, api.ErrOld, api.ErrOver, api.ErrForm, api.ErrWho} {
		if seen[e] < 100 {
			t.Errorf("error %d was seen %d times alone", e, seen[e])
		}
	}
}

// TestVersionsRise: whatever is offered, one after the other, versions rise with each that is taken, and the root's never fall.
func TestVersionsRise(t *testing.T) {
	rng := rand.New(rand.NewSource(6))
	taken := 0
	for range 300 {
		trust := randomScene(rng, t).t
		for range 40 {
			s := randomScene(rng, t)
			s.t = trust
			got, e := s.take()
			if e != api.OK {
				continue
			}
			taken++
			if got.Version <= trust.Version || got.R.Version != trust.R.Version+len(s.o.Roots) {
				t.Fatalf("%v behind %v", got, trust)
			}
			trust = got
			again, e := Take(s.b, s.l, got, api.Offer{R: s.o.R, Sigs: s.o.Sigs, Images: s.o.Images}, s.now, s.units)
			wantTrust(t, "again", again, e, api.Trust{}, api.ErrOld)
		}
	}
	if taken < 300 {
		t.Errorf("%d offers were taken alone", taken)
	}
}

// roomy is a copy with spare room behind it.
func roomy[T any](l []T, behind T) []T {
	own := append(make([]T, 0, len(l)+4), l...)
	for i := len(own); i < cap(own); i++ {
		own[:cap(own)][i] = behind
	}
	return own
}

func roomyScene(t *testing.T) scene {
	s := goodScene(t)
	s.b.Texts = roomy(s.b.Texts, "spare")
	s.l = roomy(s.l, api.Signed{Key: spare})
	s.t.R.Keys = roomy(s.t.R.Keys, spare)
	s.o.Roots = roomy(s.o.Roots, api.Root{Version: spare})
	s.o.RootSigs = roomy(s.o.RootSigs, []int{spare})
	s.o.R.Targets = roomy(s.o.R.Targets, api.Target{Unit: spare})
	s.o.Sigs = roomy(s.o.Sigs, spare)
	s.o.Images = roomy(s.o.Images, []int{spare})
	for i := range s.o.Roots {
		s.o.Roots[i].Keys = roomy(s.o.Roots[i].Keys, spare)
		s.o.RootSigs[i] = roomy(s.o.RootSigs[i], spare)
		s.o.Images[i] = roomy(s.o.Images[i], spare)
	}
	return s
}

// told is all of a scene with its spare room.
func told(s scene) string {
	l := []any{s.b.Texts[:cap(s.b.Texts)], s.l[:cap(s.l)], s.t.R.Keys[:cap(s.t.R.Keys)], s.t, s.o.Roots[:cap(s.o.Roots)], s.o.RootSigs[:cap(s.o.RootSigs)], s.o.R.Targets[:cap(s.o.R.Targets)], s.o.Sigs[:cap(s.o.Sigs)], s.o.Images[:cap(s.o.Images)]}
	for i := range s.o.Roots {
		l = append(l, s.o.Roots[i].Keys[:cap(s.o.Roots[i].Keys)], s.o.RootSigs[i][:cap(s.o.RootSigs[i])], s.o.Images[i][:cap(s.o.Images[i])])
	}
	return fmt.Sprint(l...)
}

func spoil(t api.Trust) {
	keys := t.R.Keys[:cap(t.R.Keys)]
	for i := range keys {
		keys[i] = -9
	}
}

// TestWhatIsHandedInStays: spoilt answers don't reach it, nor each other.
func TestWhatIsHandedInStays(t *testing.T) {
	s := roomyScene(t)
	alone := roomyScene(t)
	alone.t.R, alone.o.Roots, alone.o.RootSigs = alone.o.Roots[1], nil, nil
	ahead, aheadAlone := told(s), told(alone)
	for range 2 {
		Count(s.l, s.t.R, s.o.Sigs, 3)
		turned, e := Turn(s.b, s.l, s.t, s.o.Roots[0], s.o.RootSigs[0])
		wantTrust(t, "turn", turned, e, api.Trust{R: root(2, 2, 3, 4), Version: 7}, api.OK)
		taken, e := s.take()
		wantTrust(t, "take", taken, e, api.Trust{R: root(3, 2, 5, 6, 7), Version: 8}, api.OK)
		same, e := alone.take()
		wantTrust(t, "take without roots", same, e, api.Trust{R: root(3, 2, 5, 6, 7), Version: 8}, api.OK)
		spoil(turned)
		wantTrust(t, "take behind a spoilt one", taken, e, api.Trust{R: root(3, 2, 5, 6, 7), Version: 8}, api.OK)
		spoil(taken)
		spoil(same)
	}
	if behind := told(s); behind != ahead {
		t.Errorf("what was handed in is %s, was %s", behind, ahead)
	}
	if behind := told(alone); behind != aheadAlone {
		t.Errorf("what was handed in is %s, was %s", behind, aheadAlone)
	}
}
