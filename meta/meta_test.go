package meta

import (
	"fmt"
	"math"
	"math/big"
	"reflect"
	"regexp"
	"slices"
	"strings"
	"testing"

	"wainwright/api"
)

const spare = 777 // what lies in the spare room behind a list that is handed in

func wantErrno(t *testing.T, what string, got, want api.Errno) {
	t.Helper()
	if got != want {
		t.Errorf("%s: error %d, want %d", what, got, want)
	}
}

// wantText: with an error there is no text.
func wantText(t *testing.T, what, got string, e api.Errno, text string, want api.Errno) {
	t.Helper()
	wantErrno(t, what, e, want)
	if got != text {
		t.Errorf("%s: %q, want %q", what, got, text)
	}
}

func wantName(t *testing.T, what string, got int, e api.Errno, name int, want api.Errno) {
	t.Helper()
	wantErrno(t, what, e, want)
	if got != name {
		t.Errorf("%s: name %d, want %d", what, got, name)
	}
}

func counted(n, first int) []int {
	l := make([]int, n)
	for i := range l {
		l[i] = first + i
	}
	return l
}

// targeted is n targets that are as they must be.
func targeted(n int) []api.Target {
	l := make([]api.Target, n)
	for i := range l {
		l[i] = api.Target{Unit: i, Image: 10 + i, Long: 20 + i}
	}
	return l
}

// changed is the targets with another one in that place.
func changed(l []api.Target, place int, to api.Target) []api.Target {
	own := slices.Clone(l)
	own[place] = to
	return own
}

func texts(n int) []string {
	l := make([]string, n)
	for i := range l {
		l[i] = fmt.Sprint("text ", i)
	}
	return l
}

func TestCheckRootAndItsText(t *testing.T) {
	cases := []struct {
		what string
		r    api.Root
		text string
		e    api.Errno
	}{
		{"two keys", api.Root{Version: 1, Keys: []int{2, 5}, Threshold: 2}, "root 1 2 of 2 5", api.OK},
		{"one key, the least", api.Root{Version: 1, Keys: []int{1}, Threshold: 1}, "root 1 1 of 1", api.OK},
		{"one key, the most", api.Root{Version: 1000, Keys: []int{50}, Threshold: 1}, "root 1000 1 of 50", api.OK},
		{"six keys", api.Root{Version: 12, Keys: []int{1, 2, 3, 10, 49, 50}, Threshold: 6}, "root 12 6 of 1 2 3 10 49 50", api.OK},
		{"six keys, one is enough", api.Root{Version: 12, Keys: counted(6, 45), Threshold: 1}, "root 12 1 of 45 46 47 48 49 50", api.OK},
		{"nothing", api.Root{}, "", api.ErrRange},
		{"version 0", api.Root{Version: 0, Keys: []int{1}, Threshold: 1}, "", api.ErrRange},
		{"version -1", api.Root{Version: -1, Keys: []int{1}, Threshold: 1}, "", api.ErrRange},
		{"version 1001", api.Root{Version: 1001, Keys: []int{1}, Threshold: 1}, "", api.ErrRange},
		{"version lowest", api.Root{Version: math.MinInt, Keys: []int{1}, Threshold: 1}, "", api.ErrRange},
		{"version highest", api.Root{Version: math.MaxInt, Keys: []int{1}, Threshold: 1}, "", api.ErrRange},
		{"version, ahead of many", api.Root{Version: 0, Keys: counted(7, 1), Threshold: 0}, "", api.ErrRange},
		{"no key", api.Root{Version: 1, Threshold: 0}, "", api.ErrMany},
		{"empty keys", api.Root{Version: 1, Keys: []int{}, Threshold: 1}, "", api.ErrMany},
		{"seven keys", api.Root{Version: 1, Keys: counted(7, 1), Threshold: 1}, "", api.ErrMany},
		{"seven that are no keys", api.Root{Version: 1, Keys: make([]int, 7), Threshold: 1}, "", api.ErrMany},
		{"key 0", api.Root{Version: 1, Keys: []int{0}, Threshold: 1}, "", api.ErrRange},
		{"key -1", api.Root{Version: 1, Keys: []int{-1, 2}, Threshold: 1}, "", api.ErrRange},
		{"key 51", api.Root{Version: 1, Keys: []int{1, 51}, Threshold: 1}, "", api.ErrRange},
		{"key lowest", api.Root{Version: 1, Keys: []int{math.MinInt}, Threshold: 1}, "", api.ErrRange},
		{"key highest", api.Root{Version: 1, Keys: []int{math.MaxInt}, Threshold: 1}, "", api.ErrRange},
		{"a key twice", api.Root{Version: 1, Keys: []int{3, 3}, Threshold: 1}, "", api.ErrTwice},
		{"keys that fall", api.Root{Version: 1, Keys: []int{5, 2}, Threshold: 1}, "", api.ErrTwice},
		{"the last one falls", api.Root{Version: 1, Keys: []int{1, 2, 3, 4, 5, 4}, Threshold: 1}, "", api.ErrTwice},
		{"twice not side by side", api.Root{Version: 1, Keys: []int{4, 9, 4}, Threshold: 1}, "", api.ErrTwice},
		{"twice, ahead of key 51", api.Root{Version: 1, Keys: []int{3, 3, 51}, Threshold: 1}, "", api.ErrTwice},
		{"key 51, ahead of twice", api.Root{Version: 1, Keys: []int{3, 51, 3}, Threshold: 1}, "", api.ErrRange},
		{"key 0 behind a greater one", api.Root{Version: 1, Keys: []int{3, 0}, Threshold: 1}, "", api.ErrRange},
		{"threshold 0", api.Root{Version: 1, Keys: []int{2}, Threshold: 0}, "", api.ErrForm},
		{"threshold -1", api.Root{Version: 1, Keys: []int{2}, Threshold: -1}, "", api.ErrForm},
		{"threshold 2 of one", api.Root{Version: 1, Keys: []int{2}, Threshold: 2}, "", api.ErrForm},
		{"threshold 7 of six", api.Root{Version: 1, Keys: counted(6, 1), Threshold: 7}, "", api.ErrForm},
		{"threshold lowest", api.Root{Version: 1, Keys: []int{2}, Threshold: math.MinInt}, "", api.ErrForm},
		{"threshold highest", api.Root{Version: 1, Keys: []int{2}, Threshold: math.MaxInt}, "", api.ErrForm},
		{"threshold 0, behind a key twice", api.Root{Version: 1, Keys: []int{2, 2}, Threshold: 0}, "", api.ErrTwice},
		{"threshold 0, behind key 51", api.Root{Version: 1, Keys: []int{51}, Threshold: 0}, "", api.ErrRange},
	}
	for _, c := range cases {
		wantErrno(t, c.what, CheckRoot(c.r), c.e)
		s, e := RootText(c.r)
		wantText(t, c.what, s, e, c.text, c.e)
	}
}

func TestCheckReleaseAndItsText(t *testing.T) {
	four := targeted(4)
	cases := []struct {
		what string
		r    api.Release
		text string
		e    api.Errno
	}{
		{"two targets", api.Release{Version: 3, Until: 9, Targets: []api.Target{{Unit: 0, Image: 4, Long: 2}, {Unit: 1, Image: 5, Long: 1}}}, "release 3 until 9; 0 4 2; 1 5 1", api.OK},
		{"all the least", api.Release{Version: 1, Until: 0, Targets: []api.Target{{Unit: 0, Image: 1, Long: 1}}}, "release 1 until 0; 0 1 1", api.OK},
		{"all the most", api.Release{Version: 1000, Until: 100000, Targets: []api.Target{{Unit: 0, Image: 60, Long: 40}}}, "release 1000 until 100000; 0 60 40", api.OK},
		{"four targets", api.Release{Version: 7, Until: 8, Targets: four}, "release 7 until 8; 0 10 20; 1 11 21; 2 12 22; 3 13 23", api.OK},
		{"one image for all", api.Release{Version: 7, Until: 8, Targets: []api.Target{{Unit: 0, Image: 6, Long: 5}, {Unit: 1, Image: 6, Long: 5}}}, "release 7 until 8; 0 6 5; 1 6 5", api.OK},
		{"nothing", api.Release{}, "", api.ErrRange},
		{"version 0", api.Release{Version: 0, Until: 8, Targets: four}, "", api.ErrRange},
		{"version -1", api.Release{Version: -1, Until: 8, Targets: four}, "", api.ErrRange},
		{"version 1001", api.Release{Version: 1001, Until: 8, Targets: four}, "", api.ErrRange},
		{"version lowest", api.Release{Version: math.MinInt, Until: 8, Targets: four}, "", api.ErrRange},
		{"version highest", api.Release{Version: math.MaxInt, Until: 8, Targets: four}, "", api.ErrRange},
		{"until -1", api.Release{Version: 7, Until: -1, Targets: four}, "", api.ErrRange},
		{"until 100001", api.Release{Version: 7, Until: 100001, Targets: four}, "", api.ErrRange},
		{"until lowest", api.Release{Version: 7, Until: math.MinInt, Targets: four}, "", api.ErrRange},
		{"until highest", api.Release{Version: 7, Until: math.MaxInt, Targets: four}, "", api.ErrRange},
		{"version, ahead of many", api.Release{Version: 0, Until: 8, Targets: targeted(5)}, "", api.ErrRange},
		{"until, ahead of none", api.Release{Version: 7, Until: -1}, "", api.ErrRange},
		{"no target", api.Release{Version: 7, Until: 8}, "", api.ErrMany},
		{"empty targets", api.Release{Version: 7, Until: 8, Targets: []api.Target{}}, "", api.ErrMany},
		{"five targets", api.Release{Version: 7, Until: 8, Targets: targeted(5)}, "", api.ErrMany},
		{"five that are wrong", api.Release{Version: 7, Until: 8, Targets: make([]api.Target, 5)}, "", api.ErrMany},
		{"first unit 1", api.Release{Version: 7, Until: 8, Targets: []api.Target{{Unit: 1, Image: 4, Long: 2}}}, "", api.ErrRange},
	}
	for _, c := range cases {
		wantErrno(t, c.what, CheckRelease(c.r), c.e)
		s, e := ReleaseText(c.r)
		wantText(t, c.what, s, e, c.text, c.e)
	}
}

// TestWrongTargets puts each wrong target in each place among right ones.
func TestWrongTargets(t *testing.T) {
	for many := 1; many <= api.MaxUnits; many++ {
		for place := range many {
			for _, wrong := range []api.Target{
				{Unit: place - 1, Image: 1, Long: 1},
				{Unit: place + 1, Image: 1, Long: 1},
				{Unit: math.MinInt, Image: 1, Long: 1},
				{Unit: math.MaxInt, Image: 1, Long: 1},
				{Unit: place, Image: 0, Long: 1},
				{Unit: place, Image: -1, Long: 1},
				{Unit: place, Image: 61, Long: 1},
				{Unit: place, Image: math.MinInt, Long: 1},
				{Unit: place, Image: math.MaxInt, Long: 1},
				{Unit: place, Image: 1, Long: 0},
				{Unit: place, Image: 1, Long: -1},
				{Unit: place, Image: 1, Long: 41},
				{Unit: place, Image: 1, Long: math.MinInt},
				{Unit: place, Image: 1, Long: math.MaxInt},
			} {
				what := fmt.Sprint(wrong, " in place ", place, " of ", many)
				r := api.Release{Version: 1, Until: 1, Targets: changed(targeted(many), place, wrong)}
				wantErrno(t, what, CheckRelease(r), api.ErrRange)
				s, e := ReleaseText(r)
				wantText(t, what, s, e, "", api.ErrRange)
			}
			for _, right := range []api.Target{{Unit: place, Image: 1, Long: 40}, {Unit: place, Image: 60, Long: 1}} {
				r := api.Release{Version: 1, Until: 1, Targets: changed(targeted(many), place, right)}
				wantErrno(t, fmt.Sprint(right), CheckRelease(r), api.OK)
			}
		}
	}
}

func TestCheckImageAndItsText(t *testing.T) {
	forty := counted(40, 1)
	longest := slices.Repeat([]int{api.MaxWord}, 40)
	cases := []struct {
		what string
		w    []int
		text string
		e    api.Errno
	}{
		{"two words", []int{7, 0}, "image 7 0", api.OK},
		{"one word", []int{0}, "image 0", api.OK},
		{"one erased word", []int{65535}, "image 65535", api.OK},
		{"forty words", forty, "image" + fmt.Sprintf(strings.Repeat(" %d", 40), anyOf(forty)...), api.OK},
		{"the longest text", longest, "image" + strings.Repeat(" 65535", 40), api.OK},
		{"none", nil, "", api.ErrMany},
		{"empty", []int{}, "", api.ErrMany},
		{"forty-one words", counted(41, 1), "", api.ErrMany},
		{"endless", make([]int, 100000), "", api.ErrMany},
		{"too many, and no words", slices.Repeat([]int{-1}, 41), "", api.ErrMany},
		{"first is no word", []int{-1, 1}, "", api.ErrRange},
		{"last is no word", []int{1, 65536}, "", api.ErrRange},
		{"the fortieth is no word", append(counted(39, 1), -1), "", api.ErrRange},
		{"lowest", []int{math.MinInt}, "", api.ErrRange},
		{"highest", []int{math.MaxInt}, "", api.ErrRange},
	}
	for _, c := range cases {
		wantErrno(t, c.what, CheckImage(c.w), c.e)
		s, e := ImageText(c.w)
		wantText(t, c.what, s, e, c.text, c.e)
	}
}

func anyOf(l []int) []any {
	var own []any
	for _, n := range l {
		own = append(own, n)
	}
	return own
}

func wantParsed(t *testing.T, s string, want api.Release, we api.Errno) {
	t.Helper()
	r, e := ParseRelease(s)
	wantErrno(t, fmt.Sprintf("%q", s), e, we)
	if r.Version != want.Version || r.Until != want.Until || !slices.Equal(r.Targets, want.Targets) {
		t.Errorf("%q: %v, want %v", s, r, want)
	}
	if we != api.OK && r.Targets != nil {
		t.Errorf("%q: a list behind an error", s)
	}
}

func TestParseRelease(t *testing.T) {
	for s, want := range map[string]api.Release{
		"release 3 until 9; 0 4 2; 1 5 1":                       {Version: 3, Until: 9, Targets: []api.Target{{Unit: 0, Image: 4, Long: 2}, {Unit: 1, Image: 5, Long: 1}}},
		"release 1 until 0; 0 1 1":                              {Version: 1, Until: 0, Targets: []api.Target{{Unit: 0, Image: 1, Long: 1}}},
		"release 1000 until 100000; 0 60 40":                    {Version: 1000, Until: 100000, Targets: []api.Target{{Unit: 0, Image: 60, Long: 40}}},
		"release 7 until 8; 0 10 20; 1 11 21; 2 12 22; 3 13 23": {Version: 7, Until: 8, Targets: targeted(4)},
	} {
		wantParsed(t, s, want, api.OK)
	}
}

func TestParseReleaseWrongInputs(t *testing.T) {
	for s, want := range map[string]api.Errno{
		"":                                                          api.ErrText,
		" ":                                                         api.ErrText,
		"; ":                                                        api.ErrText,
		"release":                                                   api.ErrText,
		"release ":                                                  api.ErrText,
		"release 3":                                                 api.ErrText,
		"release 3 until":                                           api.ErrText,
		"release 3 until ":                                          api.ErrText,
		"release  until 9; 0 4 2":                                   api.ErrText,
		"release until 9; 0 4 2":                                    api.ErrText,
		" until 9; 0 4 2":                                           api.ErrText,
		"3 until 9; 0 4 2":                                          api.ErrText,
		"0 4 2":                                                     api.ErrText,
		"root 1 2 of 2 5":                                           api.ErrText,
		"image 7 0":                                                 api.ErrText,
		"Release 3 until 9; 0 4 2":                                  api.ErrText,
		"release 3 Until 9; 0 4 2":                                  api.ErrText,
		"release 3 until 9 until 9; 0 4 2":                          api.ErrText,
		"release release 3 until 9; 0 4 2":                          api.ErrText,
		" release 3 until 9; 0 4 2":                                 api.ErrText,
		"release  3 until 9; 0 4 2":                                 api.ErrText,
		"release 3  until 9; 0 4 2":                                 api.ErrText,
		"release 3 until  9; 0 4 2":                                 api.ErrText,
		"release 3 until 9 ; 0 4 2":                                 api.ErrText,
		"release 3 until 9;  0 4 2":                                 api.ErrText,
		"release 3 until 9; 0  4 2":                                 api.ErrText,
		"release 3 until 9; 0 4  2":                                 api.ErrText,
		"release 3 until 9; 0 4 2 ":                                 api.ErrText,
		"release3 until 9; 0 4 2":                                   api.ErrText,
		"release 3until 9; 0 4 2":                                   api.ErrText,
		"release 3 until9; 0 4 2":                                   api.ErrText,
		"release 3 until 9;0 4 2":                                   api.ErrText,
		"release 3 until 9 0 4 2":                                   api.ErrText,
		"release 3 until 9, 0 4 2":                                  api.ErrText,
		"release 3\tuntil 9; 0 4 2":                                 api.ErrText,
		"release 3 until 9; 0\t4 2":                                 api.ErrText,
		"release 3 until 9; 0 4 2\n":                                api.ErrText,
		"release 3 until 9; 0 4 2\x00":                              api.ErrText,
		"release 3 until 9;\u00a00 4 2":                             api.ErrText,
		"release 3 until 9; 0 4":                                    api.ErrText,
		"release 3 until 9; 0":                                      api.ErrText,
		"release 3 until 9; ":                                       api.ErrText,
		"release 3 until 9;":                                        api.ErrText,
		"release 3 until 9; 0 4 2;":                                 api.ErrText,
		"release 3 until 9; 0 4 2; ":                                api.ErrText,
		"release 3 until 9; ; 0 4 2":                                api.ErrText,
		"release 3 until 9; 0 4 2 1":                                api.ErrText,
		"release 3 until 9; 0 4 2x":                                 api.ErrText,
		"release 3 until 9; 0 4 2; 1 5":                             api.ErrText,
		"release 3 until 9; 0 4 2; x":                               api.ErrText,
		"release 03 until 9; 0 4 2":                                 api.ErrText,
		"release 3 until 09; 0 4 2":                                 api.ErrText,
		"release 3 until 00; 0 4 2":                                 api.ErrText,
		"release 3 until 9; 00 4 2":                                 api.ErrText,
		"release 3 until 9; 0 04 2":                                 api.ErrText,
		"release 3 until 9; 0 4 02":                                 api.ErrText,
		"release +3 until 9; 0 4 2":                                 api.ErrText,
		"release 3 until +9; 0 4 2":                                 api.ErrText,
		"release 3 until 9; +0 4 2":                                 api.ErrText,
		"release 3 until 9; -0 4 2":                                 api.ErrText,
		"release 3 until -0; 0 4 2":                                 api.ErrText,
		"release 3 until 9; 0 +4 2":                                 api.ErrText,
		"release 3 until 9; 0 4 +2":                                 api.ErrText,
		"release - until 9; 0 4 2":                                  api.ErrText,
		"release --3 until 9; 0 4 2":                                api.ErrText,
		"release -03 until 9; 0 4 2":                                api.ErrText,
		"release 1_0 until 9; 0 4 2":                                api.ErrText,
		"release 0x3 until 9; 0 4 2":                                api.ErrText,
		"release 3.0 until 9; 0 4 2":                                api.ErrText,
		"release 3e0 until 9; 0 4 2":                                api.ErrText,
		"release \u0663 until 9; 0 4 2":                             api.ErrText,
		"release three until 9; 0 4 2":                              api.ErrText,
		"release 3 until 9; 0 4 2\xff":                              api.ErrText,
		"release -3 until 9; 0 4 2":                                 api.ErrRange,
		"release 0 until 9; 0 4 2":                                  api.ErrRange,
		"release 1001 until 9; 0 4 2":                               api.ErrRange,
		"release 3 until -9; 0 4 2":                                 api.ErrRange,
		"release 3 until 100001; 0 4 2":                             api.ErrRange,
		"release 3 until 9; 1 4 2":                                  api.ErrRange,
		"release 3 until 9; -1 4 2":                                 api.ErrRange,
		"release 3 until 9; 0 0 2":                                  api.ErrRange,
		"release 3 until 9; 0 61 2":                                 api.ErrRange,
		"release 3 until 9; 0 4 0":                                  api.ErrRange,
		"release 3 until 9; 0 4 41":                                 api.ErrRange,
		"release 3 until 9; 0 4 2; 0 4 2":                           api.ErrRange,
		"release 0 until 9":                                         api.ErrRange,
		"release 3 until 9":                                         api.ErrMany,
		"release 3 until 9; 9 9 9; 9 9 9; 9 9 9; 9 9 9; 9 9 9":      api.ErrMany,
		"release 0 until 9; 0 1 1; 1 1 1; 2 1 1; 3 1 1; 4 1 1":      api.ErrRange,
		"release 0 until 9; 0 1 1; 1 1 1; 2 1 1; 3 1 1; 4 1 1; x":   api.ErrText,
		"release 9223372036854775807 until 9; 0 4 2":                api.ErrRange,
		"release -9223372036854775808 until 9; 0 4 2":               api.ErrRange,
		"release 9223372036854775808 until 9; 0 4 2":                api.ErrText,
		"release -9223372036854775809 until 9; 0 4 2":               api.ErrText,
		"release 18446744073709551619 until 9; 0 4 2":               api.ErrText, // 3, wrapped round
		"release 3 until 9; 0 4 18446744073709551618":               api.ErrText,
		"release 3 until " + strings.Repeat("9", 300) + "; 0 4 2":   api.ErrText,
		"release " + strings.Repeat("0", 300) + "3 until 9; 0 4 2":  api.ErrText,
		"release 3 until 9; 0 4 2; 1 5 1; 2 5 1; 3 5 1; 4 5 1":      api.ErrMany,
		"release 3 until 9; 0 4 2; 1 5 1; 2 5 1; 3 5 1; 4 5 1; 5 5": api.ErrText,
	} {
		wantParsed(t, s, api.Release{}, want)
	}
}

// TestParseReleaseLength: up to api.MaxText bytes the words count, behind that the length alone.
func TestParseReleaseLength(t *testing.T) {
	head := "release 0 until "
	many := head + "1" + strings.Repeat("; 0 1 1", 283)
	if len(many) != 1998 {
		t.Fatal("the texts below don't fit any more", len(many))
	}
	wantParsed(t, strings.Replace(many, "until 1", "until 100", 1), api.Release{}, api.ErrRange)
	wantParsed(t, strings.Replace(many, "until 1", "until 1000", 1), api.Release{}, api.ErrMany)
	wantParsed(t, strings.Repeat("x", api.MaxText), api.Release{}, api.ErrText)
	wantParsed(t, strings.Repeat("x", api.MaxText+1), api.Release{}, api.ErrMany)
	wantParsed(t, strings.Repeat("ä", api.MaxText/2), api.Release{}, api.ErrText)
	wantParsed(t, strings.Repeat("ä", api.MaxText/2+1), api.Release{}, api.ErrMany)
	wantParsed(t, strings.Repeat("; ", api.MaxText/2), api.Release{}, api.ErrText)
	wantParsed(t, strings.Repeat("; ", 1000000), api.Release{}, api.ErrMany)
}

var (
	wholeForm  = regexp.MustCompile(`\Arelease (0|-?[1-9][0-9]*) until (0|-?[1-9][0-9]*)((?:; (?:0|-?[1-9][0-9]*) (?:0|-?[1-9][0-9]*) (?:0|-?[1-9][0-9]*))*)\z`)
	numberForm = regexp.MustCompile(`-?[0-9]+`)
)

// readBy reads a text by a pattern and by numbers without end, to hold ParseRelease against.
func readBy(s string) (api.Release, api.Errno) {
	if len(s) > 2000 {
		return api.Release{}, api.ErrMany
	}
	if !wholeForm.MatchString(s) {
		return api.Release{}, api.ErrText
	}
	var numbers []int
	for _, digits := range numberForm.FindAllString(s, -1) {
		n, _ := new(big.Int).SetString(digits, 10)
		if !n.IsInt64() {
			return api.Release{}, api.ErrText
		}
		numbers = append(numbers, int(n.Int64()))
	}
	r := api.Release{Version: numbers[0], Until: numbers[1]}
	for l := numbers[2:]; len(l) > 0; l = l[3:] {
		r.Targets = append(r.Targets, api.Target{Unit: l[0], Image: l[1], Long: l[2]})
	}
	if e := CheckRelease(r); e != api.OK {
		return api.Release{}, e
	}
	return r, api.OK
}

// TestTextsThatAreNearlyARelease leaves out, doubles, swaps, puts in and puts in place of each byte.
func TestTextsThatAreNearlyARelease(t *testing.T) {
	const bytes = "0123456789 ;+-_.,xeuRr\t\n\x00\xff"
	for _, s := range []string{
		"release 3 until 9; 0 4 2; 1 5 1",
		"release 1000 until 100000; 0 60 40; 1 59 39; 2 10 10; 3 1 1",
		"release 10 until 0; 0 1 1",
	} {
		for i := range len(s) + 1 {
			for j := i; j <= len(s); j++ {
				near := s[:i] + s[j:]
				want, e := readBy(near)
				wantParsed(t, near, want, e)
				near = s[:j] + s[i:]
				want, e = readBy(near)
				wantParsed(t, near, want, e)
			}
			for _, c := range []byte(bytes) {
				near := s[:i] + string([]byte{c}) + s[i:]
				want, e := readBy(near)
				wantParsed(t, near, want, e)
				if i < len(s) {
					near = s[:i] + string([]byte{c}) + s[i+1:]
					want, e = readBy(near)
					wantParsed(t, near, want, e)
				}
			}
		}
	}
}

// someReleases are sound ones that differ in one number, or in several, or in how many targets there are.
func someReleases() []api.Release {
	var l []api.Release
	for many := 1; many <= api.MaxUnits; many++ {
		for _, version := range []int{1, 2, 11, 111, 1000} {
			for _, until := range []int{0, 1, 11, 100000} {
				for place := range many {
					for _, image := range []int{1, 2, 11, 60} {
						for _, long := range []int{1, 2, 11, 40} {
							targets := changed(targeted(many), place, api.Target{Unit: place, Image: image, Long: long})
							l = append(l, api.Release{Version: version, Until: until, Targets: targets})
						}
					}
				}
			}
		}
	}
	return l
}

// TestUnlikeReleases: they have unlike texts, and each text is read back as its release.
func TestUnlikeReleases(t *testing.T) {
	seen := map[string]bool{}
	for _, r := range someReleases() {
		s, e := ReleaseText(r)
		wantErrno(t, "text", e, api.OK)
		if len(s) > api.MaxText || seen[s] {
			t.Errorf("%q is too long, or the text of two", s)
		}
		seen[s] = true
		wantParsed(t, s, r, api.OK)
	}
}

// TestUnlikeNames: within one book, too.
func TestUnlikeNames(t *testing.T) {
	releases := someReleases()[:api.MaxBook]
	var b api.Book
	for _, r := range releases {
		s, _ := ReleaseText(r)
		b.Texts = append(b.Texts, s)
	}
	for i, r := range releases {
		s, _ := ReleaseText(r)
		name, e := Name(b, s)
		wantName(t, s, name, e, i+1, api.OK)
	}
}

// TestUnlikeKindsOfTexts: no root, release and image have one text, so no name is of two kinds.
func TestUnlikeKindsOfTexts(t *testing.T) {
	root, _ := RootText(api.Root{Version: 1, Keys: []int{1}, Threshold: 1})
	image, _ := ImageText([]int{1, 1, 1})
	for _, s := range []string{root, image} {
		wantParsed(t, s, api.Release{}, api.ErrText)
	}
	if root == image {
		t.Error("a root and an image have one text")
	}
}

func TestCheckBook(t *testing.T) {
	full := strings.Repeat("x", api.MaxText)
	cases := []struct {
		what  string
		texts []string
		e     api.Errno
	}{
		{"none", nil, api.OK},
		{"empty", []string{}, api.OK},
		{"an empty text", []string{""}, api.OK},
		{"some", []string{"x", "", "X", "x ", "\xff"}, api.OK},
		{"sixty", texts(60), api.OK},
		{"a full text", []string{"a", full}, api.OK},
		{"full texts that differ at the end", []string{full, full[1:] + "y"}, api.OK},
		{"a full text by its bytes", []string{strings.Repeat("ä", api.MaxText/2)}, api.OK},
		{"sixty-one", texts(61), api.ErrMany},
		{"sixty-one the same", make([]string, 61), api.ErrMany},
		{"endless", make([]string, 1000000), api.ErrMany},
		{"a text too long", []string{full + "x"}, api.ErrMany},
		{"the last too long", append(texts(59), full+"x"), api.ErrMany},
		{"too long by its bytes", []string{strings.Repeat("ä", api.MaxText/2) + "x"}, api.ErrMany},
		{"two the same", []string{"x", "x"}, api.ErrTwice},
		{"two empty ones", []string{"", "x", ""}, api.ErrTwice},
		{"the first and the sixtieth the same", append(texts(59), "text 0"), api.ErrTwice},
		{"the same, ahead of too long", []string{"x", "x", full + "x"}, api.ErrTwice},
		{"too long, ahead of the same", []string{"x", full + "x", "x"}, api.ErrMany},
		{"too long twice", []string{full + "x", full + "x"}, api.ErrMany},
		{"full twice", []string{full, full}, api.ErrTwice},
		{"too many, and the same", append(texts(60), "text 0"), api.ErrMany},
	}
	for _, c := range cases {
		b := api.Book{Texts: c.texts}
		wantErrno(t, c.what, CheckBook(b), c.e)
		if c.e != api.OK {
			name, e := Name(b, "x")
			wantName(t, c.what, name, e, 0, c.e)
			name, e = ImageName(b, []int{7})
			wantName(t, c.what, name, e, 0, c.e)
		}
		for i, s := range c.texts {
			if c.e == api.OK {
				name, e := Name(b, s)
				wantName(t, c.what, name, e, i+1, api.OK)
			}
		}
	}
}

func TestNameOfWhatIsNotThere(t *testing.T) {
	long := strings.Repeat("x", api.MaxText+1)
	for _, b := range []api.Book{{}, {Texts: []string{}}, {Texts: []string{"x", "yy", long[1:]}}, {Texts: texts(60)}} {
		for _, s := range []string{"", "y", "X", "x ", " x", long, "text 60", "text"} {
			name, e := Name(b, s)
			wantName(t, s, name, e, 0, api.OK)
		}
	}
}

func TestImageName(t *testing.T) {
	forty := counted(40, 1)
	long, _ := ImageText(forty)
	b := api.Book{Texts: []string{"x", "image 7 0", "image 7", "image 70", long, "image 7 65536", "image", "image "}}
	twice := api.Book{Texts: []string{"image 7", "image 7"}}
	many := api.Book{Texts: make([]string, 61)}
	cases := []struct {
		what string
		b    api.Book
		w    []int
		name int
		e    api.Errno
	}{
		{"two words", b, []int{7, 0}, 2, api.OK},
		{"one word", b, []int{7}, 3, api.OK},
		{"another word", b, []int{70}, 4, api.OK},
		{"forty words", b, forty, 5, api.OK},
		{"not there", b, []int{0, 7}, 0, api.OK},
		{"a beginning", b, forty[:39], 0, api.OK},
		{"an empty book", api.Book{}, []int{7}, 0, api.OK},
		{"no words", b, nil, 0, api.ErrMany},
		{"too many words", b, counted(41, 1), 0, api.ErrMany},
		{"no word", b, []int{7, 65536}, 0, api.ErrRange},
		{"the book has one twice", twice, []int{7}, 0, api.ErrTwice},
		{"the book has too many", many, []int{7}, 0, api.ErrMany},
		{"no words, ahead of the book", twice, nil, 0, api.ErrMany},
		{"no word, ahead of the book", twice, []int{-1}, 0, api.ErrRange},
		{"no word, ahead of too many", many, []int{-1}, 0, api.ErrRange},
	}
	for _, c := range cases {
		name, e := ImageName(c.b, c.w)
		wantName(t, c.what, name, e, c.name, c.e)
	}
}

// roomy is a copy with spare room behind it.
func roomy[T any](l []T, behind T) []T {
	own := append(make([]T, 0, len(l)+4), l...)
	for i := len(own); i < cap(own); i++ {
		own[:cap(own)][i] = behind
	}
	return own
}

// TestWhatIsHandedInStays looks at the lists and at the spare room behind them.
func TestWhatIsHandedInStays(t *testing.T) {
	keys := roomy([]int{2, 5}, spare)
	targets := roomy(targeted(3), api.Target{Unit: spare})
	words := roomy([]int{9, 8, 7}, spare)
	book := roomy([]string{"z", "image 9 8 7", "a"}, "spare")
	whole := func() []any {
		return []any{keys[:cap(keys)], targets[:cap(targets)], words[:cap(words)], book[:cap(book)]}
	}
	ahead := fmt.Sprint(whole()...)
	for range 2 {
		RootText(api.Root{Version: 1, Keys: keys, Threshold: 1})
		RootText(api.Root{Version: 1, Keys: keys, Threshold: 9})
		ReleaseText(api.Release{Version: 1, Targets: targets})
		ReleaseText(api.Release{Version: 1, Targets: targets[1:]})
		ImageText(words)
		name, _ := ImageName(api.Book{Texts: book}, words)
		if name != 2 {
			t.Error("name", name)
		}
		Name(api.Book{Texts: book[:2]}, "a")
	}
	if behind := fmt.Sprint(whole()...); behind != ahead {
		t.Errorf("what was handed in is %s, was %s", behind, ahead)
	}
}

// TestParsedIsNewMemory spoils one answer and asks again.
func TestParsedIsNewMemory(t *testing.T) {
	const s = "release 3 until 9; 0 4 2; 1 5 1"
	first, _ := ParseRelease(s)
	second, _ := ParseRelease(s)
	clear(first.Targets[:cap(first.Targets)])
	third, _ := ParseRelease(s)
	if !reflect.DeepEqual(second, third) || second.Targets[1].Image != 5 {
		t.Errorf("%v and %v behind a spoilt answer", second, third)
	}
}

func FuzzParseRelease(f *testing.F) {
	for _, s := range []string{"release 3 until 9; 0 4 2; 1 5 1", "release 3 until 9", "release -3 until 9; 0 4 2", ""} {
		f.Add(s)
	}
	f.Fuzz(func(t *testing.T, s string) {
		want, e := readBy(s)
		wantParsed(t, s, want, e)
		if e != api.OK {
			return
		}
		back, e := ReleaseText(want)
		wantText(t, "back", back, e, s, api.OK)
	})
}
