package flash

import (
	"math"
	"slices"
	"testing"

	"wainwright/api"
)

const spare = 777 // what lies in the spare room behind a list that is handed in

// roomy is the same words with spare room behind them.
func roomy(words []int) []int {
	l := append(make([]int, 0, len(words)+8), words...)
	room := l[:cap(l)]
	for i := len(l); i < len(room); i++ {
		room[i] = spare
	}
	return l
}

// patterned is a flash of unlike words with spare room behind them.
func patterned(sectors, fuel int) api.Flash {
	words := make([]int, sectors*api.Sector)
	for i := range words {
		words[i] = (i*2503 + 911) % (api.MaxWord + 1)
	}
	return api.Flash{Words: roomy(words), Fuel: fuel}
}

// filled is a list of n times the number x.
func filled(n, x int) []int {
	l := make([]int, n)
	for i := range l {
		l[i] = x
	}
	return l
}

// with is the words with x in place i.
func with(words []int, i, x int) []int {
	l := slices.Clone(words)
	l[i] = x
	return l
}

func wantErrno(t *testing.T, what string, got, want api.Errno) {
	t.Helper()
	if got != want {
		t.Errorf("%s: error %d, want %d", what, got, want)
	}
}

func wantFlash(t *testing.T, what string, got, want api.Flash) {
	t.Helper()
	if got.Fuel != want.Fuel || !slices.Equal(got.Words, want.Words) {
		t.Errorf("%s: %v, want %v", what, got, want)
	}
}

// wantZero: with an error all else is zero.
func wantZero(t *testing.T, what string, got api.Flash, e, want api.Errno) {
	t.Helper()
	wantErrno(t, what, e, want)
	if got.Words != nil || got.Fuel != 0 {
		t.Errorf("%s: %v behind an error, want nothing", what, got)
	}
}

// unsound are flashes that Check refuses, and why.
func unsound() []struct {
	what string
	f    api.Flash
	e    api.Errno
} {
	sound := filled(2*api.Sector, 5)
	return []struct {
		what string
		f    api.Flash
		e    api.Errno
	}{
		{"nil", api.Flash{Fuel: -1}, api.ErrForm},
		{"empty", api.Flash{Words: []int{}, Fuel: -1}, api.ErrForm},
		{"a word short", api.Flash{Words: filled(api.Sector-1, 5), Fuel: -1}, api.ErrForm},
		{"a word long", api.Flash{Words: filled(api.Sector+1, 5), Fuel: -1}, api.ErrForm},
		{"a sector too many", api.Flash{Words: filled((api.MaxSectors+1)*api.Sector, 5), Fuel: -1}, api.ErrForm},
		{"form ahead of fuel", api.Flash{Words: filled(1, 5), Fuel: -2}, api.ErrForm},
		{"form ahead of words", api.Flash{Words: filled(1, -1), Fuel: 0}, api.ErrForm},
		{"fuel -2", api.Flash{Words: sound, Fuel: -2}, api.ErrRange},
		{"fuel lowest", api.Flash{Words: sound, Fuel: math.MinInt}, api.ErrRange},
		{"fuel one too much", api.Flash{Words: sound, Fuel: api.MaxTime + 1}, api.ErrRange},
		{"fuel highest", api.Flash{Words: sound, Fuel: math.MaxInt}, api.ErrRange},
		{"first word -1", api.Flash{Words: with(sound, 0, -1), Fuel: -1}, api.ErrRange},
		{"last word too great", api.Flash{Words: with(sound, len(sound)-1, api.MaxWord+1), Fuel: -1}, api.ErrRange},
		{"a word lowest", api.Flash{Words: with(sound, 40, math.MinInt), Fuel: 3}, api.ErrRange},
	}
}

func TestNew(t *testing.T) {
	for n := 1; n <= api.MaxSectors; n++ {
		f, e := New(n)
		wantErrno(t, "new", e, api.OK)
		wantFlash(t, "new", f, api.Flash{Words: filled(n*api.Sector, api.MaxWord), Fuel: -1})
		wantErrno(t, "check of new", Check(f), api.OK)
	}
	for _, n := range []int{0, -1, api.MaxSectors + 1, math.MaxInt, math.MinInt} {
		f, e := New(n)
		wantZero(t, "new of no such number", f, e, api.ErrRange)
	}
}

func TestNewIsNewMemory(t *testing.T) {
	a, _ := New(1)
	b, _ := New(1)
	a.Words[0] = 1
	if b.Words[0] != api.MaxWord {
		t.Error("two flashes share memory")
	}
}

func TestCheck(t *testing.T) {
	for _, c := range unsound() {
		wantErrno(t, c.what, Check(c.f), c.e)
	}
	for _, fuel := range []int{-1, 0, 1, api.MaxTime} {
		wantErrno(t, "sound fuel", Check(patterned(api.MaxSectors, fuel)), api.OK)
	}
	wantErrno(t, "words 0", Check(api.Flash{Words: filled(api.Sector, 0)}), api.OK)
	wantErrno(t, "words erased", Check(api.Flash{Words: filled(api.Sector, api.MaxWord)}), api.OK)
}

func TestAllWords(t *testing.T) {
	if !AllWords() || !AllWords(0) || !AllWords(3, 0, api.MaxWord) {
		t.Error("words, or none at all, are no words")
	}
	for _, wrong := range []int{-1, api.MaxWord + 1, math.MinInt, math.MaxInt} {
		if AllWords(wrong) || AllWords(wrong, 1) || AllWords(1, wrong) {
			t.Errorf("%d is a word", wrong)
		}
	}
}

func TestSame(t *testing.T) {
	f := patterned(2, 9)
	other := patterned(2, 9)
	last := len(f.Words) - 1
	cases := []struct {
		what string
		a, b api.Flash
		want bool
	}{
		{"itself", f, f, true},
		{"alike", f, other, true},
		{"fuel", f, patterned(2, 8), false},
		{"last word", f, api.Flash{Words: with(f.Words, last, 1), Fuel: 9}, false},
		{"a beginning", f, api.Flash{Words: f.Words[:last], Fuel: 9}, false},
		{"nil and empty", api.Flash{}, api.Flash{Words: []int{}}, true},
		{"unsound, alike", api.Flash{Words: []int{-4}, Fuel: -9}, api.Flash{Words: []int{-4}, Fuel: -9}, true},
		{"unsound, unlike", api.Flash{Words: []int{-4}, Fuel: -9}, api.Flash{Words: []int{-5}, Fuel: -9}, false},
		{"nothing and one", api.Flash{}, api.Flash{Words: []int{0}}, false},
	}
	for _, c := range cases {
		if Same(c.a, c.b) != c.want || Same(c.b, c.a) != c.want {
			t.Errorf("same, %s: want %v", c.what, c.want)
		}
	}
}

func TestUnsoundFlashIsSaidFirst(t *testing.T) {
	for _, c := range unsound() {
		f, e := Erase(c.f, -1)
		wantZero(t, "erase "+c.what, f, e, c.e)
		f, e = Program(c.f, -1, []int{-1})
		wantZero(t, "program "+c.what, f, e, c.e)
		words, e := Read(c.f, -1, -1)
		wantErrno(t, "read "+c.what, e, c.e)
		if words != nil {
			t.Errorf("read %s: words behind an error", c.what)
		}
	}
}

func TestEraseWithEachFuel(t *testing.T) {
	for sector := range 3 {
		for fuel := -1; fuel <= api.Sector+2; fuel++ {
			f := patterned(3, fuel)
			want, e := expected(f, sector*api.Sector, filled(api.Sector, api.MaxWord), true)
			got, ge := Erase(f, sector)
			wantErrno(t, "erase", ge, e)
			wantFlash(t, "erase", got, want)
			wantFlash(t, "erase leaves what it was given", f, patterned(3, fuel))
		}
	}
}

func TestEraseTakesFuelOfErasedWords(t *testing.T) {
	f, _ := New(1)
	f.Fuel = api.Sector - 1
	got, e := Erase(f, 0)
	wantErrno(t, "erase of erased", e, api.ErrPower)
	wantFlash(t, "erase of erased", got, api.Flash{Words: f.Words})
}

func TestEraseOfNoSector(t *testing.T) {
	for _, sector := range []int{-1, 3, math.MaxInt, math.MinInt, 1 << 59} {
		f, e := Erase(patterned(3, 0), sector)
		wantZero(t, "erase of no sector", f, e, api.ErrWho)
	}
}

// expected works out, without the package, what a change of flash comes to: a beginning, as long as the fuel.
func expected(f api.Flash, at int, words []int, erase bool) (api.Flash, api.Errno) {
	done := len(words)
	want := api.Flash{Words: slices.Clone(f.Words), Fuel: f.Fuel}
	e := api.OK
	if f.Fuel >= 0 && f.Fuel < done {
		done, e = f.Fuel, api.ErrPower
	}
	for i, w := range words[:done] {
		if erase {
			want.Words[at+i] = w
			continue
		}
		for bit := 1; bit <= api.MaxWord; bit *= 2 {
			if w/bit%2 == 0 && want.Words[at+i]/bit%2 == 1 {
				want.Words[at+i] -= bit
			}
		}
	}
	if f.Fuel >= 0 {
		want.Fuel -= done
	}
	return want, e
}

func TestProgramWithEachFuel(t *testing.T) {
	long := 2 * api.Sector
	lists := [][]int{nil, {}, {0}, {api.MaxWord}, {7, 8, 9}, {0xA500, 0x5AFF, 1, 0, api.MaxWord, 40000, 3}, filled(40, 0x0F0F), filled(long, 0)}
	for _, words := range lists {
		for _, at := range []int{0, 1, 30, long - len(words)} {
			if at+len(words) > long {
				continue
			}
			for fuel := -1; fuel <= len(words)+2; fuel++ {
				f := patterned(2, fuel)
				want, e := expected(f, at, words, false)
				given := roomy(words)
				got, ge := Program(f, at, given)
				wantErrno(t, "program", ge, e)
				wantFlash(t, "program", got, want)
				wantFlash(t, "program leaves what it was given", f, patterned(2, fuel))
				if !slices.Equal(given, words) {
					t.Errorf("program changed its words: %v, want %v", given, words)
				}
			}
		}
	}
}

func TestProgramTakesFuelOfSameWords(t *testing.T) {
	f := api.Flash{Words: filled(api.Sector, 3), Fuel: 2}
	got, e := Program(f, 0, []int{3, 3, 3})
	wantErrno(t, "program of the same", e, api.ErrPower)
	wantFlash(t, "program of the same", got, api.Flash{Words: f.Words})
}

func TestProgramOfNothingNeedsNoPower(t *testing.T) {
	f := patterned(1, 0)
	for _, at := range []int{0, api.Sector} {
		got, e := Program(f, at, nil)
		wantErrno(t, "program of nothing", e, api.OK)
		wantFlash(t, "program of nothing", got, f)
	}
}

func TestProgramWrongInputs(t *testing.T) {
	long := 2 * api.Sector
	cases := []struct {
		what  string
		at    int
		words []int
		e     api.Errno
	}{
		{"ahead of all", -1, []int{1}, api.ErrWho},
		{"nothing, ahead of all", -1, nil, api.ErrWho},
		{"lowest place", math.MinInt, []int{1}, api.ErrWho},
		{"behind all", long, []int{1}, api.ErrWho},
		{"nothing, behind all", long + 1, nil, api.ErrWho},
		{"one too many", long - 1, []int{1, 2}, api.ErrWho},
		{"more than there are", 0, filled(long+1, 1), api.ErrWho},
		{"a sum that wraps", math.MaxInt, []int{1, 2}, api.ErrWho},
		{"place ahead of words", long, []int{-1}, api.ErrWho},
		{"first is no word", 0, []int{-1, 2}, api.ErrRange},
		{"last is no word", 0, []int{1, 2, api.MaxWord + 1}, api.ErrRange},
		{"lowest number", 5, []int{math.MinInt}, api.ErrRange},
		{"highest number", 5, []int{math.MaxInt}, api.ErrRange},
	}
	for _, c := range cases {
		for _, fuel := range []int{-1, 0, 1} {
			f, e := Program(patterned(2, fuel), c.at, c.words)
			wantZero(t, "program, "+c.what, f, e, c.e)
		}
	}
}

func TestRead(t *testing.T) {
	long := 2 * api.Sector
	for at := -2; at <= long+2; at++ {
		for n := -2; n <= long+2; n++ {
			f := patterned(2, 0)
			words, e := Read(f, at, n)
			if at < 0 || n < 0 || at+n > long {
				wantErrno(t, "read of what isn't there", e, api.ErrWho)
				if words != nil {
					t.Errorf("read %d, %d: words behind an error", at, n)
				}
				continue
			}
			wantErrno(t, "read", e, api.OK)
			if !slices.Equal(words, f.Words[at:at+n]) {
				t.Errorf("read %d, %d: %v", at, n, words)
			}
		}
	}
}

func TestReadOfGreatNumbers(t *testing.T) {
	f := patterned(2, -1)
	for _, c := range [][2]int{{math.MaxInt, 1}, {1, math.MaxInt}, {math.MaxInt, math.MaxInt}, {math.MinInt, math.MinInt}, {math.MinInt, 0}, {0, math.MinInt}} {
		words, e := Read(f, c[0], c[1])
		wantErrno(t, "read of great numbers", e, api.ErrWho)
		if words != nil {
			t.Errorf("read %v: words behind an error", c)
		}
	}
}

// TestAnswersAreNewMemory spoils each answer, and its spare room, and looks whether what was handed in is touched.
func TestAnswersAreNewMemory(t *testing.T) {
	f := patterned(2, 5)
	words := roomy([]int{1, 2, 3})
	spoil := func(l []int) {
		l = l[:cap(l)]
		for i := range l {
			l[i] = -1
		}
	}
	erased, _ := Erase(f, 1)
	spoil(erased.Words)
	programmed, _ := Program(f, 0, words)
	spoil(programmed.Words)
	untouched, _ := Program(f, 0, nil)
	spoil(untouched.Words)
	read, _ := Read(f, 60, 4)
	spoil(read)
	nothing, _ := Read(f, 10, 0)
	spoil(nothing)
	wantFlash(t, "what was handed in", f, patterned(2, 5))
	if !slices.Equal(words, []int{1, 2, 3}) {
		t.Errorf("words that were handed in: %v", words)
	}
	for _, l := range [][]int{f.Words, words} {
		for _, x := range l[len(l):cap(l)] {
			if x != spare {
				t.Errorf("spare room of what was handed in: %d", x)
			}
		}
	}
}

// TestExample is the one of DOC.md: with the fuel 2 a Program of three words changes two.
func TestExample(t *testing.T) {
	f, _ := New(1)
	f.Fuel = 2
	got, e := Program(f, 0, []int{10, 20, 30})
	wantErrno(t, "example", e, api.ErrPower)
	wantFlash(t, "example", got, api.Flash{Words: append([]int{10, 20}, filled(api.Sector-2, api.MaxWord)...)})
}
