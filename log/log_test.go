package log

import (
	"math"
	"slices"
	"testing"

	"wainwright/api"
)

const erased = api.MaxWord

// sector is one whose first words are these; all others are erased.
func sector(words ...int) []int {
	l := slices.Clone(words)
	for len(l) < api.Sector {
		l = append(l, erased)
	}
	return l
}

// of is a flash of these sectors.
func of(fuel int, sectors ...[]int) api.Flash {
	return api.Flash{Words: slices.Concat(sectors...), Fuel: fuel}
}

// numbered is a sector of unlike words behind its generation, none of them a head.
func numbered(generation int) []int {
	l := sector(generation)
	for i := 1; i < len(l); i++ {
		l[i] = 100 + i
	}
	return l
}

// full is a sector whose last record ends with its last word, and its records.
func full(generation int) ([]int, []api.Record) {
	words := []int{generation}
	var records []api.Record
	for i := range 7 {
		words = append(words, 0xA503, i, 8, erased)
		records = append(records, api.Record{i, 8, erased})
	}
	return append(words, 0xA502, 5, 6), append(records, api.Record{5, 6})
}

func wantErrno(t *testing.T, what string, got, want api.Errno) {
	t.Helper()
	if got != want {
		t.Errorf("%s: error %d, want %d", what, got, want)
	}
}

func wantFlash(t *testing.T, what string, got, want api.Flash) {
	t.Helper()
	if got.Fuel != want.Fuel || !slices.Equal(got.Words, want.Words) {
		t.Errorf("%s:\n%v, want\n%v", what, got, want)
	}
}

func wantZero(t *testing.T, what string, got api.Flash, e, want api.Errno) {
	t.Helper()
	wantErrno(t, what, e, want)
	if got.Words != nil || got.Fuel != 0 {
		t.Errorf("%s: %v behind an error, want nothing", what, got)
	}
}

func alike(a, b []api.Record) bool {
	return slices.EqualFunc(a, b, func(x, y api.Record) bool { return slices.Equal(x, y) })
}

func wantRecords(t *testing.T, what string, f api.Flash, want []api.Record) {
	t.Helper()
	got, e := Records(f)
	wantErrno(t, "records of "+what, e, api.OK)
	if !alike(got, want) {
		t.Errorf("records of %s: %v, want %v", what, got, want)
	}
}

// change is a word of flash that is to be changed to another.
type change struct{ at, to int }

func erasure(sector int) []change {
	var l []change
	for i := range api.Sector {
		l = append(l, change{sector*api.Sector + i, erased})
	}
	return l
}

func run(at int, words ...int) []change {
	var l []change
	for i, w := range words {
		l = append(l, change{at + i, w})
	}
	return l
}

// after is the flash when as many of the changes are done as its fuel lets.
func after(f api.Flash, changes ...[]change) (api.Flash, api.Errno) {
	l := slices.Concat(changes...)
	want := api.Flash{Words: slices.Clone(f.Words), Fuel: f.Fuel}
	e := api.OK
	if f.Fuel >= 0 && f.Fuel < len(l) {
		l, e = l[:f.Fuel], api.ErrPower
	}
	for _, c := range l {
		want.Words[c.at] = c.to
	}
	if f.Fuel >= 0 {
		want.Fuel -= len(l)
	}
	return want, e
}

// noLogs are flashes that Check refuses, and why; form: Format refuses them, too.
func noLogs() []struct {
	what string
	f    api.Flash
	e    api.Errno
	form bool
} {
	return []struct {
		what string
		f    api.Flash
		e    api.Errno
		form bool
	}{
		{"nothing", api.Flash{}, api.ErrForm, true},
		{"a word long", api.Flash{Words: filledWith(65, 1)}, api.ErrForm, true},
		{"seven sectors", api.Flash{Words: filledWith(7*api.Sector, 1)}, api.ErrForm, true},
		{"one sector", of(-1, sector(1)), api.ErrForm, true},
		{"one sector, and fuel", of(-2, sector(1)), api.ErrRange, true},
		{"one sector, and no word", of(-1, sector(1, -1)), api.ErrRange, true},
		{"fuel", of(api.MaxTime+1, sector(1), sector()), api.ErrRange, true},
		{"no word in sector 2", of(-1, sector(1), sector(), sector(api.MaxWord+1)), api.ErrRange, true},
		{"all erased", of(-1, sector(), sector()), api.ErrWho, false},
		{"generation 0", of(-1, sector(0), sector(0)), api.ErrWho, false},
		{"generation 0 and none", of(0, sector(), sector(0)), api.ErrWho, false},
		{"generation in sector 2", of(-1, sector(), sector(), sector(1)), api.ErrWho, false},
		{"generation 60001", of(-1, sector(60001), sector()), api.ErrWho, false},
		{"generation 60001 in sector 1", of(-1, sector(), sector(60001)), api.ErrWho, false},
		{"generation 65534", of(-1, sector(65534), sector()), api.ErrWho, false},
		{"the greater above 60000", of(-1, sector(5), sector(60001)), api.ErrWho, false},
		{"the greater above 60000, ahead", of(-1, sector(60001), sector(60000)), api.ErrWho, false},
	}
}

func filledWith(n, x int) []int {
	l := make([]int, n)
	for i := range l {
		l[i] = x
	}
	return l
}

func TestCheckRefuses(t *testing.T) {
	for _, c := range noLogs() {
		wantErrno(t, "check, "+c.what, Check(c.f), c.e)
		l, e := Records(c.f)
		wantErrno(t, "records, "+c.what, e, c.e)
		if l != nil {
			t.Errorf("records, %s: %v behind an error", c.what, l)
		}
		for _, r := range []api.Record{nil, {-1}, {1}} {
			f, e := Append(c.f, r, []api.Record{nil})
			wantZero(t, "append, "+c.what, f, e, c.e)
		}
		if c.form {
			f, e := Format(c.f)
			wantZero(t, "format, "+c.what, f, e, c.e)
		}
	}
}

func TestCheckTakes(t *testing.T) {
	for _, g := range [][2]int{{1, erased}, {erased, 1}, {1, 0}, {0, 60000}, {60000, 59999}, {7, 7}, {3, 4}} {
		for more := range 5 {
			f := of(0, numbered(g[0]), numbered(g[1]))
			f.Words = append(f.Words, filledWith(more*api.Sector, 0)...)
			wantErrno(t, "check of a log", Check(f), api.OK)
		}
	}
}

func TestFormatWithEachFuel(t *testing.T) {
	for fuel := -1; fuel <= 2*api.Sector+3; fuel++ {
		f := of(fuel, numbered(9), numbered(12), numbered(3))
		want, e := after(f, erasure(1), erasure(0), run(0, 1))
		got, ge := Format(f)
		wantErrno(t, "format", ge, e)
		wantFlash(t, "format", got, want)
		if e == api.OK {
			wantRecords(t, "what was formatted", got, nil)
		} else if fuel > api.Sector {
			wantErrno(t, "check of what is formatted in part", Check(got), api.ErrWho)
		}
		wantFlash(t, "format leaves what it was given", f, of(fuel, numbered(9), numbered(12), numbered(3)))
	}
}

func TestRecords(t *testing.T) {
	fullSector, fullRecords := full(3)
	lastWord := append(filledWith(31, 0), 0xA501)
	for i := range 5 {
		copy(lastWord[1+6*i:], []int{0xA502, 1, 2, 0xA502, 3, 4})
	}
	lastWord[0] = 4
	var ten []api.Record
	for range 5 {
		ten = append(ten, api.Record{1, 2}, api.Record{3, 4})
	}
	cases := []struct {
		what string
		f    api.Flash
		want []api.Record
	}{
		{"none", of(-1, sector(1), sector()), nil},
		{"each length", of(0, sector(1, 0xA501, 7, 0xA502, 7, 8, 0xA503, 7, 8, 9, 0xA504, 7, 8, 9, 10), sector()), []api.Record{{7}, {7, 8}, {7, 8, 9}, {7, 8, 9, 10}}},
		{"words that look like heads, and erased", of(-1, sector(1, 0xA502, 0xA501, erased, 0xA501, 0), sector()), []api.Record{{0xA501, erased}, {0}}},
		{"up to an erased word", of(-1, sector(1, 0xA501, 7, erased, 0xA501, 8), sector()), []api.Record{{7}}},
		{"no number", of(-1, sector(1, 0xA501, 7, 0xA500, 0xA501, 8), sector()), []api.Record{{7}}},
		{"too great a number", of(-1, sector(1, 0xA501, 7, 0xA505, 1, 2, 3, 4, 5), sector()), []api.Record{{7}}},
		{"other bits", of(-1, sector(1, 0xA701, 7), sector()), nil},
		{"fewer bits", of(-1, sector(1, 0x2501, 7), sector()), nil},
		{"a plain number", of(-1, sector(1, 1, 7), sector()), nil},
		{"to the sector's end", of(-1, fullSector, sector(1, 0xA501, 5)), fullRecords},
		{"a head without room", of(-1, lastWord, sector()), ten},
		{"sector 1 is greater", of(-1, sector(1, 0xA501, 7), sector(2, 0xA501, 8)), []api.Record{{8}}},
		{"sector 0 is greater", of(-1, sector(60000, 0xA501, 7), sector(2, 0xA501, 8)), []api.Record{{7}}},
		{"two alike", of(-1, sector(2, 0xA501, 7), sector(2, 0xA501, 8)), []api.Record{{7}}},
		{"erased isn't greater", of(-1, sector(erased, 0xA501, 7), sector(2, 0xA501, 8)), []api.Record{{8}}},
		{"erased isn't greater, behind", of(-1, sector(2, 0xA501, 7), sector(erased, 0xA501, 8)), []api.Record{{7}}},
	}
	for _, c := range cases {
		wantRecords(t, c.what, c.f, c.want)
	}
}

// TestHeadAtTheEnd tries each number in the last words of sector 0, so that a record that reaches into sector 1 would be seen.
func TestHeadAtTheEnd(t *testing.T) {
	for left := 1; left <= 6; left++ {
		for n := 1; n <= api.MaxRecord; n++ {
			words := []int{9}
			var want []api.Record
			for len(words) < api.Sector-left {
				k := min(api.MaxRecord, api.Sector-left-len(words)-1)
				if k == api.MaxRecord && api.Sector-left-len(words) == api.MaxRecord+2 {
					k--
				}
				words = append(append(words, 0xA500+k), filledWith(k, 6)...)
				want = append(want, api.Record(filledWith(k, 6)))
			}
			words = append(words, 0xA500+n)
			words = append(words, filledWith(left-1, erased)...)
			if n < left {
				want = append(want, api.Record(filledWith(n, erased)))
			}
			wantRecords(t, "a head at the end", of(-1, words, sector(1, 2, 3)), want)
		}
	}
}

// TestAppendBehindWithEachFuel: where the sector is clean and has room, the words come first, then the head.
func TestAppendBehindWithEachFuel(t *testing.T) {
	ahead := []api.Record{{7, erased}, {0xA501}}
	keep := []api.Record{{50}, {51}}
	logWords := []int{0xA502, 7, erased, 0xA501, 0xA501}
	for _, first := range []int{0, api.Sector} {
		for _, r := range []api.Record{{0}, {erased}, {1, 2}, {erased, 3, 4}, {9, 8, 7, 6}} {
			for fuel := -1; fuel <= len(r)+3; fuel++ {
				given := func() api.Flash {
					if first == 0 {
						return of(fuel, sector(append([]int{5}, logWords...)...), numbered(4), numbered(1))
					}
					return of(fuel, numbered(4), sector(append([]int{5}, logWords...)...), numbered(1))
				}
				f := given()
				head := first + 1 + len(logWords)
				want, e := after(f, run(head+1, r...), run(head, 0xA500+len(r)))
				got, ge := Append(f, r, keep)
				wantErrno(t, "append", ge, e)
				wantFlash(t, "append", got, want)
				wantFlash(t, "append leaves what it was given", f, given())
				if e == api.OK {
					wantRecords(t, "append", got, append(slices.Clone(ahead), r))
				} else {
					wantRecords(t, "append in part", got, ahead)
				}
			}
		}
	}
}

// TestAppendElsewhereWithEachFuel: where it isn't clean, or has no room, keep and the record go to the other sector, the generation last.
func TestAppendElsewhereWithEachFuel(t *testing.T) {
	fullSector, fullRecords := full(5)
	counts := []struct {
		what   string
		words  []int
		ahead  []api.Record
		others []int
	}{
		{"full", fullSector, fullRecords, []int{4, 0, erased}},
		{"a word behind the record's place", sector(5, 0xA501, 7, erased, erased, erased, erased, erased, 3), []api.Record{{7}}, []int{1}},
		{"the last word", append(sector(5)[:31], 0), nil, []int{1}},
		{"no such record", sector(5, 0xA501, 7, 0xA500), []api.Record{{7}}, []int{1}},
		{"a head of five", sector(5, 0xA505), nil, []int{erased}},
	}
	r, keep := api.Record{1, 2}, []api.Record{{9, 9, 9, 9}, {erased}}
	words := []int{0xA504, 9, 9, 9, 9, 0xA501, erased, 0xA502, 1, 2}
	for _, c := range counts {
		for _, other := range c.others {
			for at := range 2 {
				for fuel := -1; fuel <= api.Sector+len(words)+3; fuel++ {
					sectors := [][]int{c.words, numbered(other), numbered(7)}
					if at == 1 {
						sectors[0], sectors[1] = sectors[1], sectors[0]
					}
					f := of(fuel, sectors...)
					first := (1 - at) * api.Sector
					want, e := after(f, erasure(1-at), run(first+1, words...), run(first, 6))
					got, ge := Append(f, r, keep)
					wantErrno(t, c.what, ge, e)
					wantFlash(t, c.what, got, want)
					wantFlash(t, c.what+" leaves what it was given", f, of(fuel, sectors...))
					if e == api.OK {
						wantRecords(t, c.what, got, append(slices.Clone(keep), r))
					} else {
						wantRecords(t, c.what+", in part", got, c.ahead)
					}
				}
			}
		}
	}
}

func TestAppendOfTwoAlike(t *testing.T) {
	f := of(-1, sector(3, 0xA501, 7), sector(3, 0xA501, 8))
	got, e := Append(f, api.Record{1}, nil)
	wantErrno(t, "two alike", e, api.OK)
	wantFlash(t, "two alike", got, of(-1, sector(3, 0xA501, 7, 0xA501, 1), sector(3, 0xA501, 8)))
	f = of(-1, sector(3, 1), sector(3, 0xA501, 8))
	got, e = Append(f, api.Record{1}, nil)
	wantErrno(t, "two alike, not clean", e, api.OK)
	wantFlash(t, "two alike, not clean", got, of(-1, sector(3, 1), sector(4, 0xA501, 1)))
}

// TestAppendFitsToTheWord fills a sector up to its last word, and no further.
func TestAppendFitsToTheWord(t *testing.T) {
	long := []int{1}
	for range 5 {
		long = append(long, 0xA504, 1, 2, 3, 4)
	}
	for n := 1; n <= api.MaxRecord; n++ {
		for room := 0; room <= 6; room++ {
			words := slices.Clone(long) // 26: six are left
			if fill := 6 - room; fill == 6 {
				words = append(words, 0xA502, 1, 1, 0xA502, 1, 1)
			} else if fill == 1 {
				words = append(words[:21], 0xA502, 1, 1, 0xA502, 1, 1)
			} else if fill > 1 {
				words = append(append(words, 0xA500+fill-1), filledWith(fill-1, 1)...)
			}
			if len(words) != api.Sector-room {
				t.Fatalf("%d words, %d are to be left", len(words), room)
			}
			got, e := Append(of(-1, sector(words...), sector()), api.Record(filledWith(n, 8)), nil)
			wantErrno(t, "append to the end", e, api.OK)
			there := got.Words[api.Sector] == erased
			if there != (n < room) {
				t.Errorf("a record of %d with room of %d: in the same sector: %v", n, room, there)
			}
		}
	}
}

func TestGenerationOf60000(t *testing.T) {
	fullSector, _ := full(60000)
	for _, fuel := range []int{-1, 0, 3, 100} {
		f, e := Append(of(fuel, fullSector, sector(59999)), api.Record{1, 2}, nil)
		wantZero(t, "full, of 60000", f, e, api.ErrFull)
		f, e = Append(of(fuel, sector(), sector(60000, 1)), api.Record{1}, nil)
		wantZero(t, "not clean, of 60000", f, e, api.ErrFull)
	}
	f, e := Append(of(-1, sector(60000), sector()), api.Record{1}, nil)
	wantErrno(t, "room, of 60000", e, api.OK)
	wantFlash(t, "room, of 60000", f, of(-1, sector(60000, 0xA501, 1), sector()))
	f, e = Append(of(-1, sector(59999, 1), sector()), api.Record{1}, nil)
	wantErrno(t, "full, of 59999", e, api.OK)
	wantFlash(t, "full, of 59999", f, of(-1, sector(59999, 1), sector(60000, 0xA501, 1)))
}

func TestAppendWrongInputs(t *testing.T) {
	long := api.Record{1, 2, 3, 4, 5}
	four := api.Record{1, 2, 3, 4}
	six := []api.Record{four, four, four, four, four, four} // 30 words, one is left
	cases := []struct {
		what string
		r    api.Record
		keep []api.Record
		e    api.Errno
	}{
		{"nil", nil, nil, api.ErrMany},
		{"empty", api.Record{}, nil, api.ErrMany},
		{"five", long, nil, api.ErrMany},
		{"five, no words", api.Record{-1, -1, -1, -1, -1}, nil, api.ErrMany},
		{"endless", filledWith(100000, 1), nil, api.ErrMany},
		{"first is no word", api.Record{-1, 1}, nil, api.ErrRange},
		{"last is no word", api.Record{1, 2, 3, api.MaxWord + 1}, nil, api.ErrRange},
		{"lowest", api.Record{math.MinInt}, nil, api.ErrRange},
		{"highest", api.Record{math.MaxInt}, nil, api.ErrRange},
		{"r ahead of keep", api.Record{-1}, []api.Record{nil}, api.ErrRange},
		{"r ahead of keep, no record", nil, []api.Record{{-1}}, api.ErrMany},
		{"r ahead of full", api.Record{-1}, append(slices.Clone(six), four), api.ErrRange},
		{"keep has none", api.Record{1}, []api.Record{{1}, nil}, api.ErrMany},
		{"keep has five", api.Record{1}, []api.Record{{1}, long}, api.ErrMany},
		{"keep has no word", api.Record{1}, []api.Record{{1}, {2, -1}}, api.ErrRange},
		{"keep, the first one's", api.Record{1}, []api.Record{{-1}, nil}, api.ErrRange},
		{"keep, the first one's, again", api.Record{1}, []api.Record{nil, {-1}}, api.ErrMany},
		{"keep is full", api.Record{1}, append(slices.Clone(six), api.Record{1}), api.ErrFull},
		{"full ahead of what follows", api.Record{1}, append(slices.Clone(six), api.Record{1}, nil), api.ErrFull},
		{"what is no record ahead of full", api.Record{1}, append(slices.Clone(six), nil, four), api.ErrMany},
		{"no word ahead of full, in one", api.Record{1}, append(slices.Clone(six), api.Record{-1}), api.ErrRange},
		{"full with r", api.Record{1}, six, api.ErrFull},
		{"endless keep", api.Record{1}, make([]api.Record, 100000), api.ErrMany},
	}
	for _, c := range cases {
		for _, fuel := range []int{-1, 0, 1} {
			f, e := Append(of(fuel, sector(1), sector()), c.r, c.keep)
			wantZero(t, "append, "+c.what, f, e, c.e)
			f, e = Append(of(fuel, sector(60000, 1), sector()), c.r, c.keep)
			wantZero(t, "append to what isn't clean, "+c.what, f, e, c.e)
		}
	}
}

// TestKeepOfAWholeSector: 31 words are just room enough.
func TestKeepOfAWholeSector(t *testing.T) {
	four := api.Record{1, 2, 3, 4}
	keep := []api.Record{four, four, four, four, four, {5, 6, 7}}
	f, e := Append(of(-1, sector(1, 1), sector()), api.Record{8}, keep)
	wantErrno(t, "a whole sector", e, api.OK)
	wantRecords(t, "a whole sector", f, append(slices.Clone(keep), api.Record{8}))
	if f.Words[2*api.Sector-1] != 8 {
		t.Errorf("the last word: %d, want 8", f.Words[2*api.Sector-1])
	}
}

// TestManyAppendsWithPowerThatGoes holds the log against a plain list, through many appends whose power goes somewhere.
func TestManyAppendsWithPowerThatGoes(t *testing.T) {
	seed := 1
	next := func(n int) int {
		seed = (seed*1103515245 + 12345) % (1 << 31)
		return seed / 65536 % n
	}
	words := []int{0, 1, erased, 0xA501, 0xA500, 0xA504, 60000}
	record := func() api.Record {
		r := make(api.Record, 1+next(api.MaxRecord))
		for i := range r {
			r[i] = words[next(len(words))]
		}
		return r
	}
	f, e := Format(of(-1, numbered(3), numbered(60000), numbered(1)))
	wantErrno(t, "format", e, api.OK)
	var have []api.Record
	moved := 0
	for range 20000 {
		keep := []api.Record{record(), record()}[:next(3)]
		r := record()
		f.Fuel = next(60) - 5
		if f.Fuel < 0 {
			f.Fuel = -1
		}
		var e api.Errno
		f, e = Append(f, r, keep)
		got, ge := Records(f)
		wantErrno(t, "records", ge, api.OK)
		behind, anew := append(slices.Clone(have), r), append(slices.Clone(keep), r)
		switch {
		case e == api.OK && !alike(got, behind) && !alike(got, anew),
			e == api.ErrPower && !alike(got, have),
			e != api.OK && e != api.ErrPower:
			t.Fatalf("error %d: %v, ahead %v, keep %v, record %v", e, got, have, keep, r)
		case e == api.OK && !alike(got, behind):
			moved++
		}
		if !slices.Equal(f.Words[2*api.Sector:], numbered(1)) {
			t.Fatal("sector 2 was changed")
		}
		have = got
	}
	if moved < 100 {
		t.Errorf("the sector changed %d times only", moved)
	}
}

const spare = 777

// roomy is the same list with spare room behind it.
func roomy(l []int) []int {
	own := append(make([]int, 0, len(l)+8), l...)
	for i := len(own); i < cap(own); i++ {
		own[:cap(own)][i] = spare
	}
	return own
}

func wantSpare(t *testing.T, what string, l []int) {
	t.Helper()
	for _, x := range l[len(l):cap(l)] {
		if x != spare {
			t.Errorf("%s: spare room was changed", what)
		}
	}
}

func spoil(l []int) {
	l = l[:cap(l)]
	for i := range l {
		l[i] = -1
	}
}

// TestAnswersAreNewMemory spoils each answer and looks whether what was handed in, or another list, is touched.
func TestAnswersAreNewMemory(t *testing.T) {
	for _, words := range [][]int{sector(1, 0xA502, 7, 8, 0xA501, 9), sector(1, 0xA502, 7, 8, 0xA501, 9, 0)} {
		for _, fuel := range []int{-1, 0, 2, 34, 1000} {
			f := of(fuel, words, numbered(0))
			f.Words = roomy(f.Words)
			r := api.Record(roomy([]int{1, 2}))
			keep := append(make([]api.Record, 0, 4), roomy([]int{3}), roomy([]int{4, 5}))
			keep[:3][2] = api.Record{spare}
			g, _ := Append(f, r, keep)
			spoil(g.Words)
			g, _ = Format(f)
			spoil(g.Words)
			l, _ := Records(f)
			if len(l) != 2 {
				t.Fatalf("records: %v", l)
			}
			spoil(l[0])
			if !slices.Equal(l[1], api.Record{9}) {
				t.Errorf("two records share memory: %v", l)
			}
			spoil(l[1])
			wantFlash(t, "what was handed in", f, of(fuel, words, numbered(0)))
			if !slices.Equal(r, api.Record{1, 2}) || !alike(keep, []api.Record{{3}, {4, 5}}) || !alike(keep[2:3], []api.Record{{spare}}) {
				t.Errorf("records that were handed in: %v, %v", r, keep[:3])
			}
			for _, l := range [][]int{f.Words, r, keep[0], keep[1]} {
				wantSpare(t, "what was handed in", l)
			}
		}
	}
}
