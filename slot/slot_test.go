package slot

import (
	"math"
	"slices"
	"testing"

	"wainwright/api"
)

const (
	erased = api.MaxWord
	spare  = 777 // what lies in the spare room behind a list that is handed in
)

// starts are the places of both heads, written out so that the program's own sums aren't trusted.
var starts = [2]int{64, 128}

func filled(n, x int) []int {
	l := make([]int, n)
	for i := range l {
		l[i] = x
	}
	return l
}

// counted is a list of n unlike words.
func counted(n, first int) []int {
	l := make([]int, n)
	for i := range l {
		l[i] = first + i
	}
	return l
}

// roomy is the same words with spare room behind them.
func roomy(words []int) []int {
	l := append(make([]int, 0, len(words)+8), words...)
	for i := len(l); i < cap(l); i++ {
		l[:cap(l)][i] = spare
	}
	return l
}

// blank is a flash of six sectors, all erased.
func blank(fuel int) api.Flash {
	return api.Flash{Words: filled(192, erased), Fuel: fuel}
}

// patterned is a flash of six sectors of unlike words.
func patterned(fuel int) api.Flash {
	f := blank(fuel)
	for i := range f.Words {
		f.Words[i] = (i*2503 + 911) % (api.MaxWord + 1)
	}
	return f
}

// with is the flash with these words from the place on, whatever stood there.
func with(f api.Flash, at int, words ...int) api.Flash {
	own := api.Flash{Words: slices.Clone(f.Words), Fuel: f.Fuel}
	for i, w := range words {
		own.Words[at+i] = w
	}
	return own
}

func fueled(f api.Flash, fuel int) api.Flash {
	return api.Flash{Words: slices.Clone(f.Words), Fuel: fuel}
}

func headWritten(long, name int) []int {
	return []int{long, name, 65535 - long, 65535 - name}
}

// change is a word of flash that is to be erased (to -1), or programmed.
type change struct{ at, to int }

func erasure(at, n int) []change {
	var l []change
	for i := range n {
		l = append(l, change{at + i, -1})
	}
	return l
}

func run(at int, words ...int) []change {
	var l []change
	for i, w := range words {
		l = append(l, change{at + i, w})
	}
	return l
}

// after is the flash when as many of the changes are done as its fuel lets.
func after(f api.Flash, l []change) (api.Flash, api.Errno) {
	want, e := fueled(f, f.Fuel), api.OK
	if f.Fuel >= 0 && f.Fuel < len(l) {
		l, e = l[:f.Fuel], api.ErrPower
	}
	for _, c := range l {
		if c.to == -1 {
			want.Words[c.at] = erased
		} else {
			want.Words[c.at] &= c.to
		}
	}
	if f.Fuel >= 0 {
		want.Fuel -= len(l)
	}
	return want, e
}

func wantErrno(t *testing.T, what string, got, want api.Errno) {
	t.Helper()
	if got != want {
		t.Errorf("%s: error %d, want %d", what, got, want)
	}
}

func wantFlash(t *testing.T, what string, got, want api.Flash) {
	t.Helper()
	if got.Fuel != want.Fuel || !slices.Equal(got.Words, want.Words) {
		t.Errorf("%s:\n%v, want\n%v", what, got, want)
	}
}

// wantZero: with an error all else is zero.
func wantZero(t *testing.T, what string, got api.Flash, e, want api.Errno) {
	t.Helper()
	wantErrno(t, what, e, want)
	if got.Words != nil || got.Fuel != 0 {
		t.Errorf("%s: %v behind an error, want nothing", what, got)
	}
}

func wantImage(t *testing.T, what string, f api.Flash, slot int, words []int, name int) {
	t.Helper()
	got, n, e := Image(f, slot)
	wantErrno(t, what, e, api.OK)
	if n != name || !slices.Equal(got, words) {
		t.Errorf("%s: image %v of name %d, want %v of %d", what, got, n, words, name)
	}
}

func wantNoImage(t *testing.T, what string, f api.Flash, slot int, want api.Errno) {
	t.Helper()
	got, n, e := Image(f, slot)
	wantErrno(t, what, e, want)
	if got != nil || n != 0 {
		t.Errorf("%s: image %v of name %d behind an error", what, got, n)
	}
}

func wantBody(t *testing.T, what string, f api.Flash, slot, n int, want []int) {
	t.Helper()
	got, e := Body(f, slot, n)
	wantErrno(t, what, e, api.OK)
	if !slices.Equal(got, want) {
		t.Errorf("%s: body %v, want %v", what, got, want)
	}
}

// wantSteps tries a call with each fuel that could matter, and holds it against the changes that it is to make, one by one.
func wantSteps(t *testing.T, what string, f api.Flash, l []change, call func(f api.Flash) (api.Flash, api.Errno)) {
	t.Helper()
	for fuel := -1; fuel <= len(l)+2; fuel++ {
		given := fueled(f, fuel)
		want, e := after(given, l)
		got, ge := call(given)
		wantErrno(t, what, ge, e)
		wantFlash(t, what, got, want)
		wantFlash(t, what+" leaves what it was given", given, fueled(f, fuel))
	}
}

// call is one of the five, made to answer alike.
type call struct {
	what string
	do   func(f api.Flash, slot int) (api.Errno, bool)
}

// calls are all five, with arguments that are sound, or aren't; they tell the error, and whether all else is zero.
func calls(sound bool) []call {
	n, words := 3, []int{1, 2}
	if !sound {
		n, words = -1, []int{-1}
	}
	zero := func(f api.Flash) bool { return f.Words == nil && f.Fuel == 0 }
	return []call{
		{"clear", func(f api.Flash, slot int) (api.Errno, bool) {
			g, e := Clear(f, slot)
			return e, zero(g)
		}},
		{"fill", func(f api.Flash, slot int) (api.Errno, bool) {
			g, e := Fill(f, slot, n, words)
			return e, zero(g)
		}},
		{"seal", func(f api.Flash, slot int) (api.Errno, bool) {
			g, e := Seal(f, slot, n, n)
			return e, zero(g)
		}},
		{"body", func(f api.Flash, slot int) (api.Errno, bool) {
			l, e := Body(f, slot, n)
			return e, l == nil
		}},
		{"image", func(f api.Flash, slot int) (api.Errno, bool) {
			l, name, e := Image(f, slot)
			return e, l == nil && name == 0
		}},
	}
}

// TestWhatAllSayFirst gives each call what is unsound in several ways: the first one that is told counts.
func TestWhatAllSayFirst(t *testing.T) {
	sealed := with(blank(-1), 64, headWritten(1, 1)...)
	cases := []struct {
		what string
		f    api.Flash
		slot int
		e    api.Errno
	}{
		{"nothing", api.Flash{}, 0, api.ErrForm},
		{"a word short", api.Flash{Words: filled(191, 1), Fuel: -1}, 0, api.ErrForm},
		{"a word long, and no words", api.Flash{Words: filled(193, -1), Fuel: -1}, 0, api.ErrForm},
		{"seven sectors", api.Flash{Words: filled(224, 1), Fuel: -1}, 0, api.ErrForm},
		{"fuel -2", fueled(sealed, -2), 0, api.ErrRange},
		{"fuel too much", fueled(sealed, api.MaxTime+1), 0, api.ErrRange},
		{"no word in the log", with(sealed, 0, -1), 0, api.ErrRange},
		{"no word at the end", with(sealed, 191, api.MaxWord+1), 0, api.ErrRange},
		{"fuel, and no slot", fueled(sealed, -2), 2, api.ErrRange},
		{"one sector", api.Flash{Words: filled(32, 1), Fuel: -1}, 0, api.ErrForm},
		{"four sectors, that have slot 0", api.Flash{Words: filled(128, 1), Fuel: -1}, 0, api.ErrForm},
		{"five sectors", api.Flash{Words: filled(160, 1), Fuel: -1}, 0, api.ErrForm},
		{"five sectors, and no slot", api.Flash{Words: filled(160, 1), Fuel: -1}, 2, api.ErrForm},
		{"five sectors, and fuel", api.Flash{Words: filled(160, 1), Fuel: -2}, 0, api.ErrRange},
		{"slot -1", sealed, -1, api.ErrWho},
		{"slot 2", sealed, 2, api.ErrWho},
		{"slot 2, and no power", fueled(sealed, 0), 2, api.ErrWho},
		{"slot lowest", sealed, math.MinInt, api.ErrWho},
		{"slot highest", sealed, math.MaxInt, api.ErrWho},
	}
	for _, c := range cases {
		for _, sound := range []bool{true, false} {
			for _, one := range calls(sound) {
				e, zero := one.do(c.f, c.slot)
				wantErrno(t, one.what+", "+c.what, e, c.e)
				if !zero {
					t.Errorf("%s, %s: not zero behind an error", one.what, c.what)
				}
			}
		}
	}
}

func TestClearWithEachFuel(t *testing.T) {
	for slot, start := range starts {
		wantSteps(t, "clear", patterned(-1), erasure(start, 64), func(f api.Flash) (api.Flash, api.Errno) {
			return Clear(f, slot)
		})
	}
}

// TestClearInPart: one erased word is enough for the image to be gone; without any it is whole.
func TestClearInPart(t *testing.T) {
	image := counted(api.MaxImage, 500)
	for slot, start := range starts {
		sealed := with(with(blank(-1), start, headWritten(api.MaxImage, api.MaxBook)...), start+4, image...)
		for fuel := range 64 {
			got, e := Clear(fueled(sealed, fuel), slot)
			wantErrno(t, "clear", e, api.ErrPower)
			if fuel == 0 {
				wantImage(t, "clear without power", got, slot, image, api.MaxBook)
			} else {
				wantNoImage(t, "cleared in part", got, slot, api.ErrForm)
			}
		}
	}
}

func TestFillWithEachFuel(t *testing.T) {
	cases := []struct {
		at    int
		words []int
	}{
		{0, nil},
		{0, []int{}},
		{0, []int{7}},
		{0, []int{erased, 0, 0xF0F0}},
		{5, counted(8, 900)},
		{39, []int{1}},
		{40, nil},
		{32, counted(8, 40)},
		{27, counted(2, 3)}, // across both sectors
		{0, counted(40, 60000)},
	}
	for slot, start := range starts {
		for _, c := range cases {
			for _, f := range []api.Flash{blank(-1), patterned(-1)} {
				wantSteps(t, "fill", f, run(start+4+c.at, c.words...), func(f api.Flash) (api.Flash, api.Errno) {
					return Fill(f, slot, c.at, c.words)
				})
			}
		}
	}
}

// TestFillEnds: each piece may end just at api.MaxImage, and not one word behind.
func TestFillEnds(t *testing.T) {
	for slot := range starts {
		for at := range api.MaxImage + 1 {
			for _, fuel := range []int{-1, 0, 100} {
				f, e := Fill(blank(fuel), slot, at, counted(41-at, 1))
				wantZero(t, "a word behind", f, e, api.ErrMany)
			}
			_, e := Fill(blank(-1), slot, at, counted(40-at, 1))
			wantErrno(t, "just at the end", e, api.OK)
		}
	}
}

func TestFillWrongInputs(t *testing.T) {
	cases := []struct {
		what  string
		at    int
		words []int
		e     api.Errno
	}{
		{"at -1", -1, nil, api.ErrMany},
		{"at -1, one word", -1, []int{1}, api.ErrMany},
		{"at 41", 41, nil, api.ErrMany},
		{"lowest", math.MinInt, []int{1, 2}, api.ErrMany},
		{"highest", math.MaxInt, []int{1, 2}, api.ErrMany},
		{"40 and one", 40, []int{1}, api.ErrMany},
		{"41 words", 0, filled(41, 1), api.ErrMany},
		{"endless", 0, filled(100000, 1), api.ErrMany},
		{"too many, ahead of no word", 39, []int{-1, -1}, api.ErrMany},
		{"first is no word", 0, []int{-1, 1}, api.ErrRange},
		{"last is no word", 38, []int{1, api.MaxWord + 1}, api.ErrRange},
		{"a word lowest", 3, []int{math.MinInt}, api.ErrRange},
		{"a word highest", 3, []int{math.MaxInt}, api.ErrRange},
	}
	for slot := range starts {
		for _, c := range cases {
			for _, fuel := range []int{-1, 0, 1} {
				f, e := Fill(patterned(fuel), slot, c.at, c.words)
				wantZero(t, "fill, "+c.what, f, e, c.e)
			}
		}
	}
}

func TestSealWithEachFuel(t *testing.T) {
	for slot, start := range starts {
		for _, long := range []int{1, 2, 10, 39, 40} {
			for _, name := range []int{1, 2, 31, 59, 60} {
				for _, f := range []api.Flash{blank(-1), patterned(-1)} {
					wantSteps(t, "seal", f, run(start, headWritten(long, name)...), func(f api.Flash) (api.Flash, api.Errno) {
						return Seal(f, slot, long, name)
					})
				}
			}
		}
	}
}

func TestSealWrongInputs(t *testing.T) {
	cases := []struct{ long, name int }{
		{0, 1}, {-1, 1}, {41, 1}, {math.MinInt, 1}, {math.MaxInt, 1}, {erased, 1},
		{1, 0}, {1, -1}, {1, 61}, {1, math.MinInt}, {1, math.MaxInt}, {1, erased},
		{0, 0}, {41, 61},
	}
	for slot := range starts {
		for _, c := range cases {
			for _, fuel := range []int{-1, 0, 2} {
				f, e := Seal(blank(fuel), slot, c.long, c.name)
				wantZero(t, "seal", f, e, api.ErrRange)
			}
		}
	}
}

// TestSealInPart: of a clear slot no beginning of a head is one.
func TestSealInPart(t *testing.T) {
	for slot, start := range starts {
		for long := 1; long <= api.MaxImage; long++ {
			image := counted(long, 7)
			f := with(blank(-1), start+4, image...)
			for name := 1; name <= api.MaxBook; name++ {
				for fuel := range 4 {
					got, e := Seal(fueled(f, fuel), slot, long, name)
					wantErrno(t, "seal in part", e, api.ErrPower)
					wantNoImage(t, "sealed in part", got, slot, api.ErrForm)
				}
				got, e := Seal(fueled(f, 4), slot, long, name)
				wantErrno(t, "seal", e, api.OK)
				wantImage(t, "sealed", got, slot, image, name)
			}
		}
	}
}

// TestSealTwice: a head over another one is none, unless it is the same one; a beginning of it leaves the old one only if no bit is lost.
func TestSealTwice(t *testing.T) {
	pairs := []struct{ long, name int }{{1, 1}, {2, 1}, {3, 1}, {1, 3}, {40, 60}, {8, 60}, {40, 28}, {7, 7}, {5, 5}}
	for slot, start := range starts {
		for _, old := range pairs {
			for _, next := range pairs {
				f := with(blank(-1), start, headWritten(old.long, old.name)...)
				f, e := Seal(f, slot, next.long, next.name)
				wantErrno(t, "seal again", e, api.OK)
				if old == next {
					wantImage(t, "sealed with the same", f, slot, filled(old.long, erased), old.name)
				} else {
					wantNoImage(t, "sealed with another", f, slot, api.ErrForm)
				}
			}
		}
	}
}

// TestSealAgainInPart: with the old numbers' bits all in the new ones, the old head stands until the third word is burnt.
func TestSealAgainInPart(t *testing.T) {
	for slot, start := range starts {
		old := with(blank(-1), start, headWritten(1, 1)...)
		for fuel := range 4 {
			f, e := Seal(fueled(old, fuel), slot, 3, 1)
			wantErrno(t, "seal again in part", e, api.ErrPower)
			if fuel < 3 {
				wantImage(t, "the old head", f, slot, []int{erased}, 1)
			} else {
				wantNoImage(t, "no head any more", f, slot, api.ErrForm)
			}
		}
	}
}

func TestBody(t *testing.T) {
	for slot, start := range starts {
		for _, fuel := range []int{-1, 0, 5} {
			f := patterned(fuel)
			for n := range api.MaxImage + 1 {
				wantBody(t, "body", f, slot, n, f.Words[start+4:start+4+n])
			}
			sealed := with(f, start, headWritten(2, 9)...)
			wantBody(t, "body of more than the head says", sealed, slot, 40, f.Words[start+4:start+44])
			for _, n := range []int{-1, 41, math.MinInt, math.MaxInt} {
				l, e := Body(f, slot, n)
				wantErrno(t, "body", e, api.ErrMany)
				if l != nil {
					t.Errorf("body of %d: %v behind an error", n, l)
				}
			}
		}
	}
}

func TestImageOfEachHead(t *testing.T) {
	for slot, start := range starts {
		f := patterned(0)
		for long := 0; long <= api.MaxImage+2; long++ {
			for name := 0; name <= api.MaxBook+2; name++ {
				g := with(f, start, headWritten(long, name)...)
				if long < 1 || long > 40 || name < 1 || name > 60 {
					wantNoImage(t, "numbers that may not be", g, slot, api.ErrForm)
				} else {
					wantImage(t, "a head", g, slot, f.Words[start+4:start+4+long], name)
				}
			}
		}
	}
}

// TestImageOfNoHead changes each bit of a head, and its words' order.
func TestImageOfNoHead(t *testing.T) {
	for slot, start := range starts {
		good := headWritten(40, 40)
		for i := range good {
			for bit := range 16 {
				bad := slices.Clone(good)
				bad[i] ^= 1 << bit
				wantNoImage(t, "another bit", with(blank(-1), start, bad...), slot, api.ErrForm)
			}
		}
		for _, bad := range [][]int{
			{5, 9, 65535 - 9, 65535 - 5},
			{5, 65535 - 5, 9, 65535 - 9},
			{65535 - 5, 65535 - 9, 5, 9},
			{5, 9, 5, 9},
			{5, 9, erased, erased},
			{erased, erased, 0, 0},
			{0, 0, erased, erased},
			{erased, erased, erased, erased},
			{0, 0, 0, 0},
		} {
			wantNoImage(t, "no head", with(blank(-1), start, bad...), slot, api.ErrForm)
		}
		wantNoImage(t, "a head in the log", with(blank(-1), 0, headWritten(1, 1)...), slot, api.ErrForm)
		wantNoImage(t, "a head in the other slot", with(blank(-1), starts[1-slot], headWritten(1, 1)...), slot, api.ErrForm)
		wantNoImage(t, "a head in the second sector", with(blank(-1), start+32, headWritten(1, 1)...), slot, api.ErrForm)
	}
}

// step is one call of many that bring an image into a slot.
type step func(f api.Flash) (api.Flash, api.Errno)

// bringing is what a slot needs to come to hold the image: cleared, filled by pieces, sealed.
func bringing(slot int, image []int, piece, name int) []step {
	l := []step{func(f api.Flash) (api.Flash, api.Errno) { return Clear(f, slot) }}
	for at := 0; at < len(image); at += piece {
		words := image[at:min(at+piece, len(image))]
		l = append(l, func(f api.Flash) (api.Flash, api.Errno) { return Fill(f, slot, at, words) })
	}
	return append(l, func(f api.Flash) (api.Flash, api.Errno) { return Seal(f, slot, len(image), name) })
}

// TestBringAnImage cuts the power behind each word on the way: until the last one there is no new image, and all else of the flash is left alone.
func TestBringAnImage(t *testing.T) {
	oldImage := counted(9, 40)
	for slot, start := range starts {
		old := with(with(patterned(-1), starts[1-slot], headWritten(40, 3)...), start, append(headWritten(9, 8), oldImage...)...)
		for _, long := range []int{1, 8, 10, 28, 29, 40} {
			for _, piece := range []int{1, 8, 40} {
				image := counted(long, 60000)
				image[0] = erased
				whole := 64 + long + 4
				for fuel := 0; fuel <= whole+1; fuel++ {
					f, e := fueled(old, fuel), api.OK
					for _, do := range bringing(slot, image, piece, 60) {
						if f, e = do(f); e != api.OK {
							break
						}
					}
					switch {
					case fuel == 0:
						wantErrno(t, "no power", e, api.ErrPower)
						wantImage(t, "no power", f, slot, oldImage, 8)
					case fuel < whole:
						wantErrno(t, "in part", e, api.ErrPower)
						wantNoImage(t, "in part", f, slot, api.ErrForm)
					default:
						wantErrno(t, "done", e, api.OK)
						wantImage(t, "done", f, slot, image, 60)
					}
					copy(f.Words[start:start+64], old.Words[start:])
					wantFlash(t, "all else", f, api.Flash{Words: old.Words, Fuel: max(0, fuel-whole)})
				}
			}
		}
	}
}

// TestPiecesInAnyOrder: the places count, not which piece came first; what isn't filled is erased.
func TestPiecesInAnyOrder(t *testing.T) {
	for slot := range starts {
		f := blank(-1)
		for _, at := range []int{32, 0, 24, 8} {
			var e api.Errno
			f, e = Fill(f, slot, at, counted(8, 100+at))
			wantErrno(t, "fill", e, api.OK)
		}
		f, e := Seal(f, slot, 40, 5)
		wantErrno(t, "seal", e, api.OK)
		want := counted(40, 100)
		copy(want[16:24], filled(8, erased))
		wantImage(t, "pieces", f, slot, want, 5)
		wantNoImage(t, "the other slot", f, 1-slot, api.ErrForm)
	}
}

// TestFillOfASealedSlot: the head stays, and bits are cleared only.
func TestFillOfASealedSlot(t *testing.T) {
	for slot, start := range starts {
		f := with(blank(-1), start, append(headWritten(2, 9), 0xFF, 0xF0)...)
		f, e := Fill(f, slot, 0, []int{0x0F, 0xFF, 3})
		wantErrno(t, "fill", e, api.OK)
		wantImage(t, "filled again", f, slot, []int{0x0F, 0xF0}, 9)
		wantBody(t, "filled again", f, slot, 4, []int{0x0F, 0xF0, 3, erased})
	}
}

func spoil(l []int) {
	l = l[:cap(l)]
	for i := range l {
		l[i] = -1
	}
}

// TestAnswersAreNewMemory spoils each answer and looks whether what was handed in is touched, or the spare room behind it.
func TestAnswersAreNewMemory(t *testing.T) {
	for slot, start := range starts {
		for _, fuel := range []int{-1, 0, 2, 33, 1000} {
			sealed := with(patterned(fuel), start, headWritten(40, 9)...)
			f := api.Flash{Words: roomy(sealed.Words), Fuel: fuel}
			words := roomy([]int{1, 2, 3})
			spoilAll(f, slot, words)
			wantFlash(t, "what was handed in", f, sealed)
			if !slices.Equal(words, []int{1, 2, 3}) {
				t.Errorf("words that were handed in: %v", words)
			}
			for _, l := range [][]int{f.Words, words} {
				if slices.ContainsFunc(l[len(l):cap(l)], func(x int) bool { return x != spare }) {
					t.Error("spare room was changed")
				}
			}
		}
	}
}

// spoilAll makes each call, with no words too, and overwrites what it answers.
func spoilAll(f api.Flash, slot int, words []int) {
	g, _ := Clear(f, slot)
	spoil(g.Words)
	for n := range len(words) + 1 {
		g, _ = Fill(f, slot, 10, words[:n])
		spoil(g.Words)
	}
	g, _ = Seal(f, slot, 3, 3)
	spoil(g.Words)
	for _, n := range []int{0, 1, 40} {
		l, _ := Body(f, slot, n)
		spoil(l)
	}
	l, _, _ := Image(f, slot)
	spoil(l)
}
