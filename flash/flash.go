// Package flash is flash whose power may go behind each word that is changed: see doc/01-flash.md.
package flash

import (
	"slices"

	"wainwright/api"
)

func New(sectors int) (api.Flash, api.Errno) {
	if sectors < 1 || sectors > api.MaxSectors {
		return api.Flash{}, api.ErrRange
	}
	words := make([]int, sectors*api.Sector)
	for i := range words {
		words[i] = api.MaxWord
	}
	return api.Flash{Words: words, Fuel: -1}, api.OK
}

// Check looks at the length first, so that no endless list is gone through word by word.
func Check(f api.Flash) api.Errno {
	long := len(f.Words)
	if long == 0 || long%api.Sector != 0 || long > api.MaxSectors*api.Sector {
		return api.ErrForm
	}
	if f.Fuel < -1 || f.Fuel > api.MaxTime || !AllWords(f.Words...) {
		return api.ErrRange
	}
	return api.OK
}

// Same checks neither: two that are unsound in the same way are alike, too.
func Same(a, b api.Flash) bool {
	return a.Fuel == b.Fuel && slices.Equal(a.Words, b.Words)
}

func Erase(f api.Flash, sector int) (api.Flash, api.Errno) {
	if e := Check(f); e != api.OK {
		return api.Flash{}, e
	}
	if sector < 0 || sector >= len(f.Words)/api.Sector {
		return api.Flash{}, api.ErrWho
	}
	own := twin(f)
	e := change(&own, sector*api.Sector, api.Sector, func(_, _ int) int { return api.MaxWord })
	return own, e
}

// Program can clear bits and never set one: only Erase brings them back.
func Program(f api.Flash, at int, words []int) (api.Flash, api.Errno) {
	if e := Check(f); e != api.OK {
		return api.Flash{}, e
	}
	if !fits(f, at, len(words)) {
		return api.Flash{}, api.ErrWho
	}
	if !AllWords(words...) {
		return api.Flash{}, api.ErrRange
	}
	own := twin(f)
	e := change(&own, at, len(words), func(i, old int) int { return old & words[i] })
	return own, e
}

// Read changes no word, so it takes no fuel, and a flash without any can be read.
func Read(f api.Flash, at, n int) ([]int, api.Errno) {
	if e := Check(f); e != api.OK {
		return nil, e
	}
	if !fits(f, at, n) {
		return nil, api.ErrWho
	}
	return twinWords(f.Words[at : at+n]), api.OK
}

// AllWords is there for the layers below, too, so that all of them mean the same by a word.
func AllWords(numbers ...int) bool {
	return !slices.ContainsFunc(numbers, func(n int) bool { return n < 0 || n > api.MaxWord })
}

// fits subtracts, as a sum of two numbers that are given might wrap round.
func fits(f api.Flash, at, n int) bool {
	return at >= 0 && n >= 0 && n <= len(f.Words)-at
}

// twin is there since what was handed in may not be changed, and no answer may share memory with it.
func twin(f api.Flash) api.Flash {
	return api.Flash{Words: twinWords(f.Words), Fuel: f.Fuel}
}

// twinWords makes memory even of no words: slices.Clone would hand out the old list's place.
func twinWords(words []int) []int {
	own := make([]int, len(words))
	copy(own, words)
	return own
}

// change is the one place where words change, so that erasing and programming lose their power alike.
func change(own *api.Flash, at, n int, next func(i, old int) int) api.Errno {
	for i := range n {
		if own.Fuel == 0 {
			return api.ErrPower
		}
		if own.Fuel > 0 {
			own.Fuel--
		}
		own.Words[at+i] = next(i, own.Words[at+i])
	}
	return api.OK
}
