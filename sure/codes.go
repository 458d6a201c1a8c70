package sure

import (
	"math/bits"

	"planchet/api"
)

const (
	maxLength = 3
	maxWords  = 64
)

// words has for each word the set of itself and those that it is confused with.
type words []uint64

// Codes reports whether code is a code.
func Codes(g []int, k int, code []int) (bool, api.Errno) {
	w, e := read(g, k)
	if e != api.OK {
		return false, e
	}
	return w.isCode(code), api.OK
}

// Code returns the first greatest code.
func Code(g []int, k int) ([]int, api.Errno) {
	w, e := read(g, k)
	if e != api.OK {
		return nil, e
	}
	return w.first(), api.OK
}

// read returns the words of length k.
func read(g []int, k int) (words, api.Errno) {
	if !isGraph(g) || k < 1 || k > maxLength {
		return nil, api.ErrArg
	}
	w := near(g)
	for range k - 1 {
		if len(w)*len(g) > maxWords {
			return nil, api.ErrSize
		}
		w = pairs(w, near(g))
	}
	return w, api.OK
}

func (w words) isCode(code []int) bool {
	confused, last := uint64(0), -1
	for _, word := range code {
		if word <= last || word >= len(w) || confused>>word&1 == 1 {
			return false
		}
		confused |= w[word]
		last = word
	}
	return true
}

// first returns of the greatest codes the first one: a word is taken if the words after it can do the rest.
func (w words) first() []int {
	rest := ^uint64(0) >> (64 - len(w))
	left := w.most(rest)
	var code []int
	for word := range w {
		if rest>>word&1 == 0 {
			continue
		}
		if with := rest &^ w[word]; 1+w.most(with) == left {
			code = append(code, word)
			rest = with
			left--
		}
	}
	return code
}

// most returns how many words the greatest code within a set has.
func (w words) most(set uint64) int {
	if set == 0 {
		return 0
	}
	for rest := set; rest != 0; rest &= rest - 1 {
		word := bits.TrailingZeros64(rest)
		if w.isEnd(word, set) {
			return 1 + w.most(set&^w[word])
		}
	}
	word := bits.TrailingZeros64(set)
	return max(1+w.most(set&^w[word]), w.most(set&^(1<<word)))
}

// isEnd reports whether any two words near a word, within a set, are confused: some greatest code then has this word, as it can stand for any of them.
func (w words) isEnd(word int, set uint64) bool {
	around := w[word] & set
	for rest := around; rest != 0; rest &= rest - 1 {
		if around&^w[bits.TrailingZeros64(rest)] != 0 {
			return false
		}
	}
	return true
}
