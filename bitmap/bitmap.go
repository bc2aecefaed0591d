// Package bitmap is layer 1: it keeps sets of small numbers in words of 64 bits.
package bitmap

import (
	"math/bits"

	"headgate/api"
)

// all is a word whose bits are all 1; shifts of it are the masks of ranges.
const (
	wordBits = 1 << 6
	all      = 1<<wordBits - 1
)

// The operations of Combine are numbered from 1 on.
const operations = 4

// New returns the set of the size n that has no numbers.
func New(n int) (api.Bits, api.Errno) {
	if n < 0 || n > api.MaxBits {
		return api.Bits{}, api.ErrRange
	}
	return empty(n), api.OK
}

// Check returns OK if the set is valid.
func Check(b api.Bits) api.Errno {
	if b.N < 0 || b.N > api.MaxBits {
		return api.ErrRange
	}
	if !fits(b) {
		return api.ErrForm
	}
	return api.OK
}

// Has returns whether the number i is in the set.
func Has(b api.Bits, i int) (bool, api.Errno) {
	if err := Check(b); err != api.OK {
		return false, err
	}
	if i < 0 || i >= b.N {
		return false, api.ErrRange
	}
	return b.W[i/wordBits]&mask(i/wordBits, i, i+1) != 0, api.OK
}

// Put returns the set in which the numbers from from to to - 1 are, or are not.
func Put(b api.Bits, from, to int, in bool) (api.Bits, api.Errno) {
	if err := checkPart(b, from, to); err != api.OK {
		return api.Bits{}, err
	}
	c := empty(b.N)
	for w := range c.W {
		if m := mask(w, from, to); in {
			c.W[w] = b.W[w] | m
		} else {
			c.W[w] = b.W[w] &^ m
		}
	}
	return c, api.OK
}

// Count returns how many of the numbers from from to to - 1 are in the set.
func Count(b api.Bits, from, to int) (int, api.Errno) {
	if err := checkPart(b, from, to); err != api.OK {
		return 0, err
	}
	n := 0
	for w := range b.W {
		n += bits.OnesCount64(b.W[w] & mask(w, from, to))
	}
	return n, api.OK
}

// Next returns the least number from from on that is in the set, or outside it.
func Next(b api.Bits, from int, in bool) (int, api.Errno) {
	if err := checkPart(b, from, b.N); err != api.OK {
		return 0, err
	}
	at := next(b, from, in)
	if at == b.N {
		return 0, api.ErrMissing
	}
	return at, api.OK
}

// Run returns the first number of the first aligned run of n numbers that are all in the set, or all outside it.
func Run(b api.Bits, n, align int, in bool) (int, api.Errno) {
	if err := Check(b); err != api.OK {
		return 0, err
	}
	if n < 1 || n > api.MaxBits || align < 1 || align > api.MaxBits {
		return 0, api.ErrRange
	}
	for at := 0; at+n <= b.N; {
		end := next(b, at, !in)
		if end-at >= n {
			return at, api.OK
		}
		// The number end interrupts each run that begins before it or at it.
		at = (end/align + 1) * align
	}
	return 0, api.ErrMissing
}

// Combine returns the numbers that are in a or b (1), in both (2), in a and not in b (3), in exactly one of them (4).
func Combine(a, b api.Bits, op int) (api.Bits, api.Errno) {
	if err := Check(a); err != api.OK {
		return api.Bits{}, err
	}
	if err := Check(b); err != api.OK {
		return api.Bits{}, err
	}
	if a.N != b.N || op < 1 || op > operations {
		return api.Bits{}, api.ErrRange
	}
	table := [operations]func(x, y uint64) uint64{
		func(x, y uint64) uint64 { return x | y },
		func(x, y uint64) uint64 { return x & y },
		func(x, y uint64) uint64 { return x &^ y },
		func(x, y uint64) uint64 { return x ^ y },
	}
	c := empty(a.N)
	for w := range c.W {
		c.W[w] = table[op-1](a.W[w], b.W[w])
	}
	return c, api.OK
}

// empty returns the set without numbers, for any n from 0 on: Parse also builds sets that are too large.
func empty(n int) api.Bits {
	return api.Bits{N: n, W: make([]uint64, words(n))}
}

// words returns how many words a set of the size n has.
func words(n int) int { return (n + wordBits - 1) / wordBits }

// fits returns whether the words of a set agree with its size.
func fits(b api.Bits) bool {
	if len(b.W) != words(b.N) {
		return false
	}
	last := len(b.W) - 1
	return last < 0 || b.W[last]&^mask(last, 0, b.N) == 0
}

// checkPart checks a set, and the numbers from from to to - 1 of it.
func checkPart(b api.Bits, from, to int) api.Errno {
	if err := Check(b); err != api.OK {
		return err
	}
	if from < 0 || from > to || to > b.N {
		return api.ErrRange
	}
	return api.OK
}

// mask returns the bits of the word w that belong to the numbers from from to to - 1.
func mask(w, from, to int) uint64 {
	low, high := uint(max(from-w*wordBits, 0)), uint(max(to-w*wordBits, 0))
	// A shift by 64 or more gives 0: so a range that begins or ends behind the word needs no case of its own.
	return uint64(all) << low &^ (uint64(all) << high)
}

// next returns the least number from from on that is in the set, or outside it; the size of the set if there is none.
func next(b api.Bits, from int, in bool) int {
	for w := from / wordBits; w < len(b.W); w++ {
		word := b.W[w]
		if !in {
			word = ^word
		}
		// Outside the set are also bits that belong to no number: the mask removes them.
		if word &= mask(w, from, b.N); word != 0 {
			return w*wordBits + bits.TrailingZeros64(word)
		}
	}
	return b.N
}
