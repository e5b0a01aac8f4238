// Package bitset: sets of numbers: see doc/01-bitset.md.
package bitset

import (
	"math/bits"

	"haruspex/api"
)

const (
	wordBits = 64
	words    = (api.MaxSet + wordBits - 1) / wordBits
)

// Set is a set of numbers from 0 to api.MaxSet - 1; its zero value is empty.
// The words are an array, not a slice, so that a Set that is copied as a value shares nothing with its origin.
type Set struct {
	word [words]uint64
}

// may tells whether n may be in a set at all.
func may(n int) bool { return 0 <= n && n < api.MaxSet }

// place gives the word and the bit of a number that may be in a set.
func place(n int) (int, uint64) { return n / wordBits, 1 << (n % wordBits) }

// Of gives a new set of those numbers of l that may be in one.
func Of(l ...int) *Set {
	s := &Set{}
	for _, n := range l {
		s.Add(n)
	}
	return s
}

// Add puts n in and tells whether that has changed s.
func (s *Set) Add(n int) bool {
	if s == nil || !may(n) || s.Has(n) {
		return false
	}
	k, bit := place(n)
	s.word[k] |= bit
	return true
}

// Remove takes n out and tells whether that has changed s.
func (s *Set) Remove(n int) bool {
	if !s.Has(n) {
		return false
	}
	k, bit := place(n)
	s.word[k] &^= bit
	return true
}

// Has tells whether n is in s.
func (s *Set) Has(n int) bool {
	if s == nil || !may(n) {
		return false
	}
	k, bit := place(n)
	return s.word[k]&bit != 0
}

// Len gives how many numbers are in s.
func (s *Set) Len() int {
	if s == nil {
		return 0
	}
	count := 0
	for _, w := range s.word {
		count += bits.OnesCount64(w)
	}
	return count
}

// All gives the numbers of s, rising.
func (s *Set) All() []int {
	l := make([]int, 0, s.Len())
	for n := s.First(0); n >= 0; n = s.First(n + 1) {
		l = append(l, n)
	}
	return l
}

// Join puts all of t into s and tells whether that has changed s.
func (s *Set) Join(t *Set) bool {
	if s == nil || t.In(s) {
		return false
	}
	for k, w := range t.word {
		s.word[k] |= w
	}
	return true
}

// Less gives a new set of those of s that are not in t.
func (s *Set) Less(t *Set) *Set {
	r := s.Copy()
	if t == nil {
		return r
	}
	for k, w := range t.word {
		r.word[k] &^= w
	}
	return r
}

// Meet gives a new set of those of s that are in t.
func (s *Set) Meet(t *Set) *Set {
	if t == nil {
		return &Set{}
	}
	r := s.Copy()
	for k, w := range t.word {
		r.word[k] &= w
	}
	return r
}

// Eq tells whether s and t have the same numbers.
func (s *Set) Eq(t *Set) bool { return s.In(t) && t.In(s) }

// In tells whether each number of s is in t.
func (s *Set) In(t *Set) bool {
	if s == nil {
		return true
	}
	if t == nil {
		return s.Len() == 0
	}
	for k, w := range s.word {
		if w&^t.word[k] != 0 {
			return false
		}
	}
	return true
}

// Copy gives a new set with the numbers of s.
func (s *Set) Copy() *Set {
	r := &Set{}
	if s != nil {
		r.word = s.word
	}
	return r
}

// First gives the least number of s that is not below from, or -1.
func (s *Set) First(from int) int {
	if s == nil || from >= api.MaxSet {
		return -1
	}
	k, bit := place(max(from, 0))
	// bit - 1 has the bits below from: only the first word is to be cut.
	w := s.word[k] &^ (bit - 1)
	for w == 0 {
		k++
		if k == words {
			return -1
		}
		w = s.word[k]
	}
	return k*wordBits + bits.TrailingZeros64(w)
}
