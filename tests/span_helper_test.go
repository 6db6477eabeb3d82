package tests

import (
	"math"

	"loop.example/gauger/impl"
)

// What is held against the program here is written down anew, word by word and
// with numbers of its own, so that a slip in the program is not repeated.
const (
	lowWord  = -16
	highWord = 15
	wordsAll = 32
)

func span(lo int, hi int) impl.Span {
	return impl.Span{Any: true, Lo: lo, Hi: hi}
}

func none() impl.Span {
	return impl.Span{}
}

func allOps() []int {
	return []int{1, 2, 3, 4, 5, 6}
}

func noOps() []int {
	return []int{math.MinInt, -1, 0, 7, 8, math.MaxInt}
}

func noWords() []int {
	return []int{math.MinInt, -1000, -48, -33, -32, -17, 16, 17, 31, 32, 48, 1000, math.MaxInt}
}

// okSpans is none first, then all others.
func okSpans() []impl.Span {
	all := []impl.Span{none()}
	for lo := lowWord; lo <= highWord; lo++ {
		for hi := lo; hi <= highWord; hi++ {
			all = append(all, span(lo, hi))
		}
	}
	return all
}

func badSpans() []impl.Span {
	return []impl.Span{
		{Any: false, Lo: 1, Hi: 0},
		{Any: false, Lo: 0, Hi: 1},
		{Any: false, Lo: -3, Hi: 4},
		{Any: false, Lo: 1, Hi: 1},
		span(1, 0),
		span(15, -16),
		span(-17, 0),
		span(-17, -17),
		span(0, 16),
		span(16, 16),
		span(-17, 16),
		span(math.MinInt, math.MaxInt),
		span(math.MaxInt, math.MinInt),
		span(math.MinInt, 0),
		span(0, math.MaxInt),
	}
}

// wordsOf is all words of an ok span.
func wordsOf(s impl.Span) []int {
	var words []int
	if !s.Any {
		return words
	}
	for n := s.Lo; n <= s.Hi; n++ {
		words = append(words, n)
	}
	return words
}

// setOf has a bit of each word of an ok span.
func setOf(s impl.Span) uint32 {
	var set uint32
	for _, n := range wordsOf(s) {
		set |= bitOf(n)
	}
	return set
}

func bitOf(n int) uint32 {
	return 1 << (n - lowWord)
}

// leastSpan is the least span with all words of a set.
func leastSpan(set uint32) impl.Span {
	least := none()
	for n := lowWord; n <= highWord; n++ {
		if set&bitOf(n) == 0 {
			continue
		}
		if !least.Any {
			least = span(n, n)
		}
		least.Hi = n
	}
	return least
}

// wrapped goes round step by step, until it is at a word.
func wrapped(n int) int {
	for n < lowWord {
		n += wordsAll
	}
	for n > highWord {
		n -= wordsAll
	}
	return n
}

// plainDo is an operation of numbers, not wrapped; false, if it cannot be.
func plainDo(op int, a int, b int) (int, bool) {
	switch op {
	case 1:
		return a + b, true
	case 2:
		return a - b, true
	case 3:
		return a * b, true
	case 4:
		return quotient(a, b)
	case 5:
		return truth(a < b), true
	case 6:
		return truth(a == b), true
	}
	return 0, false
}

func truth(yes bool) int {
	if yes {
		return 1
	}
	return 0
}

// quotient counts how often b goes into a, towards 0.
func quotient(a int, b int) (int, bool) {
	if b == 0 {
		return 0, false
	}
	size := func(n int) int { return max(n, -n) }
	count := 0
	for left := size(a); left >= size(b); left -= size(b) {
		count++
	}
	if (a < 0) != (b < 0) {
		return -count, true
	}
	return count, true
}

// grownByOne is the spans with one word more than s.
func grownByOne(s impl.Span) []impl.Span {
	var more []impl.Span
	if !s.Any {
		for n := lowWord; n <= highWord; n++ {
			more = append(more, span(n, n))
		}
		return more
	}
	if s.Lo > lowWord {
		more = append(more, span(s.Lo-1, s.Hi))
	}
	if s.Hi < highWord {
		more = append(more, span(s.Lo, s.Hi+1))
	}
	return more
}

// placeOf is where an ok span is among okSpans.
func placeOf(s impl.Span) int {
	if !s.Any {
		return 0
	}
	from := s.Lo - lowWord
	ahead := from*wordsAll - from*(from-1)/2
	return 1 + ahead + s.Hi - s.Lo
}
