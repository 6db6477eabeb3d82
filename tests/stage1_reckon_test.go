package tests

import (
	"testing"

	"loop.example/gauger/impl"
)

// justGiven is what an operation may give, pair by pair.
func justGiven(op int, a impl.Span, b impl.Span) impl.Span {
	var set uint32
	for x := a.Lo; a.Any && x <= a.Hi; x++ {
		for y := b.Lo; b.Any && y <= b.Hi; y++ {
			n, can := plainDo(op, x, y)
			if can && n != wrapped(n) {
				return span(lowWord, highWord)
			}
			if can {
				set |= bitOf(n)
			}
		}
	}
	return leastSpan(set)
}

// justWhen is of which words something is so, or not, pair by pair.
func justWhen(op int, a impl.Span, b impl.Span, yes bool) [2]impl.Span {
	var first, second uint32
	for x := a.Lo; a.Any && x <= a.Hi; x++ {
		for y := b.Lo; b.Any && y <= b.Hi; y++ {
			if n, _ := plainDo(op, x, y); (n != 0) == yes {
				first |= bitOf(x)
				second |= bitOf(y)
			}
		}
	}
	return [2]impl.Span{leastSpan(first), leastSpan(second)}
}

func when(op int, a impl.Span, b impl.Span, yes bool) [2]impl.Span {
	first, second := impl.SpanWhen(op, a, b, yes)
	return [2]impl.Span{first, second}
}

func TestP11DoIsJustWhatMayBeGiven(t *testing.T) {
	for _, op := range allOps() {
		for _, a := range okSpans() {
			for _, b := range okSpans() {
				if got, want := impl.SpanDo(op, a, b), justGiven(op, a, b); got != want {
					t.Fatalf("SpanDo(%d, %v, %v) = %v, not %v", op, a, b, got, want)
				}
			}
		}
	}
}

func TestP11DoAtTheEdges(t *testing.T) {
	all := span(-16, 15)
	for _, c := range []struct {
		op   int
		a, b impl.Span
		want impl.Span
	}{
		{impl.OpAdd, span(1, 14), span(1, 1), span(2, 15)},
		{impl.OpAdd, span(1, 15), span(1, 1), all},
		{impl.OpAdd, span(15, 15), span(1, 1), all},
		{impl.OpAdd, span(-16, -16), span(-1, 0), all},
		{impl.OpSub, span(-15, 0), span(1, 1), span(-16, -1)},
		{impl.OpSub, span(-16, 0), span(1, 1), all},
		{impl.OpSub, span(0, 0), span(-15, 15), span(-15, 15)},
		{impl.OpSub, span(0, 0), span(-16, 15), all},
		{impl.OpMul, span(-4, -4), span(-3, 4), span(-16, 12)},
		{impl.OpMul, span(-4, -4), span(-4, 4), all},
		{impl.OpMul, span(0, 0), all, span(0, 0)},
		{impl.OpDiv, span(-16, -16), span(-1, -1), all},
		{impl.OpDiv, span(-15, 15), span(-1, 1), span(-15, 15)},
		{impl.OpDiv, all, span(0, 0), none()},
		{impl.OpDiv, span(7, 9), span(0, 2), span(3, 9)},
		{impl.OpDiv, span(7, 9), span(-3, 0), span(-9, -2)},
		{impl.OpDiv, span(-16, -16), span(0, 3), span(-16, -5)},
		{impl.OpLess, span(0, 3), span(4, 6), span(1, 1)},
		{impl.OpLess, span(4, 6), span(0, 4), span(0, 0)},
		{impl.OpLess, span(0, 4), span(4, 6), span(0, 1)},
		{impl.OpSame, span(2, 2), span(2, 2), span(1, 1)},
		{impl.OpSame, span(0, 2), span(1, 1), span(0, 1)},
		{impl.OpSame, span(0, 2), span(3, 5), span(0, 0)},
	} {
		if got := impl.SpanDo(c.op, c.a, c.b); got != c.want {
			t.Errorf("SpanDo(%d, %v, %v) = %v, not %v", c.op, c.a, c.b, got, c.want)
		}
	}
}

func TestP11DoOfNoneBadSpansAndNoOpsIsNone(t *testing.T) {
	for _, op := range append(allOps(), noOps()...) {
		for _, s := range append(okSpans(), badSpans()...) {
			for _, bad := range append(badSpans(), none()) {
				if impl.SpanDo(op, bad, s) != none() || impl.SpanDo(op, s, bad) != none() {
					t.Fatalf("SpanDo(%d, ..) of %v and %v is not none", op, bad, s)
				}
			}
		}
	}
	for _, op := range noOps() {
		for _, a := range okSpans() {
			if impl.SpanDo(op, a, a) != none() || impl.SpanDo(op, a, span(-16, 15)) != none() {
				t.Fatalf("SpanDo(%d, %v, ..) is not none", op, a)
			}
		}
	}
}

// A span that is in another one comes to it word by word, so that it is
// enough to ask for one word more at each side.
func TestP12DoOfMoreIsNoLess(t *testing.T) {
	spans := okSpans()
	for _, op := range allOps() {
		table := placesTable(spans, func(a impl.Span, b impl.Span) impl.Span { return impl.SpanDo(op, a, b) })
		for i, a := range spans {
			for j, b := range spans {
				given := spans[table[i][j]]
				for _, more := range grownByOne(a) {
					if !impl.SpanIn(given, spans[table[placeOf(more)][j]]) {
						t.Fatalf("SpanDo(%d, %v, %v) says more than of %v", op, a, b, more)
					}
				}
				for _, more := range grownByOne(b) {
					if !impl.SpanIn(given, spans[table[i][placeOf(more)]]) {
						t.Fatalf("SpanDo(%d, %v, %v) says more than of %v", op, a, b, more)
					}
				}
			}
		}
	}
}

func TestP13WhenIsJustOfWhichThatIsSo(t *testing.T) {
	for _, op := range []int{impl.OpLess, impl.OpSame} {
		for _, yes := range []bool{true, false} {
			for _, a := range okSpans() {
				for _, b := range okSpans() {
					if got, want := when(op, a, b, yes), justWhen(op, a, b, yes); got != want {
						t.Fatalf("SpanWhen(%d, %v, %v, %v) = %v, not %v", op, a, b, yes, got, want)
					}
				}
			}
		}
	}
}

func TestP13WhenAtTheEnds(t *testing.T) {
	all := span(-16, 15)
	for _, c := range []struct {
		op            int
		a, b          impl.Span
		yes           bool
		first, second impl.Span
	}{
		{impl.OpLess, all, all, true, span(-16, 14), span(-15, 15)},
		{impl.OpLess, all, all, false, all, all},
		{impl.OpLess, span(0, 9), span(3, 5), false, span(3, 9), span(3, 5)},
		{impl.OpLess, span(4, 4), span(0, 9), true, span(4, 4), span(5, 9)},
		{impl.OpLess, span(4, 4), span(0, 9), false, span(4, 4), span(0, 4)},
		{impl.OpLess, span(5, 9), span(1, 5), true, none(), none()},
		{impl.OpLess, span(5, 9), span(1, 5), false, span(5, 9), span(1, 5)},
		{impl.OpLess, span(1, 4), span(5, 9), true, span(1, 4), span(5, 9)},
		{impl.OpLess, span(1, 4), span(5, 9), false, none(), none()},
		{impl.OpSame, all, all, true, all, all},
		{impl.OpSame, all, all, false, all, all},
		{impl.OpSame, span(0, 5), span(3, 9), true, span(3, 5), span(3, 5)},
		{impl.OpSame, span(0, 5), span(6, 9), true, none(), none()},
		{impl.OpSame, span(0, 5), span(6, 9), false, span(0, 5), span(6, 9)},
		{impl.OpSame, span(3, 3), span(3, 3), false, none(), none()},
		{impl.OpSame, span(0, 3), span(0, 0), false, span(1, 3), span(0, 0)},
		{impl.OpSame, span(-3, 0), span(0, 0), false, span(-3, -1), span(0, 0)},
		{impl.OpSame, span(-3, 3), span(0, 0), false, span(-3, 3), span(0, 0)},
		{impl.OpSame, span(15, 15), span(14, 15), false, span(15, 15), span(14, 14)},
		{impl.OpSame, span(-16, -16), span(-16, -15), false, span(-16, -16), span(-15, -15)},
	} {
		if got := when(c.op, c.a, c.b, c.yes); got != [2]impl.Span{c.first, c.second} {
			t.Errorf("SpanWhen(%d, %v, %v, %v) = %v, not %v, %v", c.op, c.a, c.b, c.yes, got, c.first, c.second)
		}
	}
}

func TestP13WhenOfNoneBadSpansAndOtherOpsIsNone(t *testing.T) {
	nothing := [2]impl.Span{}
	for _, yes := range []bool{true, false} {
		for _, op := range append(allOps(), noOps()...) {
			for _, s := range append(okSpans(), badSpans()...) {
				for _, bad := range append(badSpans(), none()) {
					if when(op, bad, s, yes) != nothing || when(op, s, bad, yes) != nothing {
						t.Fatalf("SpanWhen(%d, ..) of %v and %v, %v, is not none", op, bad, s, yes)
					}
				}
			}
		}
		for _, op := range append(noOps(), impl.OpAdd, impl.OpSub, impl.OpMul, impl.OpDiv) {
			for _, a := range okSpans() {
				if when(op, a, a, yes) != nothing || when(op, a, span(-16, 15), yes) != nothing {
					t.Fatalf("SpanWhen(%d, %v, .., %v) is not none", op, a, yes)
				}
			}
		}
	}
}

func TestP14WhenOfMoreIsNoLess(t *testing.T) {
	spans := okSpans()
	for _, op := range []int{impl.OpLess, impl.OpSame} {
		for _, yes := range []bool{true, false} {
			for _, side := range []int{0, 1} {
				table := placesTable(spans, func(a impl.Span, b impl.Span) impl.Span { return when(op, a, b, yes)[side] })
				for i, a := range spans {
					for j, b := range spans {
						is := spans[table[i][j]]
						for _, more := range grownByOne(a) {
							if !impl.SpanIn(is, spans[table[placeOf(more)][j]]) {
								t.Fatalf("SpanWhen(%d, %v, %v, %v) says more than of %v", op, a, b, yes, more)
							}
						}
						for _, more := range grownByOne(b) {
							if !impl.SpanIn(is, spans[table[i][placeOf(more)]]) {
								t.Fatalf("SpanWhen(%d, %v, %v, %v) says more than of %v", op, a, b, yes, more)
							}
						}
					}
				}
			}
		}
	}
}
