package tests

import (
	"math/rand"
	"testing"

	"loop.example/gauger/impl"
)

// someTriples is states that are often in each other, in a row.
func someTriples(many int) [][3]impl.State {
	from := rand.New(rand.NewSource(7))
	var all [][3]impl.State
	for range many {
		a := someState(from)
		b := nearState(from, a)
		all = append(all, [3]impl.State{a, b, nearState(from, b)}, [3]impl.State{a, b, joinFine(b, someState(from))})
	}
	return all
}

func TestP35AllOfAStateIsOfMore(t *testing.T) {
	for _, pair := range statePairs() {
		a, b := pair[0], pair[1]
		more := []impl.State{impl.StateJoin(a, b), impl.StateJoin(b, a), impl.StateWide(a, b), impl.StateWide(b, a)}
		if impl.StateIn(a, b) {
			more = append(more, b)
		}
		for _, w := range cornersOf(a) {
			for at, s := range more {
				if !impl.StateHas(s, w.regs, w.cells) {
					t.Fatalf("%v, %v is of %+v, and, with %+v, not of %+v (%d)", w.regs, w.cells, a, b, s, at)
				}
			}
		}
	}
}

// P35 turned round: if one is not in the other, there are words to show it.
func TestP35NotInIsThatSomeWordsAreNotOfIt(t *testing.T) {
	for _, pair := range statePairs() {
		a, b := pair[0], pair[1]
		all := true
		for _, w := range cornersOf(a) {
			all = all && impl.StateHas(b, w.regs, w.cells)
		}
		if got := impl.StateIn(a, b); got != all {
			t.Fatalf("StateIn(%+v, %+v) is %t", a, b, got)
		}
	}
}

func TestP36InOfAllPairs(t *testing.T) {
	for _, pair := range statePairs() {
		a, b := pair[0], pair[1]
		if got := impl.StateIn(a, b); got != inFine(a, b) {
			t.Fatalf("StateIn(%+v, %+v) is %t", a, b, got)
		}
		if !impl.StateIn(a, a) || !impl.StateIn(b, b) {
			t.Fatalf("%+v or %+v is not in itself", a, b)
		}
		if impl.StateIn(a, b) && impl.StateIn(b, a) && !sameState(a, b) {
			t.Fatalf("%+v and %+v are in each other", a, b)
		}
	}
}

func TestP36InThatDiffersInOneSpanAlone(t *testing.T) {
	for at := range spansAll {
		for _, x := range okSpans()[1:] {
			for _, y := range okSpans()[1:] {
				a, b := with(differentSpans(), at, x), with(differentSpans(), at, y)
				if got := impl.StateIn(a, b); got != (y.Lo <= x.Lo && x.Hi <= y.Hi) {
					t.Fatalf("StateIn(%+v, %+v) is %t", a, b, got)
				}
			}
		}
	}
}

func TestP36InOfAThird(t *testing.T) {
	chains := 0
	for _, three := range someTriples(20000) {
		a, b, c := three[0], three[1], three[2]
		if impl.StateIn(a, b) && impl.StateIn(b, c) {
			chains++
			if !impl.StateIn(a, c) {
				t.Fatalf("%+v is in %+v, that in %+v", a, b, c)
			}
		}
	}
	if chains < 1000 {
		t.Errorf("only %d chains", chains)
	}
	for _, a := range edgeStates() {
		for _, b := range edgeStates() {
			for _, c := range edgeStates() {
				if impl.StateIn(a, b) && impl.StateIn(b, c) && !impl.StateIn(a, c) {
					t.Fatalf("%+v is in %+v, that in %+v", a, b, c)
				}
			}
		}
	}
}

func TestP36NoneIsInAllAndNothingElseIsInIt(t *testing.T) {
	for _, s := range edgeStates() {
		for _, empty := range []impl.State{noState(), {Regs: []impl.Span{}}} {
			if !impl.StateIn(empty, s) || impl.StateIn(s, empty) == s.Any {
				t.Errorf("none and %+v", s)
			}
		}
	}
}

func TestP37JoinOfAllPairs(t *testing.T) {
	for _, pair := range statePairs() {
		a, b := pair[0], pair[1]
		join := impl.StateJoin(a, b)
		if !impl.StateOk(join) || !sameState(join, joinFine(a, b)) {
			t.Fatalf("StateJoin(%+v, %+v) is %+v, not %+v", a, b, join, joinFine(a, b))
		}
		if !impl.StateIn(a, join) || !impl.StateIn(b, join) {
			t.Fatalf("%+v or %+v is not in StateJoin %+v", a, b, join)
		}
		if !sameState(join, impl.StateJoin(b, a)) || !sameState(impl.StateJoin(a, a), a) {
			t.Fatalf("StateJoin of %+v with %+v, or with itself", a, b)
		}
	}
}

func TestP37JoinIsInEachThatBothAreIn(t *testing.T) {
	for _, three := range someTriples(20000) {
		for at, c := range three {
			a, b := three[(at+1)%3], three[(at+2)%3]
			if impl.StateIn(a, c) && impl.StateIn(b, c) && !impl.StateIn(impl.StateJoin(a, b), c) {
				t.Fatalf("%+v and %+v are in %+v, StateJoin is not", a, b, c)
			}
		}
	}
	for _, pair := range statePairs() {
		least := impl.StateJoin(pair[0], pair[1])
		for at := 0; least.Any && at < spansAll; at++ {
			sp := spansOf(least)[at]
			for _, less := range []impl.Span{span(sp.Lo+1, sp.Hi), span(sp.Lo, sp.Hi-1)} {
				if s := with(least, at, less); impl.StateIn(pair[0], s) && impl.StateIn(pair[1], s) {
					t.Fatalf("%+v and %+v are in %+v", pair[0], pair[1], s)
				}
			}
		}
	}
}

func TestP37JoinThatDiffersInOneSpanAlone(t *testing.T) {
	eachSpanPair(t, impl.StateJoin, func(x impl.Span, y impl.Span) impl.Span {
		return span(min(x.Lo, y.Lo), max(x.Hi, y.Hi))
	})
}

// eachSpanPair holds what is made of two states, that differ in one span
// alone, against both, which makes it of that span.
func eachSpanPair(t *testing.T, made func(impl.State, impl.State) impl.State, both func(impl.Span, impl.Span) impl.Span) {
	t.Helper()
	for at := range spansAll {
		for _, x := range okSpans()[1:] {
			for _, y := range okSpans()[1:] {
				a, b := with(differentSpans(), at, x), with(differentSpans(), at, y)
				if got, want := made(a, b), with(differentSpans(), at, both(x, y)); !sameState(got, want) {
					t.Fatalf("of %+v and %+v is made %+v, not %+v", a, b, got, want)
				}
			}
		}
	}
}

func TestP37P38NoneAddsNothing(t *testing.T) {
	for _, s := range edgeStates() {
		for _, empty := range []impl.State{noState(), {Regs: []impl.Span{}}} {
			for at, got := range []impl.State{
				impl.StateJoin(s, empty), impl.StateJoin(empty, s), impl.StateWide(s, empty), impl.StateWide(empty, s),
			} {
				if !sameState(got, s) {
					t.Errorf("%+v with none is %+v (%d)", s, got, at)
				}
			}
		}
	}
}

func TestP38WideOfAllPairs(t *testing.T) {
	for _, pair := range statePairs() {
		a, b := pair[0], pair[1]
		wide := impl.StateWide(a, b)
		if !impl.StateOk(wide) || !sameState(wide, wideFine(a, b)) {
			t.Fatalf("StateWide(%+v, %+v) is %+v, not %+v", a, b, wide, wideFine(a, b))
		}
		if !impl.StateIn(impl.StateJoin(a, b), wide) {
			t.Fatalf("StateJoin of %+v and %+v is not in StateWide %+v", a, b, wide)
		}
		if impl.StateIn(b, a) && !sameState(wide, a) {
			t.Fatalf("%+v is in %+v, StateWide is %+v", b, a, wide)
		}
		if !sameState(impl.StateWide(a, a), a) {
			t.Fatalf("StateWide of %+v with itself is %+v", a, impl.StateWide(a, a))
		}
		growsRight(t, a, b, wide)
	}
}

// growsRight asks of each end that it stays, if it need not grow, and else is
// where an end may rest.
func growsRight(t *testing.T, a impl.State, b impl.State, wide impl.State) {
	t.Helper()
	for at := 0; a.Any && b.Any && at < spansAll; at++ {
		was, other, now := spansOf(a)[at], spansOf(b)[at], spansOf(wide)[at]
		low, high := now.Lo == was.Lo, now.Hi == was.Hi
		if other.Lo < was.Lo {
			low = now.Lo == 0 || now.Lo == -4 || now.Lo == lowWord
		}
		if other.Hi > was.Hi {
			high = now.Hi == 0 || now.Hi == 4 || now.Hi == highWord
		}
		if !low || !high {
			t.Fatalf("StateWide(%+v, %+v) is %+v", a, b, wide)
		}
	}
}

func TestP38WideThatDiffersInOneSpanAlone(t *testing.T) {
	eachSpanPair(t, impl.StateWide, func(x impl.Span, y impl.Span) impl.Span {
		return farSpan(x, y, span(min(x.Lo, y.Lo), max(x.Hi, y.Hi)))
	})
}

func TestP37P38GrowingOnEachSide(t *testing.T) {
	was := span(2, 3)
	for at := range spansAll {
		for _, c := range []struct{ other, join, wide impl.Span }{
			{span(2, 3), span(2, 3), span(2, 3)},
			{span(3, 3), span(2, 3), span(2, 3)},
			{span(1, 3), span(1, 3), span(0, 3)},
			{span(-2, 2), span(-2, 3), span(-4, 3)},
			{span(-5, -5), span(-5, 3), span(-16, 3)},
			{span(3, 4), span(2, 4), span(2, 4)},
			{span(5, 5), span(2, 5), span(2, 15)},
			{span(1, 4), span(1, 4), span(0, 4)},
			{span(-4, 6), span(-4, 6), span(-4, 15)},
			{span(-16, 15), span(-16, 15), span(-16, 15)},
		} {
			a, b := with(differentSpans(), at, was), with(differentSpans(), at, c.other)
			if got := impl.StateJoin(a, b); !sameState(got, with(a, at, c.join)) {
				t.Errorf("StateJoin(%+v, %+v) is %+v", a, b, got)
			}
			if got := impl.StateWide(a, b); !sameState(got, with(a, at, c.wide)) {
				t.Errorf("StateWide(%+v, %+v) is %+v", a, b, got)
			}
		}
	}
}

// What is first matters: of a the ends stay, not of b.
func TestP38WideAsksForAnOrder(t *testing.T) {
	small := state([spansAll]impl.Span{span(1, 2), span(1, 2), span(1, 2), span(1, 2)})
	great := state([spansAll]impl.Span{span(-5, 2), span(1, 6), span(-1, 3), span(1, 3)})
	far := state([spansAll]impl.Span{span(-16, 2), span(1, 15), span(-4, 4), span(1, 4)})
	if got := impl.StateWide(small, great); !sameState(got, far) {
		t.Errorf("StateWide of the small one first is %+v", got)
	}
	if got := impl.StateWide(great, small); !sameState(got, great) {
		t.Errorf("StateWide of the great one first is %+v", got)
	}
}
