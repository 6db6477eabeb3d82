package tests

import (
	"math"
	"slices"
	"testing"

	"loop.example/gauger/impl"
)

func TestSpanOk(t *testing.T) {
	for _, s := range okSpans() {
		if !impl.SpanOk(s) {
			t.Errorf("%v is not ok", s)
		}
	}
	for _, s := range badSpans() {
		if impl.SpanOk(s) {
			t.Errorf("%v is ok", s)
		}
	}
}

func TestP4SpanOfHasItsWordAlone(t *testing.T) {
	for n := lowWord; n <= highWord; n++ {
		s := impl.SpanOf(n)
		if s != span(n, n) {
			t.Errorf("SpanOf(%d) = %v", n, s)
		}
		for m := -100; m <= 100; m++ {
			if impl.SpanHas(s, m) != (m == n) {
				t.Errorf("SpanOf(%d) has %d: %v", n, m, m != n)
			}
		}
	}
	for _, n := range noWords() {
		if s := impl.SpanOf(n); s != none() {
			t.Errorf("SpanOf(%d) = %v, not none", n, s)
		}
	}
}

func TestSpanHas(t *testing.T) {
	for _, s := range okSpans() {
		for n := lowWord; n <= highWord; n++ {
			if impl.SpanHas(s, n) != slices.Contains(wordsOf(s), n) {
				t.Fatalf("SpanHas(%v, %d)", s, n)
			}
		}
		for _, n := range noWords() {
			if impl.SpanHas(s, n) {
				t.Fatalf("SpanHas(%v, %d), which is no word", s, n)
			}
		}
	}
	for _, s := range badSpans() {
		for n := -20; n <= 20; n++ {
			if impl.SpanHas(s, n) {
				t.Fatalf("SpanHas(%v, %d), which is not ok", s, n)
			}
		}
		for _, n := range noWords() {
			if impl.SpanHas(s, n) {
				t.Fatalf("SpanHas(%v, %d), which is not ok", s, n)
			}
		}
	}
}

func TestP5SpanInIsEachWord(t *testing.T) {
	for _, a := range okSpans() {
		for _, b := range okSpans() {
			want := setOf(a)&^setOf(b) == 0
			if got := impl.SpanIn(a, b); got != want {
				t.Fatalf("SpanIn(%v, %v) = %v", a, b, got)
			}
		}
	}
	for _, bad := range badSpans() {
		for _, s := range append(okSpans(), badSpans()...) {
			if impl.SpanIn(bad, s) || impl.SpanIn(s, bad) {
				t.Fatalf("%v, which is not ok, and %v: SpanIn", bad, s)
			}
		}
	}
}

func TestP6JoinIsTheLeastWithBoth(t *testing.T) {
	spans := okSpans()
	within := withinTable(spans)
	for i, a := range spans {
		for j, b := range spans {
			join := impl.SpanJoin(a, b)
			if join != leastSpan(setOf(a)|setOf(b)) {
				t.Fatalf("SpanJoin(%v, %v) = %v", a, b, join)
			}
			k := placeOf(join)
			if !within[i][k] || !within[j][k] {
				t.Fatalf("%v or %v is not in SpanJoin %v", a, b, join)
			}
			for m, c := range spans {
				if within[i][m] && within[j][m] && !within[k][m] {
					t.Fatalf("%v and %v are in %v, SpanJoin %v is not", a, b, c, join)
				}
			}
		}
	}
}

func withinTable(spans []impl.Span) [][]bool {
	table := make([][]bool, len(spans))
	for i, a := range spans {
		for _, b := range spans {
			table[i] = append(table[i], impl.SpanIn(a, b))
		}
	}
	return table
}

func TestP7MeetHasJustWhatBothHave(t *testing.T) {
	for _, a := range okSpans() {
		for _, b := range okSpans() {
			meet := impl.SpanMeet(a, b)
			if !impl.SpanOk(meet) || setOf(meet) != setOf(a)&setOf(b) {
				t.Fatalf("SpanMeet(%v, %v) = %v", a, b, meet)
			}
		}
	}
}

func TestP8JoinAndMeetSwallowEachOther(t *testing.T) {
	for _, a := range okSpans() {
		for _, b := range okSpans() {
			join, meet := impl.SpanJoin(a, b), impl.SpanMeet(a, b)
			if impl.SpanJoin(a, meet) != a || impl.SpanMeet(a, join) != a {
				t.Fatalf("%v and %v do not swallow each other", a, b)
			}
			if join != impl.SpanJoin(b, a) || meet != impl.SpanMeet(b, a) {
				t.Fatalf("%v and %v ask for an order", a, b)
			}
		}
	}
}

func TestP8JoinAndMeetOfThreeAskForNoOrder(t *testing.T) {
	spans := okSpans()
	for _, f := range []func(impl.Span, impl.Span) impl.Span{impl.SpanJoin, impl.SpanMeet} {
		table := placesTable(spans, f)
		for i := range spans {
			for j := range spans {
				for k := range spans {
					if table[table[i][j]][k] != table[i][table[j][k]] {
						t.Fatalf("%v, %v, %v: brackets change something", spans[i], spans[j], spans[k])
					}
				}
			}
		}
	}
}

// placesTable has the places of what f answers, as three spans are too many to be asked each time.
func placesTable(spans []impl.Span, f func(impl.Span, impl.Span) impl.Span) [][]int {
	table := make([][]int, len(spans))
	for i, a := range spans {
		for _, b := range spans {
			table[i] = append(table[i], placeOf(f(a, b)))
		}
	}
	return table
}

func TestJoinMeetAndWideOfBadSpansAreNone(t *testing.T) {
	for _, bad := range badSpans() {
		for _, s := range append(okSpans(), badSpans()...) {
			for _, f := range []func(impl.Span, impl.Span) impl.Span{impl.SpanJoin, impl.SpanMeet, impl.SpanWide} {
				if f(bad, s) != none() || f(s, bad) != none() {
					t.Fatalf("%v, which is not ok, and %v: %v, %v", bad, s, f(bad, s), f(s, bad))
				}
			}
		}
	}
}

func TestP9WideHasTheJoinAndWhatDoesNotGrowStays(t *testing.T) {
	for _, a := range okSpans() {
		for _, b := range okSpans() {
			join, wide := impl.SpanJoin(a, b), impl.SpanWide(a, b)
			if !impl.SpanIn(join, wide) {
				t.Fatalf("SpanJoin %v is not in SpanWide(%v, %v) = %v", join, a, b, wide)
			}
			if join == a && wide != a {
				t.Fatalf("SpanWide(%v, %v) = %v", a, b, wide)
			}
			if wide != farSpan(a, b, join) {
				t.Fatalf("SpanWide(%v, %v) = %v, not %v", a, b, wide, farSpan(a, b, join))
			}
		}
	}
}

// farSpan looks for each end that grows from the nearest resting place on.
func farSpan(a impl.Span, b impl.Span, join impl.Span) impl.Span {
	if !a.Any || !b.Any {
		return join
	}
	far := join
	if join.Lo < a.Lo {
		rests := []int{0, -4, lowWord}
		far.Lo = rests[slices.IndexFunc(rests, func(n int) bool { return n <= join.Lo })]
	}
	if join.Hi > a.Hi {
		rests := []int{0, 4, highWord}
		far.Hi = rests[slices.IndexFunc(rests, func(n int) bool { return n >= join.Hi })]
	}
	return far
}

func TestP9WideAtTheEdges(t *testing.T) {
	for _, c := range [][3]impl.Span{
		{span(3, 5), span(2, 5), span(0, 5)},
		{span(3, 5), span(0, 0), span(0, 5)},
		{span(3, 5), span(-1, 4), span(-4, 5)},
		{span(3, 5), span(-4, 4), span(-4, 5)},
		{span(3, 5), span(-5, 4), span(-16, 5)},
		{span(-9, -5), span(-4, -4), span(-9, 0)},
		{span(-9, -5), span(0, 0), span(-9, 0)},
		{span(-9, -5), span(1, 1), span(-9, 4)},
		{span(-9, -5), span(4, 4), span(-9, 4)},
		{span(-9, -5), span(5, 5), span(-9, 15)},
		{span(1, 1), span(-16, 15), span(-16, 15)},
		{span(-16, 15), span(1, 1), span(-16, 15)},
		{none(), span(2, 3), span(2, 3)},
		{span(2, 3), none(), span(2, 3)},
		{none(), none(), none()},
	} {
		if got := impl.SpanWide(c[0], c[1]); got != c[2] {
			t.Errorf("SpanWide(%v, %v) = %v, not %v", c[0], c[1], got, c[2])
		}
	}
}

func TestP10WideChangesSevenTimesAtMost(t *testing.T) {
	spans := okSpans()
	table := placesTable(spans, impl.SpanWide)
	known := make([]int, len(spans))
	var changes func(i int, ahead int) int
	changes = func(i int, ahead int) int {
		if ahead > 7 {
			t.Fatalf("SpanWide changes a span more than seven times, %v being one of them", spans[i])
		}
		if known[i] > 0 {
			return known[i]
		}
		most := 0
		for _, next := range table[i] {
			if next != i {
				most = max(most, changes(next, ahead+1)+1)
			}
		}
		known[i] = most
		return most
	}
	for i, s := range spans {
		if n := changes(i, 0); n > 7 {
			t.Errorf("from %v on SpanWide changes %d times", s, n)
		}
	}
	if n := changes(0, 0) + 1; n > 7 {
		t.Errorf("from a span that is not ok on SpanWide changes %d times", n)
	}
}

func TestP15KindsAreJustThoseOfTheWords(t *testing.T) {
	for _, s := range okSpans() {
		var want []int
		for kind, is := range []func(int) bool{
			func(n int) bool { return n < 0 },
			func(n int) bool { return n == 0 },
			func(n int) bool { return n > 0 },
		} {
			if slices.ContainsFunc(wordsOf(s), is) {
				want = append(want, kind)
			}
		}
		if got := impl.SpanKinds(s); !slices.Equal(got, want) {
			t.Errorf("SpanKinds(%v) = %v, not %v", s, got, want)
		}
	}
	for _, s := range badSpans() {
		if got := impl.SpanKinds(s); len(got) != 0 {
			t.Errorf("SpanKinds(%v) = %v", s, got)
		}
	}
}

func TestP15EachWordIsOfOneKind(t *testing.T) {
	for kind, want := range []impl.Span{span(-16, -1), span(0, 0), span(1, 15)} {
		if got := impl.KindSpan(kind); got != want {
			t.Errorf("KindSpan(%d) = %v", kind, got)
		}
	}
	for n := lowWord; n <= highWord; n++ {
		count := 0
		for kind := -5; kind <= 5; kind++ {
			if impl.SpanHas(impl.KindSpan(kind), n) {
				count++
			}
		}
		if count != 1 {
			t.Errorf("%d is of %d kinds", n, count)
		}
	}
	for _, kind := range []int{math.MinInt, -1, 3, 4, math.MaxInt} {
		if got := impl.KindSpan(kind); got != none() {
			t.Errorf("KindSpan(%d) = %v, not none", kind, got)
		}
	}
}

func TestKindsAreNewMemory(t *testing.T) {
	first := impl.SpanKinds(span(-1, 1))
	second := impl.SpanKinds(span(-1, 1))
	for i := range first[:cap(first)] {
		first[:cap(first)][i] = 99
	}
	if !slices.Equal(second, []int{0, 1, 2}) || !slices.Equal(impl.SpanKinds(span(-1, 1)), []int{0, 1, 2}) {
		t.Error("what is written into an answer of SpanKinds is seen in another one")
	}
}
