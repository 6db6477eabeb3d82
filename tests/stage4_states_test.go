package tests

import (
	"math/rand"
	"slices"
	"testing"

	"loop.example/gauger/impl"
)

func TestOkOfStates(t *testing.T) {
	for _, pair := range statePairs() {
		for _, s := range pair {
			if !impl.StateOk(s) {
				t.Fatalf("%+v is not ok", s)
			}
		}
	}
	if !impl.StateOk(impl.State{Regs: []impl.Span{}}) {
		t.Error("none is not ok, if its list is empty, and not nil")
	}
}

func TestOkOfEachSpanAtEachPlace(t *testing.T) {
	for at := range spansAll {
		for _, sp := range append(okSpans(), badSpans()...) {
			s := with(differentSpans(), at, sp)
			if got := impl.StateOk(s); got != stateFine(s) {
				t.Errorf("StateOk of %+v is %t", s, got)
			}
		}
	}
}

func TestWhatIsNotOkIsRefused(t *testing.T) {
	for _, bad := range badStates() {
		if impl.StateOk(bad.s) || stateFine(bad.s) {
			t.Errorf("%s: %+v is ok", bad.name, bad.s)
		}
		for _, pair := range [][2]impl.State{
			{bad.s, noState()}, {noState(), bad.s}, {bad.s, differentSpans()}, {differentSpans(), bad.s}, {bad.s, bad.s},
		} {
			refusesPair(t, bad.name, pair)
		}
		for _, other := range badStates() {
			refusesPair(t, bad.name+", "+other.name, [2]impl.State{bad.s, other.s})
		}
	}
}

// refusesPair asks for the answers at two states of which one is not ok.
func refusesPair(t *testing.T, name string, pair [2]impl.State) {
	t.Helper()
	a, b := pair[0], pair[1]
	if impl.StateIn(a, b) {
		t.Errorf("%s: %+v is in %+v", name, a, b)
	}
	if got := impl.StateJoin(a, b); !sameState(got, noState()) {
		t.Errorf("%s: StateJoin of %+v and %+v is %+v", name, a, b, got)
	}
	if got := impl.StateWide(a, b); !sameState(got, noState()) {
		t.Errorf("%s: StateWide of %+v and %+v is %+v", name, a, b, got)
	}
}

func TestP34HasOfWhatIsNotOk(t *testing.T) {
	for _, bad := range badStates() {
		for _, w := range append(cornersOf(differentSpans()), words{make([]int, regsAll), make([]int, cellsAll)}) {
			if impl.StateHas(bad.s, w.regs, w.cells) {
				t.Errorf("%s: %+v has %v", bad.name, bad.s, w)
			}
			// As many words as there are registers, if one asked for no more.
			regs := append(slices.Clone(w.regs), make([]int, 9)...)[:len(bad.s.Regs)]
			if impl.StateHas(bad.s, regs, w.cells) {
				t.Errorf("%s: %+v has %v, %v", bad.name, bad.s, regs, w.cells)
			}
		}
		if impl.StateHas(bad.s, nil, nil) {
			t.Errorf("%s: %+v has no words", bad.name, bad.s)
		}
	}
}

func TestP34NoneHasNothing(t *testing.T) {
	for n := lowWord; n <= highWord; n++ {
		list := []int{n, n, n}
		for _, s := range []impl.State{noState(), {Regs: []impl.Span{}}} {
			if impl.StateHas(s, list, list) || impl.StateHas(s, nil, nil) || impl.StateHas(s, nil, list) || impl.StateHas(s, nil, []int{0, 0, 0}) {
				t.Fatalf("none has %d, or no words", n)
			}
		}
	}
}

func TestP34EachWordAtEachPlace(t *testing.T) {
	base := differentSpans()
	for at := range regsAll + cellsAll {
		place := min(at, regsAll)
		for _, sp := range okSpans() {
			s := with(base, place, sp)
			// Other cells must stay within the span of cells, whichever it is.
			first := words{[]int{-5, 0, 2}, []int{s.Cells.Lo, s.Cells.Hi, s.Cells.Lo}}
			if place < regsAll {
				first.regs[place] = sp.Lo
			}
			for n := lowWord - 2; n <= highWord+2; n++ {
				w := first.withWord(at, n)
				if got, want := impl.StateHas(s, w.regs, w.cells), sp.Any && sp.Lo <= n && n <= sp.Hi; got != want {
					t.Fatalf("StateHas(%+v, %v, %v) is %t", s, w.regs, w.cells, got)
				}
			}
			for _, n := range noWords() {
				if w := first.withWord(at, n); impl.StateHas(s, w.regs, w.cells) {
					t.Fatalf("%+v has %v, %v", s, w.regs, w.cells)
				}
			}
		}
	}
}

func TestP34CornersAndOnePastThem(t *testing.T) {
	for _, pair := range statePairs() {
		s := pair[0]
		for _, w := range cornersOf(s) {
			if !impl.StateHas(s, w.regs, w.cells) {
				t.Fatalf("%+v has not %v, %v", s, w.regs, w.cells)
			}
		}
		for at := 0; s.Any && at < regsAll+cellsAll; at++ {
			sp := spansOf(s)[min(at, regsAll)]
			for _, n := range []int{sp.Lo - 1, sp.Hi + 1} {
				if w := cornersOf(s)[0].withWord(at, n); impl.StateHas(s, w.regs, w.cells) {
					t.Fatalf("%+v has %v, %v", s, w.regs, w.cells)
				}
			}
		}
	}
}

func TestP34AnyWords(t *testing.T) {
	from := rand.New(rand.NewSource(6))
	for _, pair := range someStatePairs(20000) {
		for _, s := range pair {
			regs, cells := someWords(from), someWords(from)
			if got := impl.StateHas(s, regs[:], cells[:]); got != hasFine(s, regs[:], cells[:]) {
				t.Fatalf("StateHas(%+v, %v, %v) is %t", s, regs, cells, got)
			}
		}
	}
}

func TestP34TooFewAndTooManyWords(t *testing.T) {
	wide := state([spansAll]impl.Span{span(-16, 15), span(-16, 15), span(-16, 15), span(-16, 15)})
	for regs := range 9 {
		for cells := range 9 {
			got := impl.StateHas(wide, make([]int, regs), make([]int, cells))
			if got != (regs == 3 && cells == 3) {
				t.Errorf("%d registers and %d cells: StateHas is %t", regs, cells, got)
			}
		}
	}
	if impl.StateHas(wide, nil, nil) || impl.StateHas(wide, nil, make([]int, 3)) || impl.StateHas(wide, make([]int, 3), nil) {
		t.Error("a state has no words")
	}
	// Spare room behind a list is not of it.
	if impl.StateHas(wide, make([]int, 2, 3), make([]int, 3)) || impl.StateHas(wide, make([]int, 3), make([]int, 2, 3)) {
		t.Error("a state has words behind the end")
	}
}

func TestP34RegistersAreAtTheirPlaces(t *testing.T) {
	s := state([spansAll]impl.Span{span(1, 1), span(2, 2), span(3, 3), span(4, 5)})
	for n := range 1000 {
		regs := []int{n / 100, n / 10 % 10, n % 10}
		if got := impl.StateHas(s, regs, []int{4, 5, 4}); got != (n == 123) {
			t.Errorf("%v: StateHas is %t", regs, got)
		}
		if got := impl.StateHas(s, []int{1, 2, 3}, regs); got != (inRange(regs[0], 4, 5) && inRange(regs[1], 4, 5) && inRange(regs[2], 4, 5)) {
			t.Errorf("cells %v: StateHas is %t", regs, got)
		}
	}
}

func TestP39EntryOfEachKind(t *testing.T) {
	for kind := range 3 {
		s := impl.StateEntry(kind)
		if !impl.StateOk(s) || !s.Any || !slices.Equal(s.Regs, []impl.Span{kindWords(kind), span(0, 0), span(0, 0)}) || s.Cells != span(0, 0) {
			t.Errorf("StateEntry(%d) is %+v", kind, s)
		}
	}
}

func TestP39EntryHasJustTheWordsOfTheKind(t *testing.T) {
	for kind := range 3 {
		s := impl.StateEntry(kind)
		for n := lowWord - 3; n <= highWord+3; n++ {
			of := n >= lowWord && n < 0 && kind == impl.KindLess || n == 0 && kind == impl.KindZero || n > 0 && n <= highWord && kind == impl.KindMore
			if got := impl.StateHas(s, []int{n, 0, 0}, []int{0, 0, 0}); got != of {
				t.Errorf("StateEntry(%d) has %d: %t", kind, n, got)
			}
			for at := 1; at < regsAll+cellsAll; at++ {
				arg := kindWords(kind).Lo
				w := words{[]int{arg, 0, 0}, []int{0, 0, 0}}.withWord(at, n)
				if got := impl.StateHas(s, w.regs, w.cells); got != (n == 0) {
					t.Errorf("StateEntry(%d) has %v, %v: %t", kind, w.regs, w.cells, got)
				}
			}
		}
	}
}

func TestP39EntryOfNoKind(t *testing.T) {
	for _, kind := range noKinds() {
		if s := impl.StateEntry(kind); !sameState(s, noState()) {
			t.Errorf("StateEntry(%d) is %+v", kind, s)
		}
	}
}

// A call of a run begins in the entry of its word's kind, and in no other one.
func TestP39EntryHasEachCallThatBegins(t *testing.T) {
	call := prog(code(ins(impl.InsSet, 0, 0, 0), ins(impl.InsCall, 0, 0, 0)))
	for n := lowWord; n <= highWord; n++ {
		call[0].Code[0].B = n
		r := impl.RunGo(call, nil, 2)
		f := lastFrame(r)
		for kind := range 3 {
			if got := impl.StateHas(impl.StateEntry(kind), f.Regs, f.Cells); len(r.Frames) != 2 || got != slices.Contains(wordsOf(kindWords(kind)), n) {
				t.Errorf("a call with %d, kind %d: %t", n, kind, got)
			}
		}
	}
}
