package tests

import (
	"math/rand"
	"slices"
	"testing"

	"loop.example/gauger/impl"
)

func TestP42P43NextOfEachInstruction(t *testing.T) {
	led := 0
	for _, g := range flowGivens() {
		got, want := g.next(), flowsFine(g.p, g.sums, g.proc, g.at, g.s)
		if !sameFlows(got, want) {
			t.Fatalf("%v, by %+v, at %d of %d, from %+v leads to %+v, not %+v", g.p, g.sums, g.at, g.proc, g.s, got, want)
		}
		led += len(got)
	}
	if led < 10000 {
		t.Errorf("only %d flows", led)
	}
}

// flowWant is where an instruction leads, and with which spans.
type flowWant struct {
	to    int
	spans [spansAll]impl.Span
}

// flowCase is an instruction, at place 0 of three, with the spans that are there.
type flowCase struct {
	i    impl.Ins
	was  [spansAll]impl.Span
	want []flowWant
}

// one is a single flow, to the next place.
func one(spans ...impl.Span) []flowWant {
	return []flowWant{{1, [spansAll]impl.Span(spans)}}
}

func checkFlows(t *testing.T, sums []impl.Sum, cases []flowCase) {
	t.Helper()
	for _, c := range cases {
		var want []impl.Flow
		for _, w := range c.want {
			want = append(want, impl.Flow{To: w.to, State: state(w.spans)})
		}
		p := insProg(c.i, 0, 3)
		if got := impl.FlowNext(p, sums, 0, 0, state(c.was)); !sameFlows(got, want) {
			t.Errorf("%v from %+v leads to %+v, not %+v", c.i, c.was, got, want)
		}
	}
}

func TestP42NextOfSetMoveAskAndGo(t *testing.T) {
	a, b, c, cells := span(-5, -2), span(0, 3), span(2, 9), span(-1, 6)
	was := [spansAll]impl.Span{a, b, c, cells}
	checkFlows(t, nil, []flowCase{
		{ins(impl.InsSet, 0, -16, 0), was, one(span(-16, -16), b, c, cells)},
		{ins(impl.InsSet, 1, 15, 0), was, one(a, span(15, 15), c, cells)},
		{ins(impl.InsSet, 2, 0, 0), was, one(a, b, span(0, 0), cells)},
		{ins(impl.InsMove, 0, 1, 0), was, one(b, b, c, cells)},
		{ins(impl.InsMove, 1, 0, 0), was, one(a, a, c, cells)},
		{ins(impl.InsMove, 2, 1, 0), was, one(a, b, b, cells)},
		{ins(impl.InsMove, 1, 1, 0), was, one(a, b, c, cells)},
		{ins(impl.InsAsk, 0, 0, 0), was, one(span(0, 0), b, c, cells)},
		{ins(impl.InsAsk, 2, 15, 0), was, one(a, b, span(0, 15), cells)},
		{ins(impl.InsAsk, 1, 7, 0), was, one(a, span(0, 7), c, cells)},
		{ins(impl.InsGo, 0, 0, 0), was, []flowWant{{0, was}}},
		{ins(impl.InsGo, 0, 0, 1), was, []flowWant{{1, was}}},
		{ins(impl.InsGo, 0, 0, 3), was, []flowWant{{3, was}}},
		{ins(impl.InsBack, 0, 0, 0), was, nil},
	})
}

func TestP42NextOfDo(t *testing.T) {
	c, cells := span(-7, 7), span(1, 6)
	checkFlows(t, nil, []flowCase{
		{ins(impl.InsDo, 0, 1, impl.OpAdd), [4]impl.Span{span(1, 3), span(10, 12), c, cells}, one(span(11, 15), span(10, 12), c, cells)},
		{ins(impl.InsDo, 0, 1, impl.OpAdd), [4]impl.Span{span(1, 4), span(10, 12), c, cells}, one(span(-16, 15), span(10, 12), c, cells)},
		{ins(impl.InsDo, 0, 1, impl.OpSub), [4]impl.Span{span(1, 3), span(10, 12), c, cells}, one(span(-11, -7), span(10, 12), c, cells)},
		{ins(impl.InsDo, 1, 0, impl.OpSub), [4]impl.Span{span(1, 3), span(10, 12), c, cells}, one(span(1, 3), span(7, 11), c, cells)},
		{ins(impl.InsDo, 0, 1, impl.OpMul), [4]impl.Span{span(-2, 3), span(2, 5), c, cells}, one(span(-10, 15), span(2, 5), c, cells)},
		{ins(impl.InsDo, 0, 1, impl.OpLess), [4]impl.Span{span(1, 3), span(3, 5), c, cells}, one(span(0, 1), span(3, 5), c, cells)},
		{ins(impl.InsDo, 0, 1, impl.OpSame), [4]impl.Span{span(1, 2), span(3, 5), c, cells}, one(span(0, 0), span(3, 5), c, cells)},
		// By what is not 0; by 0 alone it leads nowhere.
		{ins(impl.InsDo, 0, 1, impl.OpDiv), [4]impl.Span{span(6, 9), span(2, 3), c, cells}, one(span(2, 4), span(2, 3), c, cells)},
		{ins(impl.InsDo, 0, 1, impl.OpDiv), [4]impl.Span{span(6, 9), span(0, 3), c, cells}, one(span(2, 9), span(0, 3), c, cells)},
		{ins(impl.InsDo, 0, 1, impl.OpDiv), [4]impl.Span{span(6, 9), span(0, 0), c, cells}, nil},
		{ins(impl.InsDo, 0, 1, impl.OpDiv), [4]impl.Span{span(-16, 2), span(-1, 1), c, cells}, one(span(-16, 15), span(-1, 1), c, cells)},
		// One register with itself is two words of its span.
		{ins(impl.InsDo, 0, 0, impl.OpSub), [4]impl.Span{span(2, 5), span(0, 0), c, cells}, one(span(-3, 3), span(0, 0), c, cells)},
		{ins(impl.InsDo, 1, 1, impl.OpMul), [4]impl.Span{span(2, 5), span(-3, 2), c, cells}, one(span(2, 5), span(-6, 9), c, cells)},
		{ins(impl.InsDo, 0, 0, impl.OpDiv), [4]impl.Span{span(2, 5), span(0, 0), c, cells}, one(span(0, 2), span(0, 0), c, cells)},
		{ins(impl.InsDo, 0, 0, impl.OpDiv), [4]impl.Span{span(0, 0), span(1, 1), c, cells}, nil},
		{ins(impl.InsDo, 0, 0, impl.OpSame), [4]impl.Span{span(2, 5), span(0, 0), c, cells}, one(span(0, 1), span(0, 0), c, cells)},
		{ins(impl.InsDo, 0, 0, impl.OpSame), [4]impl.Span{span(2, 2), span(0, 0), c, cells}, one(span(1, 1), span(0, 0), c, cells)},
		{ins(impl.InsDo, 0, 0, impl.OpLess), [4]impl.Span{span(2, 3), span(0, 0), c, cells}, one(span(0, 1), span(0, 0), c, cells)},
	})
}

func TestP42NextOfHold(t *testing.T) {
	b, c, cells := span(0, 0), span(0, 4), span(0, 0)
	for _, x := range []struct{ was, then impl.Span }{
		{span(1, 5), span(1, 5)}, {span(0, 5), span(1, 5)}, {span(0, 1), span(1, 1)}, {span(0, 0), none()},
		{span(-5, 0), span(-5, -1)}, {span(-1, 0), span(-1, -1)}, {span(-5, -1), span(-5, -1)},
		{span(-5, 5), span(-5, 5)}, {span(-1, 1), span(-1, 1)}, {span(-16, 15), span(-16, 15)},
	} {
		held := flowCase{i: ins(impl.InsHold, 0, 0, 0), was: [4]impl.Span{x.was, b, c, cells}}
		last := flowCase{i: ins(impl.InsHold, 2, 0, 0), was: [4]impl.Span{b, c, x.was, cells}}
		if x.then.Any {
			held.want, last.want = one(x.then, b, c, cells), one(b, c, x.then, cells)
		}
		checkFlows(t, nil, []flowCase{held, last})
	}
}

func TestP42NextOfPut(t *testing.T) {
	c := span(7, 8)
	checkFlows(t, nil, []flowCase{
		{ins(impl.InsPut, 0, 1, 0), [4]impl.Span{span(-1, 5), span(2, 4), c, span(0, 0)}, one(span(0, 2), span(2, 4), c, span(0, 4))},
		{ins(impl.InsPut, 0, 1, 0), [4]impl.Span{span(0, 2), span(-3, -2), c, span(1, 2)}, one(span(0, 2), span(-3, -2), c, span(-3, 2))},
		{ins(impl.InsPut, 0, 1, 0), [4]impl.Span{span(1, 1), span(3, 3), c, span(2, 9)}, one(span(1, 1), span(3, 3), c, span(2, 9))},
		{ins(impl.InsPut, 1, 2, 0), [4]impl.Span{span(9, 9), span(2, 15), c, span(0, 0)}, one(span(9, 9), span(2, 2), c, span(0, 8))},
		{ins(impl.InsPut, 1, 0, 0), [4]impl.Span{span(9, 9), span(-16, 0), c, span(0, 0)}, one(span(9, 9), span(0, 0), c, span(0, 9))},
		// What is no cell's number leads nowhere.
		{ins(impl.InsPut, 0, 1, 0), [4]impl.Span{span(3, 15), span(2, 4), c, span(0, 0)}, nil},
		{ins(impl.InsPut, 0, 1, 0), [4]impl.Span{span(-16, -1), span(2, 4), c, span(0, 0)}, nil},
		{ins(impl.InsPut, 2, 2, 0), [4]impl.Span{span(0, 0), span(2, 4), span(3, 3), span(0, 0)}, nil},
		// One register as both: into the cells comes what it had.
		{ins(impl.InsPut, 0, 0, 0), [4]impl.Span{span(1, 2), span(2, 4), c, span(0, 0)}, one(span(1, 2), span(2, 4), c, span(0, 2))},
		{ins(impl.InsPut, 0, 0, 0), [4]impl.Span{span(-1, 5), span(2, 4), c, span(0, 0)}, one(span(0, 2), span(2, 4), c, span(-1, 5))},
		{ins(impl.InsPut, 1, 1, 0), [4]impl.Span{span(9, 9), span(-16, 15), c, span(3, 3)}, one(span(9, 9), span(0, 2), c, span(-16, 15))},
	})
}

func TestP42NextOfGet(t *testing.T) {
	c := span(7, 8)
	checkFlows(t, nil, []flowCase{
		{ins(impl.InsGet, 0, 1, 0), [4]impl.Span{span(9, 9), span(-1, 5), c, span(4, 6)}, one(span(4, 6), span(0, 2), c, span(4, 6))},
		{ins(impl.InsGet, 0, 1, 0), [4]impl.Span{span(9, 9), span(1, 1), c, span(-4, 6)}, one(span(-4, 6), span(1, 1), c, span(-4, 6))},
		{ins(impl.InsGet, 2, 0, 0), [4]impl.Span{span(2, 15), span(1, 1), c, span(4, 6)}, one(span(2, 2), span(1, 1), span(4, 6), span(4, 6))},
		{ins(impl.InsGet, 1, 0, 0), [4]impl.Span{span(-16, 0), span(1, 1), c, span(0, 0)}, one(span(0, 0), span(0, 0), c, span(0, 0))},
		// What is no cell's number leads nowhere.
		{ins(impl.InsGet, 0, 1, 0), [4]impl.Span{span(0, 2), span(3, 15), c, span(0, 2)}, nil},
		{ins(impl.InsGet, 0, 1, 0), [4]impl.Span{span(0, 2), span(-16, -1), c, span(0, 2)}, nil},
		// The register that is filled is that of the number: it is what was read, and
		// no meet of both.
		{ins(impl.InsGet, 0, 0, 0), [4]impl.Span{span(0, 2), span(3, 4), c, span(5, 9)}, one(span(5, 9), span(3, 4), c, span(5, 9))},
		{ins(impl.InsGet, 0, 0, 0), [4]impl.Span{span(-3, 7), span(3, 4), c, span(1, 9)}, one(span(1, 9), span(3, 4), c, span(1, 9))},
		{ins(impl.InsGet, 2, 2, 0), [4]impl.Span{span(0, 0), span(3, 4), span(2, 3), span(-9, -9)}, one(span(0, 0), span(3, 4), span(-9, -9), span(-9, -9))},
		{ins(impl.InsGet, 0, 0, 0), [4]impl.Span{span(3, 7), span(0, 1), c, span(0, 2)}, nil},
		{ins(impl.InsGet, 1, 1, 0), [4]impl.Span{span(0, 2), span(-4, -1), c, span(0, 2)}, nil},
	})
}

func TestP42NextOfLessAndSame(t *testing.T) {
	c, cells := span(7, 8), span(-1, 1)
	both := func(to int, a impl.Span, b impl.Span) flowWant {
		return flowWant{to, [4]impl.Span{a, b, c, cells}}
	}
	was := func(a impl.Span, b impl.Span) [4]impl.Span {
		return [4]impl.Span{a, b, c, cells}
	}
	less, same := ins(impl.InsLess, 0, 1, 3), ins(impl.InsSame, 0, 1, 2)
	checkFlows(t, nil, []flowCase{
		{less, was(span(-1, 5), span(2, 4)), []flowWant{both(3, span(-1, 3), span(2, 4)), both(1, span(2, 5), span(2, 4))}},
		{less, was(span(0, 9), span(3, 5)), []flowWant{both(3, span(0, 4), span(3, 5)), both(1, span(3, 9), span(3, 5))}},
		{less, was(span(3, 5), span(0, 9)), []flowWant{both(3, span(3, 5), span(4, 9)), both(1, span(3, 5), span(0, 5))}},
		{less, was(span(0, 2), span(3, 5)), []flowWant{both(3, span(0, 2), span(3, 5))}},
		{less, was(span(3, 5), span(0, 3)), []flowWant{both(1, span(3, 5), span(0, 3))}},
		{less, was(span(4, 4), span(4, 4)), []flowWant{both(1, span(4, 4), span(4, 4))}},
		{ins(impl.InsLess, 1, 0, 3), was(span(-1, 5), span(2, 4)), []flowWant{both(3, span(3, 5), span(2, 4)), both(1, span(-1, 4), span(2, 4))}},
		{same, was(span(0, 4), span(3, 9)), []flowWant{both(2, span(3, 4), span(3, 4)), both(1, span(0, 4), span(3, 9))}},
		{same, was(span(0, 2), span(3, 9)), []flowWant{both(1, span(0, 2), span(3, 9))}},
		{same, was(span(3, 3), span(3, 3)), []flowWant{both(2, span(3, 3), span(3, 3))}},
		{same, was(span(3, 5), span(3, 3)), []flowWant{both(2, span(3, 3), span(3, 3)), both(1, span(4, 5), span(3, 3))}},
		{same, was(span(3, 3), span(1, 3)), []flowWant{both(2, span(3, 3), span(3, 3)), both(1, span(3, 3), span(1, 2))}},
		// One register with itself is the meet of both.
		{ins(impl.InsLess, 0, 0, 3), was(span(1, 5), span(2, 4)), []flowWant{both(3, span(2, 4), span(2, 4)), both(1, span(1, 5), span(2, 4))}},
		{ins(impl.InsLess, 0, 0, 3), was(span(1, 3), span(9, 9)), []flowWant{both(3, span(2, 2), span(9, 9)), both(1, span(1, 3), span(9, 9))}},
		{ins(impl.InsLess, 0, 0, 3), was(span(1, 2), span(9, 9)), []flowWant{both(1, span(1, 2), span(9, 9))}},
		{ins(impl.InsLess, 1, 1, 3), was(span(1, 2), span(9, 9)), []flowWant{both(1, span(1, 2), span(9, 9))}},
		{ins(impl.InsSame, 0, 0, 2), was(span(1, 5), span(2, 4)), []flowWant{both(2, span(1, 5), span(2, 4)), both(1, span(1, 5), span(2, 4))}},
		{ins(impl.InsSame, 1, 1, 2), was(span(1, 5), span(2, 2)), []flowWant{both(2, span(1, 5), span(2, 2))}},
	})
}

// A jump may lead to where it is, to the next place, whereto it leads twice then, and to the end.
func TestP45JumpsToEachPlace(t *testing.T) {
	was := state([4]impl.Span{span(0, 4), span(3, 9), span(0, 0), span(0, 0)})
	for at := range 4 {
		for to := range 5 {
			for _, i := range []impl.Ins{ins(impl.InsLess, 0, 1, to), ins(impl.InsSame, 0, 1, to)} {
				got := impl.FlowNext(insProg(i, at, 4), nil, 0, at, was)
				if len(got) != 2 || got[0].To != to || got[1].To != at+1 || sameState(got[0].State, got[1].State) {
					t.Errorf("%v at %d leads to %+v", i, at, got)
				}
			}
			i := ins(impl.InsGo, 0, 0, to)
			if got := impl.FlowNext(insProg(i, at, 4), nil, 0, at, was); len(got) != 1 || got[0].To != to || !sameState(got[0].State, was) {
				t.Errorf("%v at %d leads to %+v", i, at, got)
			}
		}
	}
}

func TestP45NextIsTheNextPlaceOrWhatIsSaid(t *testing.T) {
	for _, g := range flowGivens() {
		flows, i := g.next(), g.ins()
		jumps := i.Kind >= 5 && i.Kind <= 7
		if len(flows) > 2 || len(flows) == 2 && i.Kind != 6 && i.Kind != 7 || len(flows) > 0 && (i.Kind == 0 || i.Kind == 9) {
			t.Fatalf("%v leads to %+v", i, flows)
		}
		for _, f := range flows {
			if f.To != g.at+1 && (!jumps || f.To != i.C) || i.Kind == 5 && f.To != i.C {
				t.Fatalf("%v at %d leads to %d", i, g.at, f.To)
			}
			if !f.State.Any || !impl.StateOk(f.State) || !inRange(f.To, 0, len(g.p[g.proc].Code)) {
				t.Fatalf("%v from %+v leads to %+v", i, g.s, f)
			}
		}
	}
}

func TestP45TheLastInstructionLeadsToTheEndAndThatNowhere(t *testing.T) {
	for size := 1; size <= codeMost; size++ {
		for _, i := range allIns(3, 0) {
			if i.Kind >= 5 && i.Kind <= 7 {
				i.C = size
			}
			p := insProg(i, size-1, size)
			flows := impl.FlowNext(p, fullSums(p), 0, size-1, differentSpans())
			if slices.ContainsFunc(flows, func(f impl.Flow) bool { return f.To != size }) {
				t.Fatalf("the last one of %d, %v, leads to %+v", size, i, flows)
			}
			if end := impl.FlowNext(p, fullSums(p), 0, size, differentSpans()); len(end) != 0 {
				t.Fatalf("the end leads to %+v", end)
			}
		}
	}
	if end := impl.FlowNext(prog(nil), nil, 0, 0, differentSpans()); len(end) != 0 {
		t.Errorf("the end of nothing leads to %+v", end)
	}
}

// stepsOf makes a step of a run with each input that may matter.
func stepsOf(p []impl.Proc, r impl.Run, i impl.Ins) []impl.Run {
	var all []impl.Run
	inputs := 1
	if i.Kind == impl.InsAsk {
		inputs = i.B + 1
	}
	for input := range inputs {
		all = append(all, impl.RunStep(p, r, input))
	}
	return all
}

func TestP42EachStepIsLedTo(t *testing.T) {
	from := rand.New(rand.NewSource(15))
	steps := make([]int, kindsAll+1)
	for _, g := range flowGivens() {
		i := g.ins()
		if !g.s.Any || i.Kind == 0 || i.Kind == impl.InsCall || i.Kind == impl.InsBack {
			continue
		}
		flows := g.next()
		for _, w := range someWordsOf(from, g.s, 6) {
			for _, r := range stepsOf(g.p, g.runAt(w, false), i) {
				if r.End == impl.EndFault {
					continue
				}
				f := lastFrame(r)
				if !leads(flows, f.At, words{f.Regs, f.Cells}) {
					t.Fatalf("%v at %d of %+v leads to %+v; a run comes from %v to %+v", i, g.at, g.s, flows, w, f)
				}
				steps[i.Kind]++
			}
		}
	}
	for kind, many := range steps {
		if many < 100 && kind != 0 && kind != impl.InsCall && kind != impl.InsBack {
			t.Errorf("only %d steps of kind %d", many, kind)
		}
	}
}

func TestP43EachWordThatACallGivesIsLedTo(t *testing.T) {
	from := rand.New(rand.NewSource(16))
	given := 0
	for _, g := range flowGivens() {
		i := g.ins()
		if !g.s.Any || i.Kind != impl.InsCall {
			continue
		}
		flows := g.next()
		for _, w := range someWordsOf(from, g.s, 10) {
			out := impl.SumOut(g.p, g.sums, i.B, impl.SpanOf(w.regs[i.C]))
			for _, n := range wordsOf(out) {
				given++
				if !leads(flows, g.at+1, w.withWord(i.A, n)) {
					t.Fatalf("%v from %+v leads to %+v, not with %d of %v", i, g.s, flows, n, w)
				}
			}
		}
	}
	if given < 1000 {
		t.Errorf("only %d words", given)
	}
}

// callSums is sums of insProg in which procedure 1 gives back other words of
// each kind, of less ones nothing, and procedure 2 has no sum.
func callSums() []impl.Sum {
	return []impl.Sum{
		{Proc: 0, Rows: []impl.Row{{Out: span(-8, -7)}, {Out: span(1, 2)}, {}}},
		{Proc: 1, Rows: []impl.Row{{}, {Out: span(5, 5)}, {Out: span(-3, 2)}}},
	}
}

func TestP43NextOfCalls(t *testing.T) {
	b, c, cells := span(3, 4), span(7, 8), span(-1, 1)
	call := func(into int, proc int, arg int) impl.Ins { return ins(impl.InsCall, into, proc, arg) }
	was := func(a impl.Span) [4]impl.Span { return [4]impl.Span{a, b, c, cells} }
	checkFlows(t, callSums(), []flowCase{
		{call(1, 1, 0), was(span(0, 0)), one(span(0, 0), span(5, 5), c, cells)},
		{call(1, 1, 0), was(span(1, 1)), one(span(1, 1), span(-3, 2), c, cells)},
		{call(1, 1, 0), was(span(0, 1)), one(span(0, 1), span(-3, 5), c, cells)},
		{call(1, 1, 0), was(span(-1, 0)), one(span(-1, 0), span(5, 5), c, cells)},
		{call(1, 1, 0), was(span(-1, 1)), one(span(-1, 1), span(-3, 5), c, cells)},
		// Of its kind nothing is given back.
		{call(1, 1, 0), was(span(-16, -1)), nil},
		{call(0, 0, 1), was(span(0, 0)), nil},
		// Into the register with which it is called.
		{call(0, 1, 0), was(span(-2, 0)), one(span(5, 5), b, c, cells)},
		{call(2, 1, 2), was(span(-2, 0)), one(span(-2, 0), b, span(-3, 2), cells)},
		// The procedure calls itself.
		{call(2, 0, 0), was(span(-2, 9)), one(span(-2, 9), b, span(-8, 2), cells)},
		{call(0, 0, 0), was(span(-2, -1)), one(span(-8, -7), b, c, cells)},
		// There is no sum of it.
		{call(0, 2, 0), was(span(-16, 15)), nil},
		{call(1, 2, 2), was(span(0, 0)), nil},
	})
	checkFlows(t, nil, []flowCase{
		{call(1, 1, 0), was(span(0, 0)), nil},
		{call(0, 0, 0), was(span(-16, 15)), nil},
		{ins(impl.InsMove, 0, 1, 0), was(span(0, 0)), one(b, b, c, cells)},
	})
	checkFlows(t, callSums()[1:], []flowCase{
		{call(2, 0, 0), was(span(-16, 15)), nil},
		{call(1, 1, 0), was(span(0, 0)), one(span(0, 0), span(5, 5), c, cells)},
	})
}

func TestP44NextOfMoreIsNoLess(t *testing.T) {
	from := rand.New(rand.NewSource(17))
	held := 0
	for _, g := range flowGivens() {
		for range 3 {
			more := g
			more.s = moreState(from, g.s)
			if !impl.StateIn(g.s, more.s) {
				t.Fatalf("%+v is not in %+v", g.s, more.s)
			}
			led := more.next()
			for _, f := range g.next() {
				held++
				if !slices.ContainsFunc(led, func(other impl.Flow) bool { return other.To == f.To && impl.StateIn(f.State, other.State) }) {
					t.Fatalf("%v from %+v leads to %+v, from %+v to %+v", g.ins(), g.s, f, more.s, led)
				}
			}
		}
	}
	if held < 10000 {
		t.Errorf("only %d flows", held)
	}
}

// moreState is an ok state that has all of s.
func moreState(from *rand.Rand, s impl.State) impl.State {
	if !s.Any {
		return someState(from)
	}
	for at := range spansAll {
		if more := grownByOne(spansOf(s)[at]); len(more) > 0 && from.Intn(2) == 0 {
			s = with(s, at, more[from.Intn(len(more))])
		} else if other := someSpan(from); from.Intn(4) == 0 {
			was := spansOf(s)[at]
			s = with(s, at, span(min(was.Lo, other.Lo), max(was.Hi, other.Hi)))
		}
	}
	return s
}
