package tests

import (
	"math"
	"slices"
	"testing"

	"loop.example/gauger/impl"
)

func TestP27NewIsTheBeginning(t *testing.T) {
	for _, p := range someProgs(500) {
		got := impl.RunNew(p)
		want := impl.Run{Frames: []impl.Frame{{Regs: []int{0, 0, 0}, Cells: []int{0, 0, 0}}}}
		if !sameRun(got, want) || !impl.RunOk(p, got) {
			t.Fatalf("RunNew(%v) is %+v", p, got)
		}
	}
}

func TestP28StepsOfGivenRuns(t *testing.T) {
	for _, g := range someGiven(1500, 12) {
		for _, input := range []int{0, -5, 22} {
			got, want := impl.RunStep(g.p, g.r, input), stepFine(g.p, g.r, input)
			if !sameRun(got, want) {
				t.Fatalf("of %v a step of %+v with %d is %+v, not %+v", g.p, g.r, input, got, want)
			}
			if !impl.RunOk(g.p, got) {
				t.Fatalf("of %v a step of %+v is not ok: %+v", g.p, g.r, got)
			}
			stays := g.r.End != impl.EndNot || g.r.Steps == impl.RunMax
			if stays && !sameRun(got, g.r) || !stays && got.Steps != g.r.Steps+1 {
				t.Fatalf("of %v a step of %+v is %+v", g.p, g.r, got)
			}
		}
	}
}

func TestP28RunsThatEndedStay(t *testing.T) {
	for _, r := range endedRuns()[1:] {
		for _, input := range someInputs() {
			if got := impl.RunStep(sitesProg(), r, input); !sameRun(got, r) {
				t.Errorf("a step of %+v is %+v", r, got)
			}
		}
	}
}

func TestP28TheLastStep(t *testing.T) {
	p := prog(code(ins(impl.InsGo, 0, 0, 0)))
	r := running(frame(0, 0, [3]int{1, 2, 3}, [3]int{}))
	r.Steps = impl.RunMax - 1
	last := impl.RunStep(p, r, 0)
	if last.Steps != impl.RunMax || last.End != impl.EndNot || !sameFrames(last.Frames, r.Frames) {
		t.Errorf("the last step is %+v", last)
	}
	if got := impl.RunStep(p, last, 0); !sameRun(got, last) {
		t.Errorf("behind the last step: %+v", got)
	}
	if got := impl.RunGo(p, nil, impl.RunMax); got.Steps != impl.RunMax || got.End != impl.EndNot {
		t.Errorf("all steps: %+v", got)
	}
}

func TestP28RunMaxStaysAtEachInstruction(t *testing.T) {
	for kind := 1; kind <= kindsAll; kind++ {
		i := ins(kind, 0, 0, 0)
		if kind == impl.InsDo {
			i.C = impl.OpDiv
		}
		p := prog(code(i))
		r := running(frame(0, 0, [3]int{}, [3]int{}))
		r.Steps = impl.RunMax
		if got := impl.RunStep(p, r, 1); !sameRun(got, r) {
			t.Errorf("at %v a step of %+v is %+v", i, r, got)
		}
	}
}

// stepCase is an instruction, with what is there, and what is then. Behind it
// stand two others, so that it may go on elsewhere.
type stepCase struct {
	i           impl.Ins
	regs, cells [3]int
	wantRegs    [3]int
	wantCells   [3]int
	wantAt      int
}

func TestP28WhatEachInstructionDoes(t *testing.T) {
	abc := [3]int{2, 1, -5}
	cells := [3]int{7, 8, 9}
	for _, c := range []stepCase{
		{ins(impl.InsSet, 1, -16, 0), abc, cells, [3]int{2, -16, -5}, cells, 1},
		{ins(impl.InsSet, 2, 15, 0), abc, cells, [3]int{2, 1, 15}, cells, 1},
		{ins(impl.InsMove, 0, 2, 0), abc, cells, [3]int{-5, 1, -5}, cells, 1},
		{ins(impl.InsMove, 1, 1, 0), abc, cells, abc, cells, 1},
		{ins(impl.InsAsk, 1, 5, 0), abc, cells, [3]int{2, 4, -5}, cells, 1},
		{ins(impl.InsDo, 0, 2, impl.OpAdd), abc, cells, [3]int{-3, 1, -5}, cells, 1},
		{ins(impl.InsDo, 0, 2, impl.OpSub), abc, cells, [3]int{7, 1, -5}, cells, 1},
		{ins(impl.InsDo, 2, 0, impl.OpMul), abc, cells, [3]int{2, 1, -10}, cells, 1},
		{ins(impl.InsDo, 2, 0, impl.OpDiv), abc, cells, [3]int{2, 1, -2}, cells, 1},
		{ins(impl.InsDo, 2, 0, impl.OpLess), abc, cells, [3]int{2, 1, 1}, cells, 1},
		{ins(impl.InsDo, 2, 0, impl.OpSame), abc, cells, [3]int{2, 1, 0}, cells, 1},
		{ins(impl.InsDo, 2, 2, impl.OpSub), abc, cells, [3]int{2, 1, 0}, cells, 1},
		{ins(impl.InsDo, 2, 2, impl.OpMul), abc, cells, [3]int{2, 1, -7}, cells, 1},
		{ins(impl.InsDo, 2, 2, impl.OpDiv), abc, cells, [3]int{2, 1, 1}, cells, 1},
		{ins(impl.InsDo, 0, 1, impl.OpDiv), [3]int{-16, -1, 0}, cells, [3]int{-16, -1, 0}, cells, 1},
		{ins(impl.InsDo, 0, 1, impl.OpAdd), [3]int{15, 1, 0}, cells, [3]int{-16, 1, 0}, cells, 1},
		{ins(impl.InsGo, 0, 0, 3), abc, cells, abc, cells, 3},
		{ins(impl.InsGo, 0, 0, 0), abc, cells, abc, cells, 0},
		{ins(impl.InsLess, 1, 0, 3), abc, cells, abc, cells, 3},
		{ins(impl.InsLess, 0, 1, 3), abc, cells, abc, cells, 1},
		{ins(impl.InsLess, 0, 0, 3), abc, cells, abc, cells, 1},
		{ins(impl.InsLess, 0, 1, 2), [3]int{4, 4, 0}, cells, [3]int{4, 4, 0}, cells, 1},
		{ins(impl.InsSame, 0, 1, 2), [3]int{4, 4, 0}, cells, [3]int{4, 4, 0}, cells, 2},
		{ins(impl.InsSame, 0, 1, 2), abc, cells, abc, cells, 1},
		{ins(impl.InsSame, 1, 1, 0), abc, cells, abc, cells, 0},
		{ins(impl.InsHold, 2, 0, 0), abc, cells, abc, cells, 1},
		{ins(impl.InsPut, 0, 2, 0), abc, cells, abc, [3]int{7, 8, -5}, 1},
		{ins(impl.InsPut, 1, 1, 0), abc, cells, abc, [3]int{7, 1, 9}, 1},
		{ins(impl.InsPut, 2, 0, 0), [3]int{3, 1, 0}, cells, [3]int{3, 1, 0}, [3]int{3, 8, 9}, 1},
		{ins(impl.InsGet, 2, 0, 0), abc, cells, [3]int{2, 1, 9}, cells, 1},
		{ins(impl.InsGet, 1, 1, 0), abc, cells, [3]int{2, 8, -5}, cells, 1},
	} {
		p := prog(code(c.i, ins(impl.InsHold, 0, 0, 0), ins(impl.InsHold, 0, 0, 0)))
		want := running(frame(0, c.wantAt, c.wantRegs, c.wantCells))
		want.Steps = 1
		if got := impl.RunStep(p, running(frame(0, 0, c.regs, c.cells)), -2); !sameRun(got, want) {
			t.Errorf("%v of %v, %v: %+v, not %+v", c.i, c.regs, c.cells, got, want)
		}
	}
}

func TestP28BehindTheLastInstructionIsTheEnd(t *testing.T) {
	p := prog(code(ins(impl.InsSet, 0, 4, 0)))
	r := impl.RunStep(p, impl.RunNew(p), 0)
	if r.End != impl.EndNot || lastFrame(r).At != 1 || !impl.RunOk(p, r) {
		t.Errorf("at the end: %+v", r)
	}
	// What is given back there is 0, not a register.
	if r = impl.RunStep(p, r, 9); r.End != impl.EndDone || r.Out != 0 || r.Steps != 2 {
		t.Errorf("behind the end: %+v", r)
	}
}

func TestP28AnAnswerAtTheFirstFrame(t *testing.T) {
	p := prog(code(ins(impl.InsBack, 1, 0, 0)))
	for n := lowWord; n <= highWord; n++ {
		r := running(frame(0, 0, [3]int{3, n, 4}, [3]int{5, 5, 5}))
		r.Frames[0].Into = 2
		want := impl.Run{Steps: 1, End: impl.EndDone, Out: n}
		if got := impl.RunStep(p, r, 0); !sameRun(got, want) {
			t.Errorf("an answer of %d: %+v", n, got)
		}
	}
	if got, want := impl.RunGo(prog(nil), nil, 1), (impl.Run{Steps: 1, End: impl.EndDone}); !sameRun(got, want) {
		t.Errorf("of no code: %+v", got)
	}
}

func TestP29WhatIsAskedFor(t *testing.T) {
	for most := 0; most <= highWord; most++ {
		for into := range regsAll {
			p := prog(code(ins(impl.InsAsk, into, most, 0)))
			r := running(frame(0, 0, [3]int{-9, -8, -7}, [3]int{1, 2, 3}))
			if !impl.RunAsks(p, r) {
				t.Fatalf("%v does not ask", p)
			}
			inputs := someInputs()
			for n := -70; n <= 70; n++ {
				inputs = append(inputs, n)
			}
			for _, input := range inputs {
				want := running(frame(0, 1, [3]int{-9, -8, -7}, [3]int{1, 2, 3}))
				want.Steps = 1
				want.Frames[0].Regs[into] = modulo(input, most+1)
				if got := impl.RunStep(p, r, input); !sameRun(got, want) {
					t.Fatalf("%v with %d: %+v", p, input, got)
				}
			}
		}
	}
}

func TestP29WhatIsAskedForInNumbers(t *testing.T) {
	for _, c := range []struct{ most, input, want int }{
		{0, 0, 0}, {0, 1, 0}, {0, -1, 0}, {0, math.MinInt, 0}, {0, math.MaxInt, 0},
		{1, -1, 1}, {1, 2, 0}, {1, math.MinInt, 0}, {1, math.MaxInt, 1},
		{5, 5, 5}, {5, 6, 0}, {5, 7, 1}, {5, -1, 5}, {5, -6, 0}, {5, -7, 5}, {5, 602, 2},
		{15, 15, 15}, {15, 16, 0}, {15, -16, 0}, {15, -17, 15}, {15, math.MinInt, 0}, {15, math.MaxInt, 15},
		// The ends of int are -9223372036854775808 and 9223372036854775807.
		{9, math.MinInt, 2}, {9, math.MaxInt, 7}, {9, -1000, 0}, {9, -1003, 7},
	} {
		p := prog(code(ins(impl.InsAsk, 0, c.most, 0), ins(impl.InsBack, 0, 0, 0)))
		if r := impl.RunGo(p, []int{c.input}, 2); r.End != impl.EndDone || r.Out != c.want {
			t.Errorf("0 to %d, given %d: %+v", c.most, c.input, r)
		}
	}
}

func TestP29NotAskedForIsNotTaken(t *testing.T) {
	for _, g := range someGiven(500, 10) {
		asks := impl.RunAsks(g.p, g.r)
		if asks != asksFine(g.p, g.r) {
			t.Fatalf("of %v RunAsks(%+v) is %t", g.p, g.r, asks)
		}
		first := impl.RunStep(g.p, g.r, 0)
		for _, input := range someInputs() {
			if got := impl.RunStep(g.p, g.r, input); !asks && !sameRun(got, first) {
				t.Fatalf("of %v a step of %+v with %d is %+v", g.p, g.r, input, got)
			}
		}
	}
}

func TestP29WhoAsks(t *testing.T) {
	ask := ins(impl.InsAsk, 0, 3, 0)
	p := prog(code(ask, ins(impl.InsCall, 0, 1, 0), ask), code(ins(impl.InsHold, 0, 0, 0), ask))
	nulls := [3]int{}
	for _, c := range []struct {
		r    impl.Run
		want bool
	}{
		{running(frame(0, 0, nulls, nulls)), true},
		{running(frame(0, 1, nulls, nulls)), false},
		{running(frame(0, 2, nulls, nulls)), true},
		{running(frame(0, 3, nulls, nulls)), false},
		{running(frame(0, 2, nulls, nulls), frame(1, 0, nulls, nulls)), false},
		{running(frame(0, 1, nulls, nulls), frame(1, 1, nulls, nulls)), true},
		{running(frame(0, 2, nulls, nulls), frame(1, 2, nulls, nulls)), false},
		{impl.Run{End: impl.EndDone}, false},
		{impl.Run{Frames: slices.Repeat([]impl.Frame{frame(0, 0, nulls, nulls)}, 5), End: impl.EndDeep}, false},
		{impl.Run{Frames: slices.Repeat([]impl.Frame{frame(0, 0, nulls, nulls)}, 6)}, false},
		// It has not ended, but it makes no step any more.
		{impl.Run{Frames: []impl.Frame{frame(0, 0, nulls, nulls)}, Steps: impl.RunMax}, true},
		{impl.Run{Frames: []impl.Frame{frame(0, 0, nulls, nulls)}, Steps: impl.RunMax + 1}, false},
	} {
		if got := impl.RunAsks(p, c.r); got != c.want {
			t.Errorf("RunAsks(%+v) is %t", c.r, got)
		}
	}
}

// faultCheck holds a step at one instruction against what must be of it.
func faultCheck(t *testing.T, i impl.Ins, regs [3]int, wrong bool, fault int) {
	t.Helper()
	p := prog(nil, code(ins(impl.InsGo, 0, 0, 0), i))
	r := running(frame(0, 0, [3]int{9, 9, 9}, [3]int{9, 9, 9}), frame(1, 1, regs, [3]int{4, 5, 6}))
	r.Steps = 8
	got := impl.RunStep(p, r, 3)
	if got.Steps != 9 {
		t.Fatalf("%v of %v: %+v", i, regs, got)
	}
	if wrong != (got.End == impl.EndFault) {
		t.Fatalf("%v of %v: %+v", i, regs, got)
	}
	if !wrong {
		if got.Site != (impl.Site{}) {
			t.Fatalf("%v of %v: %+v", i, regs, got)
		}
		return
	}
	if got.Site != (impl.Site{Proc: 1, At: 1, Fault: fault}) || got.Out != 0 || !sameFrames(got.Frames, r.Frames) {
		t.Fatalf("%v of %v: %+v", i, regs, got)
	}
}

func TestP30DivisionsOfAllWords(t *testing.T) {
	for a := lowWord; a <= highWord; a++ {
		for b := lowWord; b <= highWord; b++ {
			for _, op := range allOps() {
				faultCheck(t, ins(impl.InsDo, 0, 1, op), [3]int{a, b, 7}, op == 4 && b == 0, 1)
				faultCheck(t, ins(impl.InsDo, 2, 0, op), [3]int{b, 7, a}, op == 4 && b == 0, 1)
			}
		}
		for _, op := range allOps() {
			faultCheck(t, ins(impl.InsDo, 1, 1, op), [3]int{7, a, 7}, op == 4 && a == 0, 1)
		}
	}
}

func TestP30CellsAndHoldsOfAllWords(t *testing.T) {
	for n := lowWord; n <= highWord; n++ {
		noCell := n < 0 || n > 2
		for other := lowWord; other <= highWord; other++ {
			faultCheck(t, ins(impl.InsPut, 0, 1, 0), [3]int{n, other, 7}, noCell, 2)
			faultCheck(t, ins(impl.InsGet, 0, 1, 0), [3]int{other, n, 7}, noCell, 2)
			faultCheck(t, ins(impl.InsHold, 1, 0, 0), [3]int{other, n, 7}, n == 0, 3)
		}
		faultCheck(t, ins(impl.InsPut, 2, 2, 0), [3]int{7, 7, n}, noCell, 2)
		faultCheck(t, ins(impl.InsGet, 2, 2, 0), [3]int{7, 7, n}, noCell, 2)
	}
}

func TestP30OthersAreNeverWrong(t *testing.T) {
	for n := lowWord; n <= highWord; n++ {
		for kind := 1; kind <= kindsAll; kind++ {
			i := ins(kind, 0, 0, 0)
			if kind != impl.InsDo && faultNumber(i) == 0 {
				faultCheck(t, i, [3]int{n, 0, 0}, false, 0)
				faultCheck(t, i, [3]int{0, n, n}, false, 0)
			}
		}
	}
}

func TestP30WrongJustWhereItIs(t *testing.T) {
	for _, g := range someGiven(1500, 12) {
		if g.r.End != impl.EndNot || g.r.Steps == impl.RunMax {
			continue
		}
		i, f := nextIns(g.p, g.r), lastFrame(g.r)
		got := impl.RunStep(g.p, g.r, 1)
		wrong := isWrong(i, f.Regs)
		if wrong != (got.End == impl.EndFault) {
			t.Fatalf("of %v a step of %+v is %+v", g.p, g.r, got)
		}
		if wrong && (!sameFrames(got.Frames, g.r.Frames) || got.Site != impl.Site{Proc: f.Proc, At: f.At, Fault: faultNumber(i)}) {
			t.Fatalf("of %v a step of %+v is %+v", g.p, g.r, got)
		}
	}
}

func TestP30WrongAtTheFirstAndAtTheLastFrame(t *testing.T) {
	hold := code(ins(impl.InsHold, 0, 0, 0))
	r := impl.RunGo(prog(hold), nil, 1)
	want := running(frame(0, 0, [3]int{}, [3]int{}))
	want.Steps, want.End, want.Site = 1, impl.EndFault, impl.Site{Fault: impl.FaultHold}
	if !sameRun(r, want) {
		t.Errorf("a hold of 0: %+v", r)
	}
	// It calls itself with 4, 3, 2, 1 and 0, which is wrong at the last frame there may be.
	p := prog(
		code(ins(impl.InsSet, 0, 3, 0), ins(impl.InsCall, 0, 1, 0)),
		code(ins(impl.InsHold, 0, 0, 0), ins(impl.InsSet, 1, 1, 0), ins(impl.InsDo, 0, 1, impl.OpSub), ins(impl.InsCall, 0, 1, 0)),
	)
	r = impl.RunGo(p, nil, impl.RunMax)
	if r.End != impl.EndFault || r.Site != (impl.Site{Proc: 1, Fault: impl.FaultHold}) || len(r.Frames) != impl.StackMax || r.Steps != 15 || !impl.RunOk(p, r) {
		t.Errorf("a hold of 0, deep: %+v", r)
	}
}
