package tests

import (
	"math"
	"math/rand"
	"slices"
	"testing"

	"loop.example/gauger/impl"
)

func TestP46OutAtEachInstruction(t *testing.T) {
	for _, g := range flowGivens() {
		got := impl.FlowOut(g.p, g.proc, g.at, g.s)
		if want := flowOutFine(g.p, g.proc, g.at, g.s); got != want {
			t.Fatalf("of %v FlowOut at %d of %d, from %+v, is %+v, not %+v", g.p, g.at, g.proc, g.s, got, want)
		}
		if !impl.SpanOk(got) || got.Any && got != span(0, 0) && !slices.Contains(g.s.Regs, got) {
			t.Fatalf("FlowOut from %+v is %+v", g.s, got)
		}
	}
}

func TestP46OutIsARegisterOrNoughtAtTheEnd(t *testing.T) {
	s := state([4]impl.Span{span(-5, -2), span(1, 3), span(2, 9), span(7, 7)})
	p := prog(code(ins(impl.InsBack, 0, 0, 0), ins(impl.InsBack, 1, 0, 0), ins(impl.InsBack, 2, 0, 0), ins(impl.InsMove, 0, 1, 0)), nil)
	for at, want := range []impl.Span{span(-5, -2), span(1, 3), span(2, 9), none(), span(0, 0), none()} {
		if got := impl.FlowOut(p, 0, at, s); got != want {
			t.Errorf("FlowOut at %d is %+v, not %+v", at, got, want)
		}
	}
	if got := impl.FlowOut(p, 1, 0, s); got != span(0, 0) {
		t.Errorf("FlowOut at the end of nothing is %+v", got)
	}
}

func TestP46WhatARunGivesBackIsOfOut(t *testing.T) {
	from := rand.New(rand.NewSource(18))
	backs := 0
	for _, g := range flowGivens() {
		if kind := g.ins().Kind; !g.s.Any || kind != 0 && kind != impl.InsBack {
			continue
		}
		out := impl.FlowOut(g.p, g.proc, g.at, g.s)
		for _, w := range someWordsOf(from, g.s, 4) {
			alone, deep := impl.RunStep(g.p, g.runAt(w, false), 0), impl.RunStep(g.p, g.runAt(w, true), 0)
			if alone.End != impl.EndDone || len(deep.Frames) != 1 {
				t.Fatalf("a run at %v does not give back", g.ins())
			}
			backs++
			if !impl.SpanHas(out, alone.Out) || !impl.SpanHas(out, lastFrame(deep).Regs[1]) {
				t.Fatalf("from %+v FlowOut is %+v; from %v a run gives back %d", g.s, out, w, alone.Out)
			}
		}
	}
	if backs < 1000 {
		t.Errorf("only %d gave back", backs)
	}
}

func TestP47P48SitesAtEachInstruction(t *testing.T) {
	told := make([]int, 4)
	for _, g := range flowGivens() {
		got, want := impl.FlowSites(g.p, g.proc, g.at, g.s), flowSitesFine(g.p, g.proc, g.at, g.s)
		if !slices.Equal(got, want) {
			t.Fatalf("of %v FlowSites at %d of %d, from %+v, is %v, not %v", g.p, g.at, g.proc, g.s, got, want)
		}
		for _, s := range got {
			told[s.Fault]++
			if s.Proc != g.proc || s.At != g.at || s.Fault != faultNumber(g.ins()) {
				t.Fatalf("FlowSites at %d of %d is %v", g.at, g.proc, got)
			}
		}
	}
	if slices.Min(told[1:]) < 100 {
		t.Errorf("told %v of each fault", told)
	}
}

func TestP47WhatIsWrongInARunIsTold(t *testing.T) {
	from := rand.New(rand.NewSource(19))
	wrong := make([]int, 4)
	for _, g := range flowGivens() {
		if !g.s.Any {
			continue
		}
		sites := impl.FlowSites(g.p, g.proc, g.at, g.s)
		for _, w := range someWordsOf(from, g.s, 6) {
			for _, r := range []impl.Run{impl.RunStep(g.p, g.runAt(w, false), 0), impl.RunStep(g.p, g.runAt(w, true), 0)} {
				if r.End == impl.EndFault && !slices.Equal(sites, []impl.Site{r.Site}) {
					t.Fatalf("%v from %+v tells %v; from %v a run is wrong at %v", g.ins(), g.s, sites, w, r.Site)
				}
				wrong[r.Site.Fault]++
			}
		}
	}
	if slices.Min(wrong) < 100 {
		t.Errorf("wrong %v of each fault", wrong)
	}
}

func TestP48WhatIsToldIsWrongInSomeRun(t *testing.T) {
	told := 0
	for _, g := range flowGivens() {
		for _, s := range impl.FlowSites(g.p, g.proc, g.at, g.s) {
			told++
			if !isWrongSomewhere(g, s) {
				t.Fatalf("%v from %+v tells %v; no run is wrong", g.ins(), g.s, s)
			}
		}
	}
	if told < 1000 {
		t.Errorf("only %d told", told)
	}
}

// isWrongSomewhere looks for words of the state at which a run is wrong.
func isWrongSomewhere(g flowGiven, s impl.Site) bool {
	first := cornersOf(g.s)[0]
	for reg := range regsAll {
		for _, n := range wordsOf(g.s.Regs[reg]) {
			w := first.withWord(reg, n)
			r := impl.RunStep(g.p, g.runAt(w, false), 0)
			if r.End == impl.EndFault && r.Site == s && impl.StateHas(g.s, w.regs, w.cells) {
				return true
			}
		}
	}
	return false
}

// Nothing, something and all of what a register may be is wrong.
func TestP47P48SitesOfEachFault(t *testing.T) {
	for _, c := range []struct {
		i     impl.Ins
		reg   int
		fault int
		right []impl.Span
		wrong []impl.Span
	}{
		{ins(impl.InsDo, 0, 1, impl.OpDiv), 1, impl.FaultDiv,
			[]impl.Span{span(1, 1), span(-1, -1), span(1, 15), span(-16, -1)}, []impl.Span{span(0, 0), span(0, 1), span(-1, 0), span(-16, 15)}},
		{ins(impl.InsDo, 2, 2, impl.OpDiv), 2, impl.FaultDiv,
			[]impl.Span{span(1, 1), span(-1, -1), span(1, 15)}, []impl.Span{span(0, 0), span(0, 1), span(-1, 1)}},
		{ins(impl.InsHold, 2, 0, 0), 2, impl.FaultHold,
			[]impl.Span{span(1, 1), span(-1, -1), span(1, 15), span(-16, -1)}, []impl.Span{span(0, 0), span(0, 1), span(-1, 0), span(-16, 15)}},
		{ins(impl.InsPut, 1, 0, 0), 1, impl.FaultCell,
			[]impl.Span{span(0, 0), span(2, 2), span(0, 2), span(1, 2)}, []impl.Span{span(0, 3), span(-1, 2), span(3, 3), span(-1, -1), span(-16, 15)}},
		{ins(impl.InsPut, 1, 1, 0), 1, impl.FaultCell,
			[]impl.Span{span(0, 0), span(0, 2)}, []impl.Span{span(0, 3), span(-1, 2), span(3, 15), span(-16, -1)}},
		{ins(impl.InsGet, 0, 2, 0), 2, impl.FaultCell,
			[]impl.Span{span(0, 0), span(2, 2), span(0, 2), span(1, 2)}, []impl.Span{span(0, 3), span(-1, 2), span(3, 3), span(-1, -1), span(-16, 15)}},
		{ins(impl.InsGet, 0, 0, 0), 0, impl.FaultCell,
			[]impl.Span{span(0, 0), span(0, 2)}, []impl.Span{span(0, 3), span(-1, 2), span(3, 15), span(-16, -1)}},
	} {
		// No other register counts: the others would be wrong of all, or right of all.
		wild := state([4]impl.Span{span(-1, 9), span(-1, 9), span(-1, 9), span(-1, 9)})
		calm := state([4]impl.Span{span(1, 1), span(1, 1), span(1, 1), span(1, 1)})
		for at := range 3 {
			p := insProg(c.i, at, 3)
			for _, sp := range c.right {
				if got := impl.FlowSites(p, 0, at, with(wild, c.reg, sp)); len(got) != 0 {
					t.Errorf("%v with %+v tells %v", c.i, sp, got)
				}
			}
			for _, sp := range c.wrong {
				if got := impl.FlowSites(p, 0, at, with(calm, c.reg, sp)); !slices.Equal(got, []impl.Site{{Proc: 0, At: at, Fault: c.fault}}) {
					t.Errorf("%v with %+v tells %v", c.i, sp, got)
				}
			}
		}
	}
}

func TestP47OthersAreNeverWrong(t *testing.T) {
	wild := state([4]impl.Span{span(-16, 15), span(-16, 15), span(-16, 15), span(-16, 15)})
	for _, i := range allIns(3, 3) {
		got := impl.FlowSites(insProg(i, 1, 3), 0, 1, wild)
		if want := faultNumber(i) > 0; (len(got) == 1) != want || len(got) > 1 {
			t.Errorf("%v tells %v", i, got)
		}
	}
}

func TestP49CallsAtEachInstruction(t *testing.T) {
	told := 0
	for _, g := range flowGivens() {
		got, want := impl.FlowCalls(g.p, g.proc, g.at, g.s), flowCallsFine(g.p, g.proc, g.at, g.s)
		if !slices.Equal(got, want) {
			t.Fatalf("of %v FlowCalls at %d of %d, from %+v, is %v, not %v", g.p, g.at, g.proc, g.s, got, want)
		}
		for _, c := range got {
			told++
			if !slices.Contains(impl.ProgCalls(g.p, g.proc), c.Proc) || !inRange(c.Kind, 0, 2) {
				t.Fatalf("of %v %d calls %+v", g.p, g.proc, c)
			}
		}
	}
	if told < 500 {
		t.Errorf("only %d told", told)
	}
}

func TestP49WhatARunCallsIsTold(t *testing.T) {
	from := rand.New(rand.NewSource(20))
	called := make([]int, 3)
	for _, g := range flowGivens() {
		if !g.s.Any {
			continue
		}
		calls := impl.FlowCalls(g.p, g.proc, g.at, g.s)
		for _, w := range someWordsOf(from, g.s, 6) {
			r := impl.RunStep(g.p, g.runAt(w, false), 0)
			if len(r.Frames) != 2 {
				continue
			}
			f := lastFrame(r)
			c := impl.Call{Proc: f.Proc, Kind: kindNumber(f.Arg)}
			called[c.Kind]++
			if !slices.Contains(calls, c) {
				t.Fatalf("%v from %+v tells %v; a run calls %+v", g.ins(), g.s, calls, c)
			}
		}
	}
	if slices.Min(called) < 100 {
		t.Errorf("called %v of each kind", called)
	}
}

func TestP49CallsOfEachKind(t *testing.T) {
	for _, c := range []struct {
		arg   impl.Span
		kinds []int
	}{
		{span(-16, -16), []int{0}}, {span(-16, -1), []int{0}}, {span(0, 0), []int{1}}, {span(1, 1), []int{2}}, {span(3, 15), []int{2}},
		{span(-1, 0), []int{0, 1}}, {span(0, 1), []int{1, 2}}, {span(-1, 1), []int{0, 1, 2}}, {span(-16, 15), []int{0, 1, 2}},
	} {
		for reg := range regsAll {
			for proc := range 3 {
				var want []impl.Call
				for _, kind := range c.kinds {
					want = append(want, impl.Call{Proc: proc, Kind: kind})
				}
				// No other span has words of the same kinds alone.
				s := with(state([4]impl.Span{span(-16, 15), span(-16, 15), span(-16, 15), span(-16, 15)}), reg, c.arg)
				i := ins(impl.InsCall, (reg+1)%3, proc, reg)
				if got := impl.FlowCalls(insProg(i, 2, 3), 0, 2, s); !slices.Equal(got, want) {
					t.Errorf("%v with %+v calls %v, not %v", i, c.arg, got, want)
				}
			}
		}
	}
}

// tellsNothing asks for the answers at what one does not come by.
func tellsNothing(t *testing.T, g flowGiven, name string) {
	t.Helper()
	if got := g.next(); len(got) != 0 {
		t.Errorf("%s: FlowNext at %d of %d is %+v", name, g.at, g.proc, got)
	}
	if got := impl.FlowOut(g.p, g.proc, g.at, g.s); got != none() {
		t.Errorf("%s: FlowOut at %d of %d is %+v", name, g.at, g.proc, got)
	}
	if got := impl.FlowSites(g.p, g.proc, g.at, g.s); len(got) != 0 {
		t.Errorf("%s: FlowSites at %d of %d is %+v", name, g.at, g.proc, got)
	}
	if got := impl.FlowCalls(g.p, g.proc, g.at, g.s); len(got) != 0 {
		t.Errorf("%s: FlowCalls at %d of %d is %+v", name, g.at, g.proc, got)
	}
}

// wideState is wrong at each instruction that may be.
func wideState() impl.State {
	return state([4]impl.Span{span(-16, 15), span(-16, 15), span(-16, 15), span(-16, 15)})
}

func TestP50OfNoneAllIsNothing(t *testing.T) {
	from := rand.New(rand.NewSource(21))
	for _, i := range allIns(3, 3) {
		for at := range 4 {
			p := insProg(i, min(at, 2), 3)
			tellsNothing(t, flowGiven{p, fullSums(p), 0, at, noState()}, "none")
			tellsNothing(t, flowGiven{p, fullSums(p), 0, at, impl.State{Regs: []impl.Span{}}}, "none, with an empty list")
		}
	}
	for _, p := range someProgs(200) {
		for proc := range p {
			for at := range len(p[proc].Code) + 1 {
				tellsNothing(t, flowGiven{p, someSums(from, p), proc, at, noState()}, "none")
			}
		}
	}
}

func TestStatesThatAreNotOkTellNothing(t *testing.T) {
	for _, bad := range badStates() {
		for kind := 1; kind <= kindsAll; kind++ {
			for reg := range regsAll {
				i := ins(kind, reg, reg, 0)
				if kind == impl.InsDo {
					i.C = impl.OpDiv
				}
				i = namedAlone(i)
				p := insProg(i, 0, 1)
				tellsNothing(t, flowGiven{p, fullSums(p), 0, 0, bad.s}, bad.name)
				tellsNothing(t, flowGiven{p, fullSums(p), 0, 1, bad.s}, bad.name)
			}
		}
	}
}

// namedAlone is an instruction in which what is not named is 0.
func namedAlone(i impl.Ins) impl.Ins {
	abc := kindRows()[i.Kind].abc
	return ins(i.Kind, i.A*truth(abc[0] != '0'), i.B*truth(abc[1] != '0'), i.C*truth(abc[2] != '0'))
}

func TestProgramsThatAreNotOkTellNothing(t *testing.T) {
	for _, p := range badProgs() {
		for proc := -1; proc <= 5; proc++ {
			for at := -1; at <= codeMost+2; at++ {
				tellsNothing(t, flowGiven{p, nil, proc, at, wideState()}, "a program that is not ok")
			}
		}
	}
	// The instruction that is asked for is ok, another one is not.
	for _, i := range allIns(3, 3) {
		p := insProg(i, 0, 3)
		p[2].Code[0].C = 2
		for at := range 4 {
			tellsNothing(t, flowGiven{p, nil, 0, at, wideState()}, "another instruction that is not ok")
		}
	}
}

func TestPlacesThatAreNoneTellNothing(t *testing.T) {
	for _, p := range append(someProgs(300), ringsProg()) {
		for _, proc := range []int{math.MinInt, -2, -1, len(p), len(p) + 1, math.MaxInt} {
			for at := -1; at <= codeMost+1; at++ {
				tellsNothing(t, flowGiven{p, nil, proc, at, wideState()}, "no such procedure")
			}
		}
		for proc := range p {
			end := len(p[proc].Code)
			for _, at := range []int{math.MinInt, -2, -1, end + 1, end + 2, math.MaxInt} {
				tellsNothing(t, flowGiven{p, fullSums(p), proc, at, wideState()}, "no such place")
			}
			if out := impl.FlowOut(p, proc, end, wideState()); out != span(0, 0) {
				t.Errorf("of %v FlowOut at the end of %d is %+v", p, proc, out)
			}
		}
	}
}
