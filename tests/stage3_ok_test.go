package tests

import (
	"math"
	"math/rand"
	"slices"
	"strconv"
	"testing"

	"loop.example/gauger/impl"
)

func TestConstantsOfRuns(t *testing.T) {
	got := []int{
		impl.StackMax, impl.RunMax, impl.FaultDiv, impl.FaultCell, impl.FaultHold,
		impl.EndNot, impl.EndDone, impl.EndFault, impl.EndDeep,
	}
	if want := []int{5, 300, 1, 2, 3, 0, 1, 2, 3}; !slices.Equal(got, want) {
		t.Errorf("constants %v, not %v", got, want)
	}
}

// sitesProg has each instruction with a fault, and some without.
func sitesProg() []impl.Proc {
	return prog(
		code(ins(impl.InsHold, 0, 0, 0), ins(impl.InsCall, 0, 1, 0), ins(impl.InsHold, 2, 0, 0)),
		code(
			ins(impl.InsHold, 0, 0, 0), ins(impl.InsPut, 0, 1, 0), ins(impl.InsGet, 1, 0, 0), ins(impl.InsDo, 0, 1, impl.OpDiv),
			ins(impl.InsDo, 0, 1, impl.OpMul), ins(impl.InsAsk, 0, 5, 0), ins(impl.InsCall, 2, 1, 2),
		),
	)
}

// deepFrames is so many frames of sitesProg.
func deepFrames(many int) []impl.Frame {
	list := []impl.Frame{frame(0, 2, [3]int{1, 2, 3}, [3]int{4, 5, 6})}
	for len(list) < many {
		list = append(list, impl.Frame{Proc: 1, Arg: -16, At: 7, Regs: []int{-16, 15, 0}, Cells: []int{15, 0, -16}, Into: 2})
	}
	return list[:many]
}

// endedRuns is an ok run of sitesProg of each End.
func endedRuns() []impl.Run {
	all := []impl.Run{
		{Frames: deepFrames(framesMost), Steps: 20},
		{End: impl.EndDone, Steps: 20, Out: 15},
		{Frames: deepFrames(3), Steps: 20, End: impl.EndFault, Site: impl.Site{Proc: 1, At: 2, Fault: impl.FaultCell}},
		{Frames: deepFrames(framesMost), Steps: 20, End: impl.EndDeep},
	}
	all[2].Frames[2].At = 2
	return all
}

// takesRun holds what is said of a run against what must be.
func takesRun(t *testing.T, p []impl.Proc, r impl.Run, name string) {
	t.Helper()
	if !impl.RunOk(p, r) || !runFine(p, r) {
		t.Errorf("%s: %+v is not ok", name, r)
	}
	for _, input := range []int{0, -1, 7} {
		if got, want := impl.RunStep(p, r, input), stepFine(p, r, input); !sameRun(got, want) {
			t.Errorf("%s: a step of %+v is %+v, not %+v", name, r, got, want)
		}
	}
	if got := impl.RunAsks(p, r); got != asksFine(p, r) {
		t.Errorf("%s: RunAsks of %+v is %t", name, r, got)
	}
}

// refusesRun asks for the answers at what is not ok.
func refusesRun(t *testing.T, p []impl.Proc, r impl.Run, name string) {
	t.Helper()
	if impl.RunOk(p, r) || runFine(p, r) {
		t.Errorf("%s: %+v is ok", name, r)
	}
	if impl.RunAsks(p, r) {
		t.Errorf("%s: %+v asks", name, r)
	}
	for _, input := range someInputs() {
		if got := impl.RunStep(p, r, input); !isNothing(got) {
			t.Errorf("%s: a step of %+v is %+v", name, r, got)
		}
	}
}

func TestOkOfARunOfEachEnd(t *testing.T) {
	for end, r := range endedRuns() {
		if r.End != end {
			t.Fatalf("run %d has End %d", end, r.End)
		}
		takesRun(t, sitesProg(), r, "End "+strconv.Itoa(end))
		for other := -1; other <= 4; other++ {
			changed := copyRun(r)
			changed.End = other
			if got := impl.RunOk(sitesProg(), changed); got != runFine(sitesProg(), changed) {
				t.Errorf("RunOk of %+v is %t", changed, got)
			}
		}
	}
}

// frameChange is what is done to a frame, and whether it is ok then.
type frameChange struct {
	name string
	ok   bool
	do   func(f *impl.Frame)
}

func frameChanges() []frameChange {
	all := []frameChange{
		{"Regs none", false, func(f *impl.Frame) { f.Regs = nil }},
		{"Regs too few", false, func(f *impl.Frame) { f.Regs = f.Regs[:2] }},
		{"Regs too many", false, func(f *impl.Frame) { f.Regs = append(f.Regs, 0) }},
		{"Cells none", false, func(f *impl.Frame) { f.Cells = nil }},
		{"Cells too few", false, func(f *impl.Frame) { f.Cells = f.Cells[:2] }},
		{"Cells too many", false, func(f *impl.Frame) { f.Cells = append(f.Cells, 0) }},
		{"At past the end", false, func(f *impl.Frame) { f.At = len(sitesProg()[f.Proc].Code) + 1 }},
	}
	for _, n := range []int{math.MinInt, -17, -1, 3, 16, 32, math.MaxInt} {
		all = append(all, frameChange{"Into " + strconv.Itoa(n), false, func(f *impl.Frame) { f.Into = n }})
	}
	for _, n := range []int{math.MinInt, -1, 2, 3, 4, math.MaxInt} {
		all = append(all, frameChange{"Proc " + strconv.Itoa(n), false, func(f *impl.Frame) { f.Proc = n }})
	}
	for _, n := range []int{math.MinInt, -1, 8, 9, math.MaxInt} {
		all = append(all, frameChange{"At " + strconv.Itoa(n), false, func(f *impl.Frame) { f.At = n }})
	}
	for into := range regsAll {
		all = append(all, frameChange{"Into " + strconv.Itoa(into), true, func(f *impl.Frame) { f.Into = into }})
	}
	for _, n := range append(noWords(), lowWord, -1, 0, 1, highWord) {
		word, name := inRange(n, lowWord, highWord), strconv.Itoa(n)
		all = append(all, frameChange{"Arg " + name, word, func(f *impl.Frame) { f.Arg = n }})
		for at := range 3 {
			all = append(all,
				frameChange{"register " + name, word, func(f *impl.Frame) { f.Regs[at] = n }},
				frameChange{"cell " + name, word, func(f *impl.Frame) { f.Cells[at] = n }},
			)
		}
	}
	return all
}

func TestOkOfEachThingOfAFrame(t *testing.T) {
	for _, r := range endedRuns() {
		for at := range r.Frames {
			for _, change := range frameChanges() {
				changed := copyRun(r)
				change.do(&changed.Frames[at])
				name := "End " + strconv.Itoa(r.End) + ", frame " + strconv.Itoa(at) + ", " + change.name
				if change.ok {
					takesRun(t, sitesProg(), changed, name)
				} else {
					refusesRun(t, sitesProg(), changed, name)
				}
			}
		}
	}
}

func TestOkOfEachPlace(t *testing.T) {
	for proc, code := range sitesProg() {
		for at := range len(code.Code) + 1 {
			takesRun(t, sitesProg(), running(frame(proc, at, [3]int{1, 1, 1}, [3]int{})), "a place")
		}
	}
}

func TestOkOfSteps(t *testing.T) {
	for _, r := range endedRuns() {
		for _, steps := range []int{0, 1, stepsMost - 1, stepsMost} {
			r.Steps = steps
			takesRun(t, sitesProg(), r, "steps")
		}
		for _, steps := range []int{math.MinInt, -stepsMost, -1, stepsMost + 1, 2 * stepsMost, math.MaxInt} {
			r.Steps = steps
			refusesRun(t, sitesProg(), r, "steps")
		}
	}
}

func TestOkOfHowManyFrames(t *testing.T) {
	for _, r := range endedRuns() {
		for many := range 9 {
			r.Frames = deepFrames(many)
			ok := r.End == impl.EndNot && many >= 1 && many <= 5 || r.End == impl.EndDone && many == 0 || r.End == impl.EndDeep && many == 5
			if r.End == impl.EndFault && many > 0 {
				r.Frames[many-1].Proc, r.Frames[many-1].At = 1, 2
				ok = many <= 5
			}
			if ok {
				takesRun(t, sitesProg(), r, "frames")
			} else {
				refusesRun(t, sitesProg(), r, "frames")
			}
		}
	}
}

func TestOkOfEnds(t *testing.T) {
	for _, r := range endedRuns() {
		for _, end := range []int{math.MinInt, -2, -1, 4, 5, 256, math.MaxInt} {
			r.End = end
			refusesRun(t, sitesProg(), r, "End")
		}
	}
}

func TestOkOfOut(t *testing.T) {
	for _, r := range endedRuns() {
		for n := lowWord; n <= highWord; n++ {
			r.Out = n
			if n == 0 || r.End == impl.EndDone {
				takesRun(t, sitesProg(), r, "Out")
			} else {
				refusesRun(t, sitesProg(), r, "Out")
			}
		}
		for _, n := range noWords() {
			r.Out = n
			refusesRun(t, sitesProg(), r, "Out")
		}
	}
}

func TestOkOfSiteWhereItMustBeNothing(t *testing.T) {
	for _, r := range endedRuns() {
		if r.End == impl.EndFault {
			continue
		}
		for _, site := range []impl.Site{
			{Proc: 1}, {At: 1}, {Fault: 1}, {Fault: 3}, {Proc: -1}, {At: -1}, {Fault: -1},
			{Proc: 1, At: 2, Fault: impl.FaultCell}, {Proc: 0, At: 2, Fault: impl.FaultHold},
		} {
			r.Site = site
			refusesRun(t, sitesProg(), r, "Site")
		}
	}
}

func TestOkOfTheSiteOfAFault(t *testing.T) {
	p := sitesProg()
	faults := [][]int{{3, 0, 3, 0}, {3, 2, 2, 1, 0, 0, 0, 0}}
	for proc, list := range faults {
		for at, fault := range list {
			frames := append(deepFrames(2), frame(proc, at, [3]int{1, 1, 1}, [3]int{}))
			for other := -1; other <= 4; other++ {
				r := impl.Run{Frames: frames, End: impl.EndFault, Site: impl.Site{Proc: proc, At: at, Fault: other}}
				if fault > 0 && other == fault {
					takesRun(t, p, r, "its fault")
				} else {
					refusesRun(t, p, r, "not its fault")
				}
			}
		}
	}
}

func TestOkOfASiteOfAnotherPlace(t *testing.T) {
	p := sitesProg()
	numbers := []int{math.MinInt, -1, 0, 1, 2, 3, 4, 7, 8, math.MaxInt}
	for proc, at := range map[int]int{0: 2, 1: 0} {
		r := impl.Run{Frames: append(deepFrames(2), frame(proc, at, [3]int{}, [3]int{})), End: impl.EndFault}
		for _, otherProc := range numbers {
			for _, otherAt := range numbers {
				for fault := -1; fault <= 4; fault++ {
					r.Site = impl.Site{Proc: otherProc, At: otherAt, Fault: fault}
					if otherProc == proc && otherAt == at && fault == impl.FaultHold {
						takesRun(t, p, r, "its site")
					} else {
						refusesRun(t, p, r, "not its site")
					}
				}
			}
		}
	}
}

func TestOkOfAFaultThatIsNotSo(t *testing.T) {
	// The document asks for the place and the fault, not for the words that are there.
	r := running(frame(0, 0, [3]int{5, 5, 5}, [3]int{}))
	r.End, r.Site = impl.EndFault, impl.Site{Fault: impl.FaultHold}
	takesRun(t, sitesProg(), r, "a hold of 5")
}

func TestOkOfGivenRuns(t *testing.T) {
	for _, g := range someGiven(400, 10) {
		if !impl.RunOk(g.p, g.r) || !runFine(g.p, g.r) {
			t.Fatalf("of %v not ok: %+v", g.p, g.r)
		}
	}
}

func TestOkOfRunsOfOtherPrograms(t *testing.T) {
	from := rand.New(rand.NewSource(5))
	all := someGiven(300, 3)
	for _, g := range all {
		p := all[from.Intn(len(all))].p
		if got := impl.RunOk(p, g.r); got != runFine(p, g.r) {
			t.Fatalf("of %v RunOk(%+v) is %t", p, g.r, got)
		}
		if got := impl.RunAsks(p, g.r); got != asksFine(p, g.r) {
			t.Fatalf("of %v RunAsks(%+v) is %t", p, g.r, got)
		}
		if got, want := impl.RunStep(p, g.r, 3), stepFine(p, g.r, 3); !sameRun(got, want) {
			t.Fatalf("of %v a step of %+v is %+v, not %+v", p, g.r, got, want)
		}
	}
}

func TestRunsOfProgramsThatAreNotOk(t *testing.T) {
	for _, p := range badProgs() {
		if got := impl.RunNew(p); !isNothing(got) {
			t.Errorf("RunNew(%v) is %+v", p, got)
		}
		for _, steps := range []int{-1, 0, 1, 10, stepsMost, stepsMost + 1} {
			if got := impl.RunGo(p, []int{1, 2, 3}, steps); !isNothing(got) {
				t.Errorf("RunGo(%v, %d) is %+v", p, steps, got)
			}
		}
		refusesRun(t, p, impl.Run{}, "nothing")
		refusesRun(t, p, impl.Run{End: impl.EndDone}, "done")
		refusesRun(t, p, running(frame(0, 0, [3]int{}, [3]int{})), "a beginning")
	}
}

func TestNothingIsNoRun(t *testing.T) {
	for _, p := range someProgs(20) {
		refusesRun(t, p, impl.Run{}, "nothing")
	}
}
