package tests

import (
	"math"
	"slices"
	"testing"

	"loop.example/gauger/impl"
)

func TestP31GoIsSoManySteps(t *testing.T) {
	for _, p := range someProgs(250) {
		for _, inputs := range someInputLists() {
			all := goFine(p, inputs, 60)
			for steps, want := range all {
				if got := impl.RunGo(p, inputs, steps); !sameRun(got, want) {
					t.Fatalf("of %v RunGo(%v, %d) is %+v, not %+v", p, inputs, steps, got, want)
				}
			}
		}
	}
}

func TestP31GoIsRunStepAgainAndAgain(t *testing.T) {
	for _, p := range someProgs(100) {
		for _, inputs := range someInputLists() {
			r, left := impl.RunNew(p), inputs
			for range impl.RunMax {
				input := 0
				if impl.RunAsks(p, r) && len(left) > 0 {
					input, left = left[0], left[1:]
				}
				r = impl.RunStep(p, r, input)
			}
			if got := impl.RunGo(p, inputs, impl.RunMax); !sameRun(got, r) {
				t.Fatalf("of %v RunGo(%v) is %+v, not %+v", p, inputs, got, r)
			}
		}
	}
}

// addsUp asks twice, in a procedure of its own, and adds; what is not asked
// for stands between.
func addsUp() []impl.Proc {
	return prog(
		code(
			ins(impl.InsSet, 2, 3, 0), ins(impl.InsCall, 0, 1, 2), ins(impl.InsMove, 1, 0, 0), ins(impl.InsCall, 0, 1, 0),
			ins(impl.InsDo, 1, 1, impl.OpAdd), ins(impl.InsDo, 1, 0, impl.OpAdd), ins(impl.InsBack, 1, 0, 0),
		),
		code(ins(impl.InsAsk, 2, 3, 0), ins(impl.InsBack, 2, 0, 0)),
	)
}

func TestP31InputsAreTakenOneBehindTheOther(t *testing.T) {
	// What comes out is twice the first, and the second.
	for _, c := range []struct {
		inputs []int
		out    int
	}{
		{nil, 0}, {[]int{}, 0}, {[]int{3}, 6}, {[]int{0, 3}, 3}, {[]int{2, 1}, 5}, {[]int{1, 2}, 4},
		{[]int{3, 3}, 9}, {[]int{1, 2, 3}, 4}, {[]int{1, 2, 3, 3, 3, 3, 3, 3, 3, 3, 3}, 4},
		{[]int{-1, 4}, 6}, {[]int{-3, 9}, 3}, {[]int{math.MinInt, math.MaxInt}, 3},
	} {
		for _, steps := range []int{11, 12, 100, impl.RunMax} {
			want := impl.Run{Steps: 11, End: impl.EndDone, Out: c.out}
			if got := impl.RunGo(addsUp(), c.inputs, steps); !sameRun(got, want) {
				t.Errorf("given %v: %+v", c.inputs, got)
			}
		}
	}
}

func TestP31NoStepsAndAllSteps(t *testing.T) {
	for _, p := range someProgs(200) {
		if got := impl.RunGo(p, []int{1}, 0); !sameRun(got, impl.RunNew(p)) {
			t.Fatalf("of %v no steps are %+v", p, got)
		}
		got := impl.RunGo(p, []int{1}, impl.RunMax)
		if !impl.RunOk(p, got) || got.End == impl.EndNot && got.Steps != impl.RunMax {
			t.Fatalf("of %v all steps are %+v", p, got)
		}
	}
}

func TestP31StepsThatAreOut(t *testing.T) {
	for _, p := range someProgs(30) {
		for _, steps := range []int{math.MinInt, -impl.RunMax, -1, impl.RunMax + 1, 2 * impl.RunMax, math.MaxInt} {
			for _, inputs := range someInputLists() {
				if got := impl.RunGo(p, inputs, steps); !isNothing(got) {
					t.Fatalf("of %v RunGo(%d) is %+v", p, steps, got)
				}
			}
		}
	}
}

// calledRight says whether each frame was called just ahead of where the one
// below is, and goes back into that register.
func calledRight(p []impl.Proc, frames []impl.Frame) bool {
	for at := 1; at < len(frames); at++ {
		below, f := frames[at-1], frames[at]
		if below.At < 1 {
			return false
		}
		i := p[below.Proc].Code[below.At-1]
		if i.Kind != 8 || i.B != f.Proc || i.A != f.Into {
			return false
		}
	}
	return len(frames) == 0 || frames[0].Proc == 0 && frames[0].Arg == 0 && frames[0].Into == 0
}

func TestP32EachFrameWasCalled(t *testing.T) {
	deepest := 0
	for _, p := range someProgs(1500) {
		r := impl.RunNew(p)
		for step := range 40 {
			if !calledRight(p, r.Frames) {
				t.Fatalf("of %v: %+v", p, r)
			}
			deepest = max(deepest, len(r.Frames))
			r = impl.RunStep(p, r, step)
		}
	}
	if deepest != impl.StackMax {
		t.Errorf("deepest is %d", deepest)
	}
}

// callAndBack makes a call by i, and what it gives back, from below on.
func callAndBack(t *testing.T, i impl.Ins, gives impl.Ins) {
	t.Helper()
	p := prog(code(ins(impl.InsHold, 0, 0, 0), i), code(ins(impl.InsSet, 1, 11, 0), gives))
	below := frame(0, 1, [3]int{-3, 5, 14}, [3]int{1, 2, 3})
	below.Arg, below.Into = 6, 1
	first := frame(1, 0, [3]int{8, 8, 8}, [3]int{8, 8, 8})
	called := impl.RunStep(p, impl.Run{Frames: []impl.Frame{first, below}, Steps: 4}, 0)
	arg := below.Regs[i.C]
	want := impl.Run{Steps: 5, Frames: []impl.Frame{first, below, {Proc: i.B, Arg: arg, Regs: []int{arg, 0, 0}, Cells: []int{0, 0, 0}, Into: i.A}}}
	want.Frames[1].At = 2
	if !sameRun(called, want) {
		t.Fatalf("%v: %+v, not %+v", i, called, want)
	}
	// At the end 0 is given back, whatever the registers are.
	out, steps := 0, 3
	if gives.Kind == impl.InsBack {
		out, steps = []int{arg, 11, 0}[gives.A], 2
	}
	r := called
	for range steps {
		r = impl.RunStep(p, r, 0)
	}
	want.Steps += steps
	want.Frames = want.Frames[:2]
	want.Frames[1].Regs = slices.Clone(below.Regs)
	want.Frames[1].Regs[i.A] = out
	if !sameRun(r, want) {
		t.Fatalf("%v, %v: %+v, not %+v", i, gives, r, want)
	}
}

func TestP32CallsAndWhatTheyGiveBack(t *testing.T) {
	for into := range regsAll {
		for arg := range regsAll {
			for from := range regsAll {
				callAndBack(t, ins(impl.InsCall, into, 1, arg), ins(impl.InsBack, from, 0, 0))
			}
			callAndBack(t, ins(impl.InsCall, into, 1, arg), ins(impl.InsMove, 2, 1, 0))
		}
	}
}

func TestP32ACallAtTheLastFrame(t *testing.T) {
	p := prog(code(ins(impl.InsHold, 0, 0, 0), ins(impl.InsCall, 1, 1, 2)), nil)
	for many := 1; many <= framesMost; many++ {
		r := impl.Run{Steps: 10}
		for at := range many {
			r.Frames = append(r.Frames, frame(0, 1, [3]int{at, at, at}, [3]int{at, at, at}))
		}
		got := impl.RunStep(p, r, 0)
		if got.Steps != 11 || got.Out != 0 || got.Site != (impl.Site{}) || !impl.RunOk(p, got) {
			t.Errorf("of %d frames: %+v", many, got)
		}
		deep := got.End == impl.EndDeep && sameFrames(got.Frames, r.Frames)
		calls := got.End == impl.EndNot && len(got.Frames) == many+1
		if many == framesMost && !deep || many < framesMost && !calls {
			t.Errorf("of %d frames: %+v", many, got)
		}
	}
}

func TestP32OthersAtTheLastFrameGoOn(t *testing.T) {
	p := sitesProg()
	for at := range 8 {
		r := running(deepFrames(framesMost)...)
		r.Frames[4].At, r.Frames[4].Regs = at, []int{1, 2, 3}
		if got := impl.RunStep(p, r, 0); (got.End == impl.EndDeep) != (at == 6) || !sameRun(got, stepFine(p, r, 0)) {
			t.Errorf("at %d: %+v", at, got)
		}
	}
}

func TestP33EndedIsTheSameByMoreSteps(t *testing.T) {
	ended := make([]int, 4)
	for _, p := range someProgs(300) {
		for _, inputs := range someInputLists() {
			last := impl.RunGo(p, inputs, impl.RunMax)
			ended[last.End]++
			if last.End == impl.EndNot {
				continue
			}
			for _, more := range []int{0, 1, 2, 7, impl.RunMax - last.Steps} {
				if got := impl.RunGo(p, inputs, min(last.Steps+more, impl.RunMax)); !sameRun(got, last) {
					t.Fatalf("of %v: by more steps %+v, not %+v", p, got, last)
				}
			}
			if got := impl.RunGo(p, inputs, last.Steps-1); got.End != impl.EndNot {
				t.Fatalf("of %v: by a step less %+v", p, got)
			}
		}
	}
	if slices.Min(ended) == 0 {
		t.Errorf("not each End was come to: %v", ended)
	}
}

// askedFor is how many inputs a run asks for.
func askedFor(p []impl.Proc, inputs []int, steps int) int {
	many := 0
	for _, r := range goFine(p, inputs, steps) {
		if r.Steps < steps && asksFine(p, r) {
			many++
		}
	}
	return many
}

func TestP33NotAskedForChangesNothing(t *testing.T) {
	for _, p := range someProgs(300) {
		for _, steps := range []int{1, 10, 50} {
			long := someInputLists()[5]
			want := impl.RunGo(p, long, steps)
			many := askedFor(p, long, steps)
			if got := impl.RunGo(p, long[:many], steps); !sameRun(got, want) {
				t.Fatalf("of %v: with just %d inputs %+v, not %+v", p, many, got, want)
			}
			other := append(slices.Clone(long[:many]), someInputs()...)
			if got := impl.RunGo(p, other, steps); !sameRun(got, want) {
				t.Fatalf("of %v: with other inputs behind %d %+v, not %+v", p, many, got, want)
			}
		}
	}
}

func TestP33FewerInputsAreNoughts(t *testing.T) {
	for _, p := range someProgs(300) {
		short := []int{7, -2}
		long := append(slices.Clone(short), make([]int, impl.RunMax)...)
		if got, want := impl.RunGo(p, short, 80), impl.RunGo(p, long, 80); !sameRun(got, want) {
			t.Fatalf("of %v: %+v, not %+v", p, got, want)
		}
	}
}

// someMark is no word.
const someMark = 77

// roomyList has spare room behind, filled with a mark.
func roomyList(list []int) []int {
	return append(append(make([]int, 0, len(list)+2), list...), someMark, someMark)[:len(list)]
}

// roomyRun has spare room behind each list, filled with marks.
func roomyRun(r impl.Run) impl.Run {
	many := len(r.Frames)
	list := make([]impl.Frame, 0, many+2)
	for _, f := range r.Frames {
		f.Regs, f.Cells = roomyList(f.Regs), roomyList(f.Cells)
		list = append(list, f)
	}
	r.Frames = append(list, impl.Frame{Proc: someMark}, impl.Frame{Proc: someMark})[:many]
	return r
}

func marksStay(list []int) bool {
	return slices.Equal(list[len(list):cap(list)][:2], []int{someMark, someMark})
}

// roomyStays says whether a run with spare room is as it was, and its room, too.
func roomyStays(roomy impl.Run, was impl.Run) bool {
	stays := sameRun(roomy, was)
	for _, f := range roomy.Frames {
		stays = stays && marksStay(f.Regs) && marksStay(f.Cells)
	}
	mark := impl.Frame{Proc: someMark}
	behind := roomy.Frames[len(roomy.Frames):cap(roomy.Frames)]
	return stays && sameFrame(behind[0], mark) && sameFrame(behind[1], mark)
}

// spoil writes over all of a run's memory, spare room included.
func spoil(r impl.Run) {
	all := r.Frames[:cap(r.Frames)]
	for at := range all {
		fill(all[at].Regs)
		fill(all[at].Cells)
		all[at] = impl.Frame{Proc: someMark, At: someMark}
	}
}

func fill(list []int) {
	full := list[:cap(list)]
	for at := range full {
		full[at] = -someMark
	}
}

func TestNothingIsWrittenIntoARun(t *testing.T) {
	mark := ins(77, 7, 7, 7)
	for _, g := range someGiven(300, 10) {
		p, r := withRoom(g.p, mark), roomyRun(g.r)
		impl.RunOk(p, r)
		impl.RunAsks(p, r)
		spoil(impl.RunStep(p, r, 5))
		if !roomyStays(r, g.r) {
			t.Fatalf("of %v %+v is now %+v", g.p, g.r, r)
		}
		inputs := roomyList([]int{3, 1, -4})
		spoil(impl.RunNew(p))
		spoil(impl.RunGo(p, inputs, 40))
		if !slices.Equal(inputs, []int{3, 1, -4}) || !marksStay(inputs) || !sameProg(p, g.p) {
			t.Fatalf("of %v inputs are now %v", g.p, inputs)
		}
		for _, proc := range p[:len(p)+2] {
			if behind := proc.Code[:cap(proc.Code)]; behind[len(behind)-1] != mark {
				t.Fatalf("behind the end of %v: %v", g.p, behind)
			}
		}
	}
}

// listsOf is all lists of numbers of a run's frames.
func listsOf(r impl.Run) [][]int {
	var all [][]int
	for _, f := range r.Frames {
		all = append(all, f.Regs, f.Cells)
	}
	return all
}

// sharesNothing fills one list of a run at a time, and looks at all others.
func sharesNothing(t *testing.T, r impl.Run) {
	t.Helper()
	was := listsOf(copyRun(r))
	for at, list := range listsOf(r) {
		fill(list)
		for other, now := range listsOf(r) {
			if other != at && !slices.Equal(now, was[other]) {
				t.Fatalf("lists %d and %d of %+v share memory", at, other, r)
			}
		}
		copy(list, was[at])
	}
}

func TestListsOfARunShareNothing(t *testing.T) {
	for _, g := range someGiven(300, 10) {
		// One list as an argument in all frames, as nothing forbids.
		one := []int{1, 2, 3}
		for at := range g.r.Frames {
			g.r.Frames[at].Regs, g.r.Frames[at].Cells = one, one
		}
		sharesNothing(t, impl.RunStep(g.p, g.r, 5))
		sharesNothing(t, impl.RunNew(g.p))
		for _, steps := range []int{0, 1, 2, 5, 10, 40} {
			sharesNothing(t, impl.RunGo(g.p, []int{4, 5}, steps))
		}
	}
}

func TestNothingIsKeptOfARun(t *testing.T) {
	for _, g := range someGiven(100, 5) {
		want := copyRun(impl.RunStep(g.p, g.r, 5))
		spoil(impl.RunStep(g.p, g.r, 5))
		if got := impl.RunStep(g.p, g.r, 5); !sameRun(got, want) {
			t.Fatalf("of %v a step of %+v is now %+v", g.p, g.r, got)
		}
		first := copyRun(impl.RunNew(g.p))
		spoil(impl.RunNew(g.p))
		if got := impl.RunNew(g.p); !sameRun(got, first) {
			t.Fatalf("RunNew of %v is now %+v", g.p, got)
		}
	}
}
