package tests

import (
	"slices"
	"testing"

	"loop.example/gauger/impl"
)

// certsOf has each ring's RingLeast by SumsAll, by procedure and kind.
func certsOf(p []impl.Proc) [procsMost][rowsAll]impl.Cert {
	var all [procsMost][rowsAll]impl.Cert
	sums := impl.SumsAll(p)
	for ring := range ringsIn(p) {
		for _, c := range impl.RingLeast(p, sums, ring) {
			all[c.Proc][c.Kind] = c
		}
	}
	return all
}

func TestP63EachMomentIsOfTheStateOfItsPlace(t *testing.T) {
	t.Parallel()
	moments, deep := 0, 0
	for _, p := range sumsProgs(500) {
		certs := certsOf(p)
		for _, inputs := range someRuns(4) {
			eachMoment(p, inputs, 150, func(r impl.Run, then impl.Run) {
				if len(r.Frames) == 0 {
					return
				}
				f := lastFrame(r)
				s := certs[f.Proc][kindNumber(f.Arg)].States[f.At]
				if !impl.StateHas(s, f.Regs, f.Cells) {
					t.Fatalf("of %v, given %v, one is at %+v, not of %+v", p, inputs, f, s)
				}
				moments++
				deep += truth(len(r.Frames) > 1)
			})
		}
	}
	if moments < 10000 || deep < 5000 {
		t.Errorf("only %d moments, %d of which are in what is called", moments, deep)
	}
}

// momentCase is a program, what is given to it, and where one is by a run, step by step.
type momentCase struct {
	name   string
	p      []impl.Proc
	inputs []int
	frames []impl.Frame
}

func momentCases() []momentCase {
	at := func(proc int, arg int, at int, regs [3]int, cells [3]int, into int) impl.Frame {
		f := frame(proc, at, regs, cells)
		f.Arg, f.Into = arg, into
		return f
	}
	no := [3]int{}
	return []momentCase{
		{"called with a word below 0, that comes back", told("set 1 -3; call 2 1 1; put 0 2", "ask 1 4; do 0 1 1; back 0"), []int{4}, []impl.Frame{
			at(0, 0, 0, no, no, 0), at(0, 0, 1, [3]int{0, -3, 0}, no, 0),
			at(1, -3, 0, [3]int{-3, 0, 0}, no, 2), at(1, -3, 1, [3]int{-3, 4, 0}, no, 2), at(1, -3, 2, [3]int{1, 4, 0}, no, 2),
			at(0, 0, 2, [3]int{0, -3, 1}, no, 0), at(0, 0, 3, [3]int{0, -3, 1}, [3]int{1, 0, 0}, 0),
		}},
		{"itself with one less", told("same 0 1 2; go 4; ask 0 1; same 0 1 6; set 2 1; call 1 0 2; back 0"), []int{1}, []impl.Frame{
			at(0, 0, 0, no, no, 0), at(0, 0, 2, no, no, 0), at(0, 0, 3, [3]int{1, 0, 0}, no, 0), at(0, 0, 4, [3]int{1, 0, 0}, no, 0), at(0, 0, 5, [3]int{1, 0, 1}, no, 0),
			at(0, 1, 0, [3]int{1, 0, 0}, no, 1), at(0, 1, 1, [3]int{1, 0, 0}, no, 1), at(0, 1, 4, [3]int{1, 0, 0}, no, 1), at(0, 1, 5, [3]int{1, 0, 1}, no, 1),
			at(0, 1, 0, [3]int{1, 0, 0}, no, 1),
		}},
	}
}

func TestP63MomentsByHand(t *testing.T) {
	for _, c := range momentCases() {
		certs := certsOf(c.p)
		var frames []impl.Frame
		eachMoment(c.p, c.inputs, len(c.frames)-1, func(r impl.Run, then impl.Run) {
			f := lastFrame(r)
			frames = append(frames, f)
			if !impl.StateHas(certs[f.Proc][kindNumber(f.Arg)].States[f.At], f.Regs, f.Cells) {
				t.Errorf("%s: one is at %+v, not of its state", c.name, f)
			}
		})
		if !sameFrames(frames, c.frames) {
			t.Errorf("%s: one is at %+v, not at %+v", c.name, frames, c.frames)
		}
	}
}

func TestP64WhatIsGivenBackIsOfOut(t *testing.T) {
	t.Parallel()
	var back [rowsAll]int
	for _, p := range sumsProgs(500) {
		sums := impl.SumsAll(p)
		for _, inputs := range someRuns(4) {
			eachMoment(p, inputs, 150, func(r impl.Run, then impl.Run) {
				if len(then.Frames) == len(r.Frames)-1 {
					f := lastFrame(r)
					gave := then.Out
					if len(then.Frames) > 0 {
						gave = lastFrame(then).Regs[f.Into]
					}
					kind := kindNumber(f.Arg)
					if out := sums[f.Proc].Rows[kind].Out; !impl.SpanHas(out, gave) {
						t.Fatalf("of %v, given %v, %+v gives back %d, not of %+v", p, inputs, f, gave, out)
					}
					back[kind]++
				}
			})
		}
	}
	if min(back[0], back[1], back[2]) < 200 {
		t.Errorf("only %v give back", back)
	}
}

func TestP64WhatIsGivenBackByHand(t *testing.T) {
	for _, c := range []struct {
		name   string
		p      []impl.Proc
		out    impl.Span
		inputs []int
		gives  int
	}{
		{"at the end, 0", told("ask 0 9"), span(0, 0), []int{9}, 0},
		{"what it asked for", told("ask 1 9; back 1"), span(0, 9), []int{4}, 4},
		{"what it asked for, and did not get", told("ask 1 9; back 1"), span(0, 9), nil, 0},
		{"what another one gives back", told("set 0 2; call 1 1 0; back 1", "ask 2 3; do 0 2 3; back 0"), span(-16, 15), []int{3}, 6},
		{"what another one gives back by 0", told("call 1 1 0; back 1", "same 0 1 2; back 0; ask 2 3; back 2"), span(0, 3), []int{2}, 2},
		{"what another one gives back below 0", told("set 0 -5; call 1 1 0; back 1", "less 0 1 2; back 0; set 1 5; do 0 1 1; back 0"), span(-11, 4), nil, 0},
		{"what it gives back itself", told("ask 1 1; same 1 2 5; call 0 0 2; back 0; back 0; set 0 3; back 0"), span(3, 3), []int{1, 1, 0}, 3},
		{"one more than what it gives back itself", told("ask 1 1; same 1 2 6; call 0 0 2; set 2 1; do 0 2 1; back 0; set 0 9; back 0"), span(-16, 15), []int{1, 1, 0}, 11},
	} {
		out := impl.SumsAll(c.p)[0].Rows[impl.KindZero].Out
		if r := impl.RunGo(c.p, c.inputs, stepsMost); out != c.out || r.End != endedDone || r.Out != c.gives || !impl.SpanHas(out, r.Out) {
			t.Errorf("%s: Out is %+v, and given %v there is %+v", c.name, out, c.inputs, r)
		}
	}
}

// checkWrong says that, if a run is wrong, its site is told, and whether it is wrong.
func checkWrong(t *testing.T, p []impl.Proc, inputs []int, told []impl.Site) bool {
	t.Helper()
	r := impl.RunGo(p, inputs, stepsMost)
	if r.End == endedFault && !slices.Contains(told, r.Site) {
		t.Fatalf("of %v, given %v, a run is wrong at %+v, told is %v", p, inputs, r.Site, told)
	}
	return r.End == endedFault
}

func TestP65WhatGoesWrongIsTold(t *testing.T) {
	t.Parallel()
	var wrong [4]int
	behind := 0
	for _, p := range sumsProgs(1000) {
		told, ok := impl.VerdictOf(p, impl.SumsAll(p))
		if !ok {
			t.Fatalf("of %v it is not known", p)
		}
		for _, inputs := range someRuns(6) {
			if checkWrong(t, p, inputs, told) {
				s := impl.RunGo(p, inputs, stepsMost).Site
				wrong[s.Fault]++
				behind += truth(s.Proc > 0)
			}
		}
	}
	if min(wrong[1], wrong[2], wrong[3], behind) < 200 {
		t.Errorf("only %v are wrong, %d of them in what is called", wrong, behind)
	}
}

// wrongCase is a program that is wrong at a site by some inputs, and not by others.
type wrongCase struct {
	name  string
	p     []impl.Proc
	site  impl.Site
	wrong [][]int
	right [][]int
}

func wrongInTheFirst() []wrongCase {
	return []wrongCase{
		{"division", told("ask 0 5; set 1 10; do 1 0 4; back 1"), site(0, 2, 1), [][]int{nil, {0}, {6}, {-6}}, [][]int{{1}, {2}, {5}, {-1}}},
		{"cell to put", told("ask 0 5; put 0 1; back 0"), site(0, 1, 2), [][]int{{3}, {5}, {-1}, {9}}, [][]int{nil, {0}, {2}, {6}}},
		{"cell below 0 to get", told("ask 0 3; set 1 -1; do 0 1 1; get 2 0; back 2"), site(0, 3, 2), [][]int{nil, {0}, {4}}, [][]int{{1}, {3}}},
		{"hold", told("ask 0 1; hold 0; back 0"), site(0, 1, 3), [][]int{nil, {0}, {2}}, [][]int{{1}, {-1}}},
		{"hold of what was put", told("ask 0 2; ask 1 1; put 0 1; set 2 1; get 2 2; hold 2"), site(0, 5, 3), [][]int{nil, {0, 1}, {1, 0}, {2, 1}}, [][]int{{1, 1}}},
		{"hold of what is given back", told("call 1 1 0; hold 1", "ask 0 1; back 0"), site(0, 1, 3), [][]int{nil, {0}}, [][]int{{1}}},
		{"behind a jump backwards", told("ask 1 3; set 2 1; less 2 1 0; hold 1"), site(0, 3, 3), [][]int{nil, {2, 3, 0}}, [][]int{{1}, {2, 3, 2, 1}}},
		{"at the last of two asked for", told("ask 0 3; ask 1 3; do 0 1 2; hold 0"), site(0, 3, 3), [][]int{nil, {2, 2}}, [][]int{{2, 3}, {3}}},
	}
}

func wrongInTheCalled() []wrongCase {
	return []wrongCase{
		{"division", told("ask 1 5; call 2 1 1; back 2", "set 1 10; do 1 0 4; back 1"), site(1, 1, 1), [][]int{nil, {0}, {6}}, [][]int{{1}, {5}}},
		{"cell to put", told("ask 1 5; call 2 1 1; back 2", "put 0 0; back 1"), site(1, 0, 2), [][]int{{3}, {5}}, [][]int{nil, {2}}},
		{"cell to get", told("ask 1 5; call 2 1 1; back 2", "get 1 0; back 1"), site(1, 0, 2), [][]int{{3}, {5}}, [][]int{nil, {2}}},
		{"hold", told("ask 1 5; call 2 1 1; back 2", "hold 0; back 1"), site(1, 0, 3), [][]int{nil, {6}}, [][]int{{3}}},
		{"by what it is called with the second time", told("set 1 2; call 2 1 1; ask 1 2; call 2 1 1; back 2", "hold 0; back 1"), site(1, 0, 3), [][]int{nil, {0}}, [][]int{{1}, {2}}},
		{"by a word below 0 alone", told("ask 1 1; set 2 1; do 1 2 2; call 2 1 1", "less 0 1 2; back 0; ask 2 2; hold 2; back 2"), site(1, 3, 3),
			[][]int{nil, {0, 0}, {0, 3}}, [][]int{{1}, {0, 1}, {0, 2}}},
		{"what the called one calls", told("ask 1 2; call 2 1 1; back 2", "call 1 2 0; back 1", "ask 1 4; do 1 0 2; do 0 1 4; back 0"), site(2, 2, 1),
			[][]int{nil, {2, 2}, {1, 1}}, [][]int{{2, 1}, {0, 4}}},
		{"itself, at the bottom", told("ask 0 3; call 1 1 0; back 1", "same 0 1 4; set 2 1; do 0 2 2; call 0 1 0; ask 1 1; hold 1"), site(1, 5, 3),
			[][]int{nil, {3, 0}, {0}, {2, 1, 0}}, [][]int{{0, 1}, {1, 1, 1}, {2, 1, 1, 1}}},
		{"two that call each other", told("ask 0 2; call 1 1 0; back 1", "same 0 1 5; set 2 1; do 0 2 2; call 1 2 0; back 1; back 0", "ask 1 1; hold 1; call 1 1 0; back 1"), site(2, 1, 3),
			[][]int{{1, 0}, {2, 0}, {2, 1, 0}}, [][]int{nil, {1, 1}, {4, 1}}},
		{"the first one, called by another one", told("same 0 1 3; hold 1; back 0; ask 2 1; call 1 1 2; back 1", "same 0 1 2; call 0 0 0; back 0"), site(0, 1, 3),
			[][]int{{1}}, [][]int{nil, {0}, {2}}},
	}
}

func TestP65WhatGoesWrongByHand(t *testing.T) {
	for _, c := range append(wrongInTheFirst(), wrongInTheCalled()...) {
		told, ok := impl.VerdictOf(c.p, impl.SumsAll(c.p))
		if !ok || !slices.Equal(told, sitesAt(c.site)) {
			t.Errorf("%s: of %v VerdictOf is %v, %t", c.name, c.p, told, ok)
		}
		for _, inputs := range c.wrong {
			if r := impl.RunGo(c.p, inputs, stepsMost); r.End != endedFault || r.Site != c.site {
				t.Errorf("%s: given %v, of %v there is %+v", c.name, inputs, c.p, r)
			}
		}
		for _, inputs := range c.right {
			if r := impl.RunGo(c.p, inputs, stepsMost); r.End != endedDone {
				t.Errorf("%s: given %v, of %v there is %+v", c.name, inputs, c.p, r)
			}
		}
	}
}

// allInputs is each list of so many numbers, from 0 on, below a size.
func allInputs(many int, size int) [][]int {
	all := [][]int{nil}
	for range many {
		var longer [][]int
		for _, inputs := range all {
			for n := range size {
				longer = append(longer, append(slices.Clone(inputs), n))
			}
		}
		all = longer
	}
	return all
}

func TestP65WhateverIsGiven(t *testing.T) {
	t.Parallel()
	wrong, right := 0, 0
	for _, c := range append(wrongInTheFirst(), wrongInTheCalled()...) {
		told, _ := impl.VerdictOf(c.p, impl.SumsAll(c.p))
		for _, inputs := range allInputs(4, 6) {
			is := checkWrong(t, c.p, inputs, told)
			wrong, right = wrong+truth(is), right+truth(!is)
		}
	}
	for _, p := range busyProgs(60) {
		told, _ := impl.VerdictOf(p, impl.SumsAll(p))
		for _, inputs := range allInputs(4, 5) {
			is := checkWrong(t, p, inputs, told)
			wrong, right = wrong+truth(is), right+truth(!is)
		}
	}
	if min(wrong, right) < 5000 {
		t.Errorf("%d are wrong, %d right", wrong, right)
	}
}

func TestP66InAHurryNothingIsLeftOut(t *testing.T) {
	t.Parallel()
	wider, wrong := 0, 0
	for n, p := range sumsProgs(1200) {
		alone, _ := impl.VerdictOf(p, impl.SumsAll(p))
		for _, sums := range [][]impl.Sum{hastySums(p), mixedSums(p, n%16), mixedSums(p, 1<<(n%4))} {
			told, ok := impl.VerdictOf(p, sums)
			if !impl.SumsOk(p, sums) || len(sums) != len(p) || !ok || !allIn(alone, told) {
				t.Fatalf("of %v, by %+v, VerdictOf is %v, %t, and alone %v", p, sums, told, ok, alone)
			}
			for _, inputs := range someRuns(3) {
				wrong += truth(checkWrong(t, p, inputs, told))
			}
			wider += truth(len(told) > len(alone))
		}
	}
	if wider < 5 || wrong < 1000 {
		t.Errorf("only %d tell more, %d are wrong", wider, wrong)
	}
}

func TestP66InAHurryByHand(t *testing.T) {
	cell := sitesAt(site(0, 0, 2))
	for _, c := range []struct {
		name  string
		p     []impl.Proc
		alone []impl.Site
		hasty []impl.Site
	}{
		{"no instruction", told(""), nil, nil},
		{"nothing grows", told("ask 0 2; put 0 1"), nil, nil},
		{"nothing grows, and it is wrong", told("ask 0 3; put 0 1"), sitesAt(site(0, 1, 2)), sitesAt(site(0, 1, 2))},
		// Register 0 grows from 0 to 2 at place 0; in a hurry to 4.
		{"a number of a cell grows", told("put 0 1; ask 0 2; go 0"), nil, cell},
		{"a number of a cell grows, and is wrong", told("put 0 1; ask 0 3; go 0"), cell, cell},
		// What it gives back grows from 3 to 1, in a hurry to 0.
		{"what is given back grows", told("call 1 1 0; hold 1; back 1", "ask 1 1; same 1 2 4; set 0 3; back 0; set 0 1; move 2 0; back 0"),
			nil, sitesAt(site(0, 1, 3))},
		// Procedure 1 is called with 3 to 1; in a hurry with 0, too.
		{"words with which it calls grow", told("ask 1 1; set 0 3; same 1 2 4; set 0 1; call 1 1 0; back 1", "hold 0; back 0"), nil, sitesAt(site(1, 0, 3))},
	} {
		checkVerdict(t, c.name+", alone", c.p, impl.SumsAll(c.p), c.alone, true)
		checkVerdict(t, c.name+", in a hurry", c.p, hastySums(c.p), c.hasty, true)
	}
}
