package tests

import (
	"math"
	"math/rand"
	"slices"

	"loop.example/gauger/impl"
)

// The limits of runs, written down anew.
const (
	framesMost = 5
	stepsMost  = 300
	cellsAll   = 3
)

// How a run ended, written down anew.
const (
	notEnded   = 0
	endedDone  = 1
	endedFault = 2
	endedDeep  = 3
)

// frame is a call of a procedure with 0, at a place, into register 0.
func frame(proc int, at int, regs [3]int, cells [3]int) impl.Frame {
	return impl.Frame{Proc: proc, At: at, Regs: regs[:], Cells: cells[:]}
}

func running(frames ...impl.Frame) impl.Run {
	return impl.Run{Frames: frames}
}

func sameFrame(a impl.Frame, b impl.Frame) bool {
	return a.Proc == b.Proc && a.Arg == b.Arg && a.At == b.At && a.Into == b.Into &&
		slices.Equal(a.Regs, b.Regs) && slices.Equal(a.Cells, b.Cells)
}

func sameFrames(a []impl.Frame, b []impl.Frame) bool {
	return slices.EqualFunc(a, b, sameFrame)
}

// sameRun holds two runs against each other; no list is an empty one.
func sameRun(a impl.Run, b impl.Run) bool {
	return sameFrames(a.Frames, b.Frames) && a.Steps == b.Steps && a.End == b.End && a.Out == b.Out && a.Site == b.Site
}

func isNothing(r impl.Run) bool {
	return sameRun(r, impl.Run{})
}

// copyRun shares no memory with r.
func copyRun(r impl.Run) impl.Run {
	other := r
	other.Frames = nil
	for _, f := range r.Frames {
		f.Regs, f.Cells = slices.Clone(f.Regs), slices.Clone(f.Cells)
		other.Frames = append(other.Frames, f)
	}
	return other
}

func lastFrame(r impl.Run) impl.Frame {
	return r.Frames[len(r.Frames)-1]
}

func inRange(n int, least int, most int) bool {
	return least <= n && n <= most
}

// faultNumber is the fault of an instruction, by its numbers; 0, if it has none.
func faultNumber(i impl.Ins) int {
	switch {
	case i.Kind == 4 && i.C == 4:
		return 1
	case i.Kind == 11 || i.Kind == 12:
		return 2
	case i.Kind == 10:
		return 3
	}
	return 0
}

func siteFine(p []impl.Proc, s impl.Site) bool {
	if !inRange(s.Proc, 0, len(p)-1) || !inRange(s.At, 0, len(p[s.Proc].Code)-1) {
		return false
	}
	want := faultNumber(p[s.Proc].Code[s.At])
	return want > 0 && s.Fault == want
}

func wordsFine(list []int) bool {
	fine := len(list) == 3
	for _, n := range list {
		fine = fine && inRange(n, lowWord, highWord)
	}
	return fine
}

func frameFine(p []impl.Proc, f impl.Frame) bool {
	return inRange(f.Proc, 0, len(p)-1) && inRange(f.At, 0, len(p[f.Proc].Code)) && inRange(f.Arg, lowWord, highWord) &&
		wordsFine(f.Regs) && wordsFine(f.Cells) && inRange(f.Into, 0, regsAll-1)
}

// runFine is what RunOk must say.
func runFine(p []impl.Proc, r impl.Run) bool {
	many := len(r.Frames)
	fine := progFine(p) && many <= framesMost && inRange(r.Steps, 0, stepsMost) && inRange(r.End, 0, 3)
	for _, f := range r.Frames {
		fine = fine && frameFine(p, f)
	}
	if !fine {
		return false
	}
	if (r.End == endedDone) != (many == 0) || r.End == endedDeep && many != framesMost {
		return false
	}
	if r.End == endedFault {
		return r.Out == 0 && siteFine(p, r.Site) && r.Site.Proc == lastFrame(r).Proc && r.Site.At == lastFrame(r).At
	}
	return r.Site == impl.Site{} && (r.Out == 0 || r.End == endedDone && inRange(r.Out, lowWord, highWord))
}

// nextIns is the instruction that is next in an ok run that goes on; of kind 0
// at the end of a code.
func nextIns(p []impl.Proc, r impl.Run) impl.Ins {
	f := lastFrame(r)
	if list := p[f.Proc].Code; f.At < len(list) {
		return list[f.At]
	}
	return impl.Ins{}
}

// isWrong says whether an instruction cannot be done with such registers.
func isWrong(i impl.Ins, regs []int) bool {
	switch faultNumber(i) {
	case 1:
		return regs[i.B] == 0
	case 2:
		cell := regs[i.A]
		if i.Kind == 12 {
			cell = regs[i.B]
		}
		return !inRange(cell, 0, cellsAll-1)
	case 3:
		return regs[i.A] == 0
	}
	return false
}

// asksFine is what RunAsks must say.
func asksFine(p []impl.Proc, r impl.Run) bool {
	return runFine(p, r) && r.End == notEnded && nextIns(p, r).Kind == 3
}

// stepFine is what RunStep must say.
func stepFine(p []impl.Proc, r impl.Run, input int) impl.Run {
	if !runFine(p, r) {
		return impl.Run{}
	}
	next := copyRun(r)
	if r.End != notEnded || r.Steps == stepsMost {
		return next
	}
	next.Steps++
	i, f := nextIns(p, r), lastFrame(next)
	switch {
	case isWrong(i, f.Regs):
		next.End, next.Site = endedFault, impl.Site{Proc: f.Proc, At: f.At, Fault: faultNumber(i)}
	case i.Kind == 0:
		return wentBack(next, 0)
	case i.Kind == 9:
		return wentBack(next, f.Regs[i.A])
	case i.Kind == 8 && len(r.Frames) == framesMost:
		next.End = endedDeep
	case i.Kind == 8:
		next.Frames[len(r.Frames)-1].At++
		arg := f.Regs[i.C]
		next.Frames = append(next.Frames, impl.Frame{Proc: i.B, Arg: arg, Regs: []int{arg, 0, 0}, Cells: []int{0, 0, 0}, Into: i.A})
	default:
		next.Frames[len(r.Frames)-1] = wentOn(f, i, input)
	}
	return next
}

func wentBack(r impl.Run, n int) impl.Run {
	into := lastFrame(r).Into
	r.Frames = r.Frames[:len(r.Frames)-1]
	if len(r.Frames) == 0 {
		r.End, r.Out = endedDone, n
	} else {
		lastFrame(r).Regs[into] = n
	}
	return r
}

// wentOn is a frame behind an instruction of its own that can be done.
func wentOn(f impl.Frame, i impl.Ins, input int) impl.Frame {
	f.At++
	switch i.Kind {
	case 1:
		f.Regs[i.A] = i.B
	case 2:
		f.Regs[i.A] = f.Regs[i.B]
	case 3:
		f.Regs[i.A] = modulo(input, i.B+1)
	case 4:
		n, _ := plainDo(i.C, f.Regs[i.A], f.Regs[i.B])
		f.Regs[i.A] = wrapped(n)
	case 5:
		f.At = i.C
	case 6:
		if f.Regs[i.A] < f.Regs[i.B] {
			f.At = i.C
		}
	case 7:
		if f.Regs[i.A] == f.Regs[i.B] {
			f.At = i.C
		}
	case 11:
		f.Cells[f.Regs[i.A]] = f.Regs[i.B]
	case 12:
		f.Regs[i.A] = f.Cells[f.Regs[i.B]]
	}
	return f
}

// modulo looks for the number in 0..size-1 from which n is a multiple away.
func modulo(n int, size int) int {
	for rest := range size {
		// The remainder of a number below 0 is below 0, too.
		if n%size == rest || n%size == rest-size {
			return rest
		}
	}
	return -1
}

// goFine is what RunGo must say, with all that it comes by.
func goFine(p []impl.Proc, inputs []int, steps int) []impl.Run {
	r := running(frame(0, 0, [3]int{}, [3]int{}))
	all := []impl.Run{r}
	for range steps {
		input := 0
		if asksFine(p, r) && len(inputs) > 0 {
			input, inputs = inputs[0], inputs[1:]
		}
		r = stepFine(p, r, input)
		all = append(all, r)
	}
	return all
}

func someInputs() []int {
	return []int{math.MinInt, math.MinInt + 1, -1000, -17, -16, -1, 0, 1, 7, 15, 16, 17, 1000, math.MaxInt - 1, math.MaxInt}
}

// someWord is a word, mostly one at an edge.
func someWord(from *rand.Rand) int {
	edges := []int{lowWord, -4, -1, 0, 0, 1, 2, 3, highWord}
	if from.Intn(4) == 0 {
		return lowWord + from.Intn(wordsAll)
	}
	return edges[from.Intn(len(edges))]
}

func someWords(from *rand.Rand) [3]int {
	return [3]int{someWord(from), someWord(from), someWord(from)}
}

func someFrame(from *rand.Rand, p []impl.Proc) impl.Frame {
	proc := from.Intn(len(p))
	f := frame(proc, from.Intn(len(p[proc].Code)+1), someWords(from), someWords(from))
	f.Arg, f.Into = someWord(from), from.Intn(regsAll)
	return f
}

// someRun is an ok run of an ok program, whether or not one comes to it.
func someRun(from *rand.Rand, p []impl.Proc) impl.Run {
	edges := []int{0, 1, 2, stepsMost / 2, stepsMost - 2, stepsMost - 1, stepsMost}
	r := impl.Run{Steps: edges[from.Intn(len(edges))]}
	if from.Intn(10) == 0 {
		r.End, r.Out = endedDone, someWord(from)
		return r
	}
	for range 1 + from.Intn(framesMost) {
		r.Frames = append(r.Frames, someFrame(from, p))
	}
	f := lastFrame(r)
	if fault := faultNumber(nextIns(p, r)); fault > 0 && from.Intn(4) == 0 {
		r.End, r.Site = endedFault, impl.Site{Proc: f.Proc, At: f.At, Fault: fault}
	} else if len(r.Frames) == framesMost && from.Intn(4) == 0 {
		r.End = endedDeep
	}
	return r
}

// given is an ok program, and an ok run of it.
type given struct {
	p []impl.Proc
	r impl.Run
}

// someGiven is many, the same ones each time.
func someGiven(progs int, runs int) []given {
	from := rand.New(rand.NewSource(3))
	var all []given
	for _, p := range someProgs(progs) {
		for range runs {
			all = append(all, given{p, someRun(from, p)})
		}
	}
	return all
}

// someInputLists is none, few, and as many as can ever be asked for, and more.
func someInputLists() [][]int {
	from := rand.New(rand.NewSource(4))
	all := [][]int{nil, {}, {0}, {-1}, someInputs()}
	long := make([]int, stepsMost+20)
	for at := range long {
		long[at] = from.Intn(2000) - 1000
	}
	return append(all, long)
}
