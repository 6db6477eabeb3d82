package tests

import (
	"math/rand"
	"slices"

	"loop.example/gauger/impl"
)

// rowsAll is how many kinds of words there are, and rows of a sum.
const rowsAll = 3

func sameRow(a impl.Row, b impl.Row) bool {
	return a.Out == b.Out && slices.Equal(a.Sites, b.Sites) && slices.Equal(a.Calls, b.Calls)
}

func sameSum(a impl.Sum, b impl.Sum) bool {
	return a.Proc == b.Proc && slices.EqualFunc(a.Rows, b.Rows, sameRow)
}

// sameSums holds sums against each other; no list is an empty one.
func sameSums(a []impl.Sum, b []impl.Sum) bool {
	return slices.EqualFunc(a, b, sameSum)
}

func sameFlow(a impl.Flow, b impl.Flow) bool {
	return a.To == b.To && sameState(a.State, b.State)
}

func sameFlows(a []impl.Flow, b []impl.Flow) bool {
	return slices.EqualFunc(a, b, sameFlow)
}

func copySum(s impl.Sum) impl.Sum {
	s.Rows = slices.Clone(s.Rows)
	for at := range s.Rows {
		r := &s.Rows[at]
		r.Sites, r.Calls = slices.Clone(r.Sites), slices.Clone(r.Calls)
	}
	return s
}

// copySums shares no memory with sums.
func copySums(sums []impl.Sum) []impl.Sum {
	var other []impl.Sum
	for _, s := range sums {
		other = append(other, copySum(s))
	}
	return other
}

func copyFlows(flows []impl.Flow) []impl.Flow {
	var other []impl.Flow
	for _, f := range flows {
		other = append(other, impl.Flow{To: f.To, State: copyOfState(f.State)})
	}
	return other
}

// isCalled says whether an instruction of a procedure calls another one.
func isCalled(p []impl.Proc, proc int, other int) bool {
	return slices.ContainsFunc(p[proc].Code, func(i impl.Ins) bool { return i.Kind == 8 && i.B == other })
}

// rowFine is when a row of a procedure of an ok program is ok.
func rowFine(p []impl.Proc, proc int, r impl.Row) bool {
	fine := r.Out == none() || spanFine(r.Out)
	last := -1
	for _, s := range r.Sites {
		fine = fine && s.Proc == proc && siteFine(p, s) && s.At > last
		last = s.At
	}
	last = -1
	for _, c := range r.Calls {
		rank := c.Proc*rowsAll + c.Kind
		fine = fine && isCalled(p, proc, c.Proc) && inRange(c.Kind, 0, rowsAll-1) && rank > last
		last = rank
	}
	return fine
}

// sumFine is what SumOk must say.
func sumFine(p []impl.Proc, s impl.Sum) bool {
	if !progFine(p) || !inRange(s.Proc, 0, len(p)-1) || len(s.Rows) != rowsAll {
		return false
	}
	return !slices.ContainsFunc(s.Rows, func(r impl.Row) bool { return !rowFine(p, s.Proc, r) })
}

// sumsFine is what SumsOk must say.
func sumsFine(p []impl.Proc, sums []impl.Sum) bool {
	fine := progFine(p)
	last := -1
	for _, s := range sums {
		fine = fine && sumFine(p, s) && s.Proc > last
		last = s.Proc
	}
	return fine
}

// kindNumber is the kind of a word.
func kindNumber(n int) int {
	if n < 0 {
		return 0
	}
	return min(n, 1) + 1
}

// outFine is what SumOut must say, word by word of what it is called with.
func outFine(p []impl.Proc, sums []impl.Sum, proc int, arg impl.Span) impl.Span {
	if !sumsFine(p, sums) || !spanFine(arg) {
		return none()
	}
	var set uint32
	for _, s := range sums {
		for _, n := range wordsOf(arg) {
			if s.Proc == proc {
				set |= setOf(s.Rows[kindNumber(n)].Out)
			}
		}
	}
	return leastSpan(set)
}

// insFrom is the instruction at a place, and true, if one comes by it: all is
// ok, and the state not none. It is of kind 0 at the end of a code.
func insFrom(p []impl.Proc, proc int, at int, s impl.State) (impl.Ins, bool) {
	if !progFine(p) || !inRange(proc, 0, len(p)-1) || !inRange(at, 0, len(p[proc].Code)) || !stateFine(s) || !s.Any {
		return impl.Ins{}, false
	}
	if at == len(p[proc].Code) {
		return impl.Ins{}, true
	}
	return p[proc].Code[at], true
}

// sets has the words of each span of a state, as bits.
type sets [spansAll]uint32

func setsOf(s impl.State) sets {
	var all sets
	for at, sp := range spansOf(s) {
		all[at] = setOf(sp)
	}
	return all
}

// flowTo is the flow to a place with the least spans of sets; none, if one of them is empty.
func (all sets) flowTo(to int) []impl.Flow {
	var spans [spansAll]impl.Span
	for at, set := range all {
		if set == 0 {
			return nil
		}
		spans[at] = leastSpan(set)
	}
	return []impl.Flow{{To: to, State: state(spans)}}
}

// cellBits is the numbers of cells.
const cellBits = uint32(7) << 16

// flowsFine is what FlowNext must say, by sets of words.
func flowsFine(p []impl.Proc, sums []impl.Sum, proc int, at int, s impl.State) []impl.Flow {
	i, ok := insFrom(p, proc, at, s)
	if !ok || !sumsFine(p, sums) {
		return nil
	}
	was := setsOf(s)
	then := was
	switch i.Kind {
	case 0, 9:
		return nil
	case 1:
		then[i.A] = bitOf(i.B)
	case 2:
		then[i.A] = was[i.B]
	case 3:
		then[i.A] = setOf(span(0, i.B))
	case 4:
		then[i.A] = setDone(i.C, was[i.A], was[i.B])
	case 5:
		return then.flowTo(i.C)
	case 6, 7:
		yes, not := was.split(i, true), was.split(i, false)
		return append(yes.flowTo(i.C), not.flowTo(at+1)...)
	case 8:
		then[i.A] = setOf(outFine(p, sums, i.B, s.Regs[i.C]))
	case 10:
		then[i.A] = was[i.A] &^ bitOf(0)
	case 11:
		then[i.A] = was[i.A] & cellBits
		then[regsAll] |= was[i.B]
	case 12:
		then[i.B] = was[i.B] & cellBits
		if then[i.B] == 0 {
			return nil
		}
		then[i.A] = was[regsAll]
	}
	return then.flowTo(at + 1)
}

// setDone is the words of SpanDo.
func setDone(op int, a uint32, b uint32) uint32 {
	var set uint32
	for x := lowWord; x <= highWord; x++ {
		for y := lowWord; y <= highWord; y++ {
			n, ok := plainDo(op, x, y)
			if a&bitOf(x) == 0 || b&bitOf(y) == 0 || !ok {
				continue
			}
			if !inRange(n, lowWord, highWord) {
				return everyWord
			}
			set |= bitOf(n)
		}
	}
	return setOf(leastSpan(set))
}

// everyWord is all words.
const everyWord = ^uint32(0)

// split is what is left where a comparison is so, or not.
func (all sets) split(i impl.Ins, yes bool) sets {
	var first, second uint32
	for x := lowWord; x <= highWord; x++ {
		for y := lowWord; y <= highWord; y++ {
			so := i.Kind == 6 && x < y || i.Kind == 7 && x == y
			if so == yes && all[i.A]&bitOf(x) != 0 && all[i.B]&bitOf(y) != 0 {
				first |= bitOf(x)
				second |= bitOf(y)
			}
		}
	}
	first, second = setOf(leastSpan(first)), setOf(leastSpan(second))
	if i.A == i.B {
		first, second = first&second, first&second
	}
	all[i.A], all[i.B] = first, second
	return all
}

// flowOutFine is what FlowOut must say.
func flowOutFine(p []impl.Proc, proc int, at int, s impl.State) impl.Span {
	i, ok := insFrom(p, proc, at, s)
	switch {
	case ok && i.Kind == 0:
		return span(0, 0)
	case ok && i.Kind == 9:
		return s.Regs[i.A]
	}
	return none()
}

// flowSitesFine is what FlowSites must say: that some words are wrong.
func flowSitesFine(p []impl.Proc, proc int, at int, s impl.State) []impl.Site {
	i, ok := insFrom(p, proc, at, s)
	if !ok {
		return nil
	}
	for reg := range regsAll {
		for _, n := range wordsOf(s.Regs[reg]) {
			// One register alone makes an instruction wrong; the others are there, too.
			regs := []int{s.Regs[0].Lo, s.Regs[1].Lo, s.Regs[2].Lo}
			regs[reg] = n
			if isWrong(i, regs) {
				return []impl.Site{{Proc: proc, At: at, Fault: faultNumber(i)}}
			}
		}
	}
	return nil
}

// flowCallsFine is what FlowCalls must say.
func flowCallsFine(p []impl.Proc, proc int, at int, s impl.State) []impl.Call {
	i, ok := insFrom(p, proc, at, s)
	if !ok || i.Kind != 8 {
		return nil
	}
	var calls []impl.Call
	for _, n := range wordsOf(s.Regs[i.C]) {
		calls = append(calls, impl.Call{Proc: i.B, Kind: kindNumber(n)})
	}
	return slices.Compact(calls)
}

// sitesOf is all ok sites of a procedure, ascending.
func sitesOf(p []impl.Proc, proc int) []impl.Site {
	var all []impl.Site
	for at, i := range p[proc].Code {
		if fault := faultNumber(i); fault > 0 {
			all = append(all, impl.Site{Proc: proc, At: at, Fault: fault})
		}
	}
	return all
}

// callsAll is all calls that a row of a procedure may have, ascending.
func callsAll(p []impl.Proc, proc int) []impl.Call {
	var all []impl.Call
	for other := range p {
		for kind := 0; kind < rowsAll && isCalled(p, proc, other); kind++ {
			all = append(all, impl.Call{Proc: other, Kind: kind})
		}
	}
	return all
}

// someOf is some of a list, in its order.
func someOf[T any](from *rand.Rand, list []T) []T {
	var some []T
	for _, x := range list {
		if from.Intn(2) == 0 {
			some = append(some, x)
		}
	}
	return some
}

// someSum is an ok sum of a procedure; what it gives back is now and then none.
func someSum(from *rand.Rand, p []impl.Proc, proc int) impl.Sum {
	s := impl.Sum{Proc: proc}
	for range rowsAll {
		r := impl.Row{Sites: someOf(from, sitesOf(p, proc)), Calls: someOf(from, callsAll(p, proc))}
		if from.Intn(4) > 0 {
			r.Out = someSpan(from)
		}
		s.Rows = append(s.Rows, r)
	}
	return s
}

// allSums is ok sums of all procedures, in order.
func allSums(from *rand.Rand, p []impl.Proc) []impl.Sum {
	var all []impl.Sum
	for proc := range p {
		all = append(all, someSum(from, p, proc))
	}
	return all
}

// someSums is ok sums of none, some or all procedures.
func someSums(from *rand.Rand, p []impl.Proc) []impl.Sum {
	switch from.Intn(4) {
	case 0:
		return nil
	case 1:
		return someOf(from, allSums(from, p))
	}
	return allSums(from, p)
}

// fullSum has all sites and all calls in each row, no two of which give back the same.
func fullSum(p []impl.Proc, proc int) impl.Sum {
	s := impl.Sum{Proc: proc}
	for _, out := range []impl.Span{span(-16, -7), span(-2, 1), span(3, 15)} {
		out.Lo += proc
		s.Rows = append(s.Rows, impl.Row{Out: out, Sites: sitesOf(p, proc), Calls: callsAll(p, proc)})
	}
	return s
}

func fullSums(p []impl.Proc) []impl.Sum {
	var all []impl.Sum
	for proc := range p {
		all = append(all, fullSum(p, proc))
	}
	return all
}

// ringsProg has procedures that call many, one, themselves, and none; nobody
// calls the last one. Procedures 0 and 1 have the same fault at place 0.
func ringsProg() []impl.Proc {
	hold := ins(impl.InsHold, 0, 0, 0)
	return prog(
		code(
			hold, ins(impl.InsCall, 1, 2, 0), ins(impl.InsPut, 0, 1, 0), ins(impl.InsCall, 0, 0, 2),
			ins(impl.InsDo, 0, 1, impl.OpDiv), ins(impl.InsCall, 2, 1, 1), ins(impl.InsDo, 0, 1, impl.OpMul), ins(impl.InsGet, 1, 0, 0),
		),
		code(hold, ins(impl.InsCall, 2, 2, 1), hold, ins(impl.InsBack, 2, 0, 0)),
		code(ins(impl.InsLess, 0, 1, 3), ins(impl.InsCall, 0, 2, 0), ins(impl.InsGet, 2, 2, 0)),
		nil,
	)
}

// allIns is each instruction that may stand in a code of that size.
func allIns(procs int, size int) []impl.Ins {
	var all []impl.Ins
	for kind := 1; kind <= kindsAll; kind++ {
		var least, most [3]int
		for at := range least {
			least[at], most[at] = limitsOf(kindRows()[kind].abc[at], procs, size)
		}
		for a := least[0]; a <= most[0]; a++ {
			for b := least[1]; b <= most[1]; b++ {
				for c := least[2]; c <= most[2]; c++ {
					all = append(all, ins(kind, a, b, c))
				}
			}
		}
	}
	return all
}

// insProg has an instruction at a place among calm ones, and procedures that it may call.
func insProg(i impl.Ins, at int, size int) []impl.Proc {
	list := slices.Repeat(code(ins(impl.InsMove, 0, 0, 0)), size)
	list[at] = i
	return prog(list, nil, code(ins(impl.InsGo, 0, 0, 0)))
}

// flowGiven is what a flow is asked with, all of it ok.
type flowGiven struct {
	p    []impl.Proc
	sums []impl.Sum
	proc int
	at   int
	s    impl.State
}

// eachIns is each instruction at each place of a code of three, with states
// at edges and others, and sums, the same ones each time.
func eachIns(states int) []flowGiven {
	from := rand.New(rand.NewSource(8))
	var all []flowGiven
	for n, i := range allIns(3, 3) {
		at := n % 3
		p := insProg(i, at, 3)
		for range states {
			all = append(all, flowGiven{p, someSums(from, p), 0, at, someState(from)})
		}
		edges := edgeStates()
		for k := n % 4; k < len(edges); k += 4 {
			all = append(all, flowGiven{p, allSums(from, p), 0, at, edges[k]})
		}
	}
	return all
}

// somePlaces is each place of many programs, the same ones each time.
func somePlaces(progs int) []flowGiven {
	from := rand.New(rand.NewSource(9))
	var all []flowGiven
	for _, p := range someProgs(progs) {
		sums := someSums(from, p)
		for proc := range p {
			for at := range len(p[proc].Code) + 1 {
				all = append(all, flowGiven{p, sums, proc, at, someState(from)})
			}
		}
	}
	return all
}

// flowGivens is of both sorts.
func flowGivens() []flowGiven {
	return append(eachIns(24), somePlaces(600)...)
}

// ins is the instruction that is asked for, of kind 0 at the end.
func (g flowGiven) ins() impl.Ins {
	i, _ := insFrom(g.p, g.proc, g.at, state([spansAll]impl.Span{span(0, 0), span(0, 0), span(0, 0), span(0, 0)}))
	return i
}

func (g flowGiven) next() []impl.Flow {
	return impl.FlowNext(g.p, g.sums, g.proc, g.at, g.s)
}

// someWordsOf is words of a state that is not none: corners, and others.
func someWordsOf(from *rand.Rand, s impl.State, many int) []words {
	all := cornersOf(s)
	for range many {
		w := words{make([]int, regsAll), make([]int, cellsAll)}
		for at := range regsAll + cellsAll {
			list := wordsOf(spansOf(s)[min(at, regsAll)])
			w = w.withWord(at, list[from.Intn(len(list))])
		}
		all = append(all, w)
	}
	return all
}

// runAt is a run whose last frame is at the place that is asked for, with
// these words, and has one below it, if deep.
func (g flowGiven) runAt(w words, deep bool) impl.Run {
	f := impl.Frame{Proc: g.proc, At: g.at, Regs: slices.Clone(w.regs), Cells: slices.Clone(w.cells), Into: 1}
	if deep {
		return running(frame(0, 0, [3]int{}, [3]int{}), f)
	}
	return running(f)
}

// leads says whether some flow leads to a place with these words.
func leads(flows []impl.Flow, to int, w words) bool {
	return slices.ContainsFunc(flows, func(f impl.Flow) bool { return f.To == to && impl.StateHas(f.State, w.regs, w.cells) })
}
