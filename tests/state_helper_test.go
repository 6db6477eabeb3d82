package tests

import (
	"math"
	"math/rand"
	"slices"
	"strconv"

	"loop.example/gauger/impl"
)

// spansAll is how many spans a state has: those of registers, and of cells.
const spansAll = regsAll + 1

// state is not none; the last span is that of cells.
func state(spans [spansAll]impl.Span) impl.State {
	return impl.State{Any: true, Regs: slices.Clone(spans[:regsAll]), Cells: spans[regsAll]}
}

func noState() impl.State {
	return impl.State{}
}

// spansOf is the spans of a state, none being four that are none.
func spansOf(s impl.State) [spansAll]impl.Span {
	var spans [spansAll]impl.Span
	copy(spans[:], s.Regs)
	spans[regsAll] = s.Cells
	return spans
}

// with is an ok state that is not none, with another span at a place.
func with(s impl.State, at int, other impl.Span) impl.State {
	spans := spansOf(s)
	spans[at] = other
	return state(spans)
}

// sameState holds two states against each other; no list is an empty one.
func sameState(a impl.State, b impl.State) bool {
	return a.Any == b.Any && slices.Equal(a.Regs, b.Regs) && a.Cells == b.Cells
}

func copyOfState(s impl.State) impl.State {
	s.Regs = append([]impl.Span(nil), s.Regs...)
	return s
}

// spanFine is what SpanOk must say, of a span that is not to be none.
func spanFine(s impl.Span) bool {
	return s.Any && inRange(s.Lo, lowWord, highWord) && inRange(s.Hi, s.Lo, highWord)
}

// stateFine is what StateOk must say.
func stateFine(s impl.State) bool {
	if !s.Any {
		return sameState(s, noState())
	}
	fine := len(s.Regs) == regsAll && spanFine(s.Cells)
	for _, reg := range s.Regs {
		fine = fine && spanFine(reg)
	}
	return fine
}

// hasFine is what StateHas must say.
func hasFine(s impl.State, regs []int, cells []int) bool {
	if !stateFine(s) || !s.Any || !wordsFine(regs) || !wordsFine(cells) {
		return false
	}
	has := true
	for at, n := range append(slices.Clone(regs), cells...) {
		has = has && setOf(spansOf(s)[min(at, regsAll)])&bitOf(n) != 0
	}
	return has
}

// inFine is what StateIn must say: that no word is left over at any place.
func inFine(a impl.State, b impl.State) bool {
	fine := stateFine(a) && stateFine(b)
	for at := 0; fine && at < spansAll; at++ {
		fine = setOf(spansOf(a)[at])&^setOf(spansOf(b)[at]) == 0
	}
	return fine
}

// joinFine is what StateJoin must say.
func joinFine(a impl.State, b impl.State) impl.State {
	return madeFine(a, b, func(x impl.Span, y impl.Span) impl.Span {
		return leastSpan(setOf(x) | setOf(y))
	})
}

// wideFine is what StateWide must say.
func wideFine(a impl.State, b impl.State) impl.State {
	return madeFine(a, b, func(x impl.Span, y impl.Span) impl.Span {
		return farSpan(x, y, leastSpan(setOf(x)|setOf(y)))
	})
}

func madeFine(a impl.State, b impl.State, both func(impl.Span, impl.Span) impl.Span) impl.State {
	if !stateFine(a) || !stateFine(b) || !a.Any && !b.Any {
		return noState()
	}
	var spans [spansAll]impl.Span
	for at := range spans {
		spans[at] = both(spansOf(a)[at], spansOf(b)[at])
	}
	return state(spans)
}

// differentSpans has no two spans alike, so that no two can be changed for each other.
func differentSpans() impl.State {
	return state([spansAll]impl.Span{span(-5, -2), span(0, 3), span(2, 9), span(-1, 6)})
}

// edgeSpans is few spans, at edges of words, of kinds, and of resting places.
func edgeSpans() []impl.Span {
	return []impl.Span{
		span(0, 0), span(-1, -1), span(1, 1), span(lowWord, -1), span(1, highWord), span(lowWord, highWord),
		span(-4, 4), span(-5, 5), span(0, highWord), span(lowWord, lowWord), span(highWord, highWord), span(2, 3),
	}
}

// edgeStates is none, states that are alike but for one span, and entries.
func edgeStates() []impl.State {
	all := []impl.State{noState()}
	for kind := range 3 {
		all = append(all, impl.State{Any: true, Regs: []impl.Span{kindWords(kind), span(0, 0), span(0, 0)}, Cells: span(0, 0)})
	}
	for at := range spansAll {
		for _, s := range edgeSpans() {
			all = append(all, with(differentSpans(), at, s))
		}
	}
	return all
}

// kindWords is the words of a kind, in numbers.
func kindWords(kind int) impl.Span {
	return []impl.Span{span(-16, -1), span(0, 0), span(1, 15)}[kind]
}

func someSpan(from *rand.Rand) impl.Span {
	a, b := someWord(from), someWord(from)
	return span(min(a, b), max(a, b))
}

// someState is an ok state, now and then none.
func someState(from *rand.Rand) impl.State {
	if from.Intn(12) == 0 {
		return noState()
	}
	var spans [spansAll]impl.Span
	for at := range spans {
		spans[at] = someSpan(from)
	}
	return state(spans)
}

// nearState is an ok state that is like s in some of its spans.
func nearState(from *rand.Rand, s impl.State) impl.State {
	if !s.Any || from.Intn(12) == 0 {
		return someState(from)
	}
	near := copyOfState(s)
	for at := range spansAll {
		if more := grownByOne(spansOf(near)[at]); len(more) > 0 && from.Intn(3) == 0 {
			near = with(near, at, more[from.Intn(len(more))])
		} else if from.Intn(5) == 0 {
			near = with(near, at, someSpan(from))
		}
	}
	return near
}

// someStatePairs is many pairs, the same ones each time, none of the states being none in most.
func someStatePairs(many int) [][2]impl.State {
	from := rand.New(rand.NewSource(5))
	var all [][2]impl.State
	for range many {
		a := someState(from)
		all = append(all, [2]impl.State{a, nearState(from, a)}, [2]impl.State{a, someState(from)})
	}
	return all
}

// statePairs is all pairs of edgeStates, and someStatePairs.
func statePairs() [][2]impl.State {
	all := someStatePairs(20000)
	for _, a := range edgeStates() {
		for _, b := range edgeStates() {
			all = append(all, [2]impl.State{a, b})
		}
	}
	return all
}

// words is registers and cells.
type words struct {
	regs  []int
	cells []int
}

// cornersOf is words of an ok state: all at low ends, all at high ends, and each one alone at the other end.
func cornersOf(s impl.State) []words {
	var all []words
	if !s.Any {
		return all
	}
	spans := spansOf(s)
	for turned := range regsAll + cellsAll + 1 {
		var low, high []int
		for at := range regsAll + cellsAll {
			sp := spans[min(at, regsAll)]
			lo, hi := sp.Lo, sp.Hi
			if at == turned {
				lo, hi = hi, lo
			}
			low, high = append(low, lo), append(high, hi)
		}
		all = append(all, words{low[:regsAll], low[regsAll:]}, words{high[:regsAll], high[regsAll:]})
	}
	return all
}

// withWord is other words, in which one of the six is n.
func (w words) withWord(at int, n int) words {
	other := words{slices.Clone(w.regs), slices.Clone(w.cells)}
	if at < regsAll {
		other.regs[at] = n
	} else {
		other.cells[at-regsAll] = n
	}
	return other
}

// badState is a state that breaks one thing, which the name tells.
type badState struct {
	name string
	s    impl.State
}

// leftStates is not Any, with something left.
func leftStates() []badState {
	whole := differentSpans()
	all := []badState{
		{"a register that is none left", impl.State{Regs: []impl.Span{{}}}},
		{"registers that are none left", impl.State{Regs: make([]impl.Span, regsAll)}},
		{"a register left", impl.State{Regs: []impl.Span{span(0, 0)}}},
		{"registers left", impl.State{Regs: whole.Regs}},
		{"Cells left", impl.State{Cells: whole.Cells}},
		{"Cells with 0 alone left", impl.State{Cells: span(0, 0)}},
		{"all left", impl.State{Regs: whole.Regs, Cells: whole.Cells}},
	}
	for _, bad := range badSpans() {
		all = append(all, badState{"Cells that are not ok left", impl.State{Cells: bad}})
	}
	return all
}

// brokenStates is Any, with one thing that is not so.
func brokenStates() []badState {
	all := []badState{{"nothing but Any", impl.State{Any: true}}}
	for many := range 9 {
		if many == regsAll {
			continue
		}
		regs := slices.Repeat([]impl.Span{span(0, 0)}, many)
		all = append(all, badState{strconv.Itoa(many) + " registers", impl.State{Any: true, Regs: regs, Cells: span(0, 0)}})
	}
	more := append(slices.Clone(differentSpans().Regs), none())
	all = append(all, badState{"a register more, that is none", impl.State{Any: true, Regs: more, Cells: span(0, 0)}})
	for at := range spansAll {
		place := "span " + strconv.Itoa(at)
		all = append(all, badState{place + " none", with(differentSpans(), at, none())})
		for _, bad := range badSpans() {
			all = append(all, badState{place + " not ok", with(differentSpans(), at, bad)})
		}
	}
	return all
}

func badStates() []badState {
	return append(leftStates(), brokenStates()...)
}

// noKinds is what is no kind of words.
func noKinds() []int {
	return []int{math.MinInt, -32, -2, -1, 3, 4, 32, math.MaxInt}
}

// markSpan is no ok span.
func markSpan() impl.Span {
	return impl.Span{Any: true, Lo: someMark, Hi: -someMark}
}

// roomyState has spare room behind its registers, filled with marks.
func roomyState(s impl.State) impl.State {
	many := len(s.Regs)
	s.Regs = append(append(make([]impl.Span, 0, many+5), s.Regs...), slices.Repeat([]impl.Span{markSpan()}, 5)...)[:many]
	return s
}

// roomyStateStays says whether a state with spare room is as it was, and its room, too.
func roomyStateStays(roomy impl.State, was impl.State) bool {
	behind := roomy.Regs[len(roomy.Regs):cap(roomy.Regs)]
	return sameState(roomy, was) && slices.Equal(behind, slices.Repeat([]impl.Span{markSpan()}, 5))
}

// spoilState writes over all of a state's memory, spare room included.
func spoilState(s impl.State) {
	full := s.Regs[:cap(s.Regs)]
	for at := range full {
		full[at] = impl.Span{Lo: -someMark, Hi: someMark}
	}
}
