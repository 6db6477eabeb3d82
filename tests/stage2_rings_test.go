package tests

import (
	"math"
	"slices"
	"testing"

	"loop.example/gauger/impl"
)

// graph says of each procedure, by bits, which ones it calls.
type graph []int

// graphs is all of so many procedures.
func graphs(procs int) []graph {
	all := []graph{{}}
	for range procs {
		var longer []graph
		for _, g := range all {
			for calls := range 1 << procs {
				longer = append(longer, append(slices.Clone(g), calls))
			}
		}
		all = longer
	}
	return all
}

// allGraphs is all of one procedure up to procsMost.
func allGraphs() []graph {
	var all []graph
	for procs := 1; procs <= procsMost; procs++ {
		all = append(all, graphs(procs)...)
	}
	return all
}

// progOf is a program that calls as a graph says: downwards, some twice, with
// other instructions whose numbers are those of procedures, too.
func progOf(g graph) []impl.Proc {
	p := make([]impl.Proc, len(g))
	for k, calls := range g {
		for to := len(g) - 1; to >= 0; to-- {
			if calls&(1<<to) != 0 {
				p[k].Code = append(p[k].Code, ins(impl.InsCall, k%regsAll, to, to%regsAll))
			}
		}
		if len(p[k].Code) > 0 {
			p[k].Code = append(p[k].Code, p[k].Code[0])
		}
		p[k].Code = append(p[k].Code, ins(impl.InsSet, 0, 3, 0), ins(impl.InsMove, 1, 2, 0), ins(impl.InsGo, 0, 0, 1))
	}
	return p
}

func (g graph) calls(k int, to int) bool {
	return g[k]&(1<<to) != 0
}

// comes says by which calls, one or more, one comes from where to where.
func (g graph) comes() [][]bool {
	come := make([][]bool, len(g))
	for k := range g {
		for to := range g {
			come[k] = append(come[k], g.calls(k, to))
		}
	}
	for by := range g {
		for k := range g {
			for to := range g {
				come[k][to] = come[k][to] || come[k][by] && come[by][to]
			}
		}
	}
	return come
}

// placesOfTrue is where yes is true.
func placesOfTrue(yes []bool) []int {
	var places []int
	for at, y := range yes {
		if y {
			places = append(places, at)
		}
	}
	return places
}

// ringsOf is what ProgRings must say.
func (g graph) ringsOf() [][]int {
	come := g.comes()
	ringAt := make([]int, len(g))
	for k := range ringAt {
		ringAt[k] = -1
	}
	var rings [][]int
	for k := 0; k < len(g); k++ {
		ready := ringAt[k] < 0
		for to := range g {
			ready = ready && (to == k || !come[k][to] || come[to][k] || ringAt[to] >= 0)
		}
		if !ready {
			continue
		}
		var ring []int
		for other := range g {
			if other == k || come[k][other] && come[other][k] {
				ring = append(ring, other)
				ringAt[other] = len(rings)
			}
		}
		rings = append(rings, ring)
		k = -1
	}
	return rings
}

func procsOf(rings []impl.Ring) [][]int {
	var all [][]int
	for _, r := range rings {
		all = append(all, r.Procs)
	}
	return all
}

func sameLists(a [][]int, b [][]int) bool {
	return slices.EqualFunc(a, b, slices.Equal[[]int])
}

func strictlyUp(list []int) bool {
	for at := 1; at < len(list); at++ {
		if list[at-1] >= list[at] {
			return false
		}
	}
	return true
}

func noProcs(p []impl.Proc) []int {
	return []int{math.MinInt, -len(p), -1, len(p), len(p) + 1, procsMost, math.MaxInt}
}

func TestP20CallsOfAllGraphs(t *testing.T) {
	for _, g := range allGraphs() {
		p := progOf(g)
		for k := range g {
			got := impl.ProgCalls(p, k)
			var want []int
			for to := range g {
				if g.calls(k, to) {
					want = append(want, to)
				}
			}
			if !slices.Equal(got, want) {
				t.Fatalf("ProgCalls(%v, %d) = %v", p, k, got)
			}
		}
	}
}

func TestP20CallsOfGivenPrograms(t *testing.T) {
	for _, p := range someProgs(1000) {
		for k := range p {
			got := impl.ProgCalls(p, k)
			if !strictlyUp(got) {
				t.Fatalf("ProgCalls(%v, %d) = %v", p, k, got)
			}
			for to := range p {
				named := slices.ContainsFunc(p[k].Code, func(i impl.Ins) bool { return i.Kind == 8 && i.B == to })
				if named != slices.Contains(got, to) {
					t.Fatalf("ProgCalls(%v, %d) = %v", p, k, got)
				}
			}
		}
	}
}

func TestP20CallsThatCannotBeReachedCount(t *testing.T) {
	p := prog(code(ins(impl.InsBack, 0, 0, 0), ins(impl.InsCall, 0, 1, 0)), nil)
	if got := impl.ProgCalls(p, 0); !slices.Equal(got, []int{1}) {
		t.Errorf("ProgCalls: %v", got)
	}
}

func TestP20P21NoSuchProcedure(t *testing.T) {
	for _, p := range someProgs(50) {
		for _, k := range noProcs(p) {
			if k >= 0 && k < len(p) {
				continue
			}
			if got := impl.ProgCalls(p, k); len(got) != 0 {
				t.Errorf("ProgCalls(%v, %d) = %v", p, k, got)
			}
			if got := impl.ProgFrom(p, k); len(got) != 0 {
				t.Errorf("ProgFrom(%v, %d) = %v", p, k, got)
			}
		}
	}
}

func TestP20P21P23WhatIsNotOk(t *testing.T) {
	for _, p := range badProgs() {
		for _, k := range append(noProcs(p), 0, 1, 2) {
			if got := impl.ProgCalls(p, k); len(got) != 0 {
				t.Errorf("ProgCalls(%v, %d) = %v", p, k, got)
			}
			if got := impl.ProgFrom(p, k); len(got) != 0 {
				t.Errorf("ProgFrom(%v, %d) = %v", p, k, got)
			}
		}
		if got := impl.ProgRings(p); len(got) != 0 {
			t.Errorf("ProgRings(%v) = %v", p, got)
		}
	}
}

func TestP21P22FromOfAllGraphs(t *testing.T) {
	for _, g := range allGraphs() {
		p := progOf(g)
		come := g.comes()
		for k := range g {
			if got := impl.ProgFrom(p, k); !slices.Equal(got, placesOfTrue(come[k])) {
				t.Fatalf("ProgFrom(%v, %d) = %v", p, k, got)
			}
		}
	}
}

func TestP21FromIsWhatIsCalledAndFromThat(t *testing.T) {
	for _, p := range someProgs(1000) {
		for k := range p {
			var want []int
			for _, to := range impl.ProgCalls(p, k) {
				want = append(append(want, to), impl.ProgFrom(p, to)...)
			}
			slices.Sort(want)
			want = slices.Compact(want)
			if got := impl.ProgFrom(p, k); !slices.Equal(got, want) {
				t.Fatalf("ProgFrom(%v, %d) = %v, not %v", p, k, got, want)
			}
		}
	}
}

func TestP21WhoComesToItself(t *testing.T) {
	for _, c := range []struct {
		g    graph
		from [][]int
	}{
		{graph{0}, [][]int{nil}},
		{graph{1}, [][]int{{0}}},
		{graph{2, 0}, [][]int{{1}, nil}},
		{graph{2, 1}, [][]int{{0, 1}, {0, 1}}},
		{graph{2, 2}, [][]int{{1}, {1}}},
		{graph{2, 4, 8, 0}, [][]int{{1, 2, 3}, {2, 3}, {3}, nil}},
		{graph{2, 4, 8, 1}, [][]int{{0, 1, 2, 3}, {0, 1, 2, 3}, {0, 1, 2, 3}, {0, 1, 2, 3}}},
		{graph{8, 1, 2, 0}, [][]int{{3}, {0, 3}, {0, 1, 3}, nil}},
		{graph{0, 4, 2, 0}, [][]int{nil, {1, 2}, {1, 2}, nil}},
	} {
		for k, want := range c.from {
			if got := impl.ProgFrom(progOf(c.g), k); !slices.Equal(got, want) {
				t.Errorf("of %v ProgFrom %d is %v", c.g, k, got)
			}
		}
	}
}

func TestP22FromOfFromIsFrom(t *testing.T) {
	for _, p := range someProgs(1000) {
		for k := range p {
			all := impl.ProgFrom(p, k)
			for _, by := range all {
				for _, to := range impl.ProgFrom(p, by) {
					if !slices.Contains(all, to) {
						t.Fatalf("ProgFrom(%v, %d) = %v is without %d", p, k, all, to)
					}
				}
			}
		}
	}
}

func TestP23P24P25RingsOfAllGraphs(t *testing.T) {
	for _, g := range allGraphs() {
		got, want := procsOf(impl.ProgRings(progOf(g))), g.ringsOf()
		if !sameLists(got, want) {
			t.Fatalf("rings of %v: %v, not %v", g, got, want)
		}
	}
}

func TestP23EachProcedureIsInOneRing(t *testing.T) {
	for _, p := range someProgs(1000) {
		in := make([]int, len(p))
		for _, ring := range impl.ProgRings(p) {
			if len(ring.Procs) == 0 || !strictlyUp(ring.Procs) {
				t.Fatalf("rings of %v: %v", p, impl.ProgRings(p))
			}
			for _, k := range ring.Procs {
				in[k]++
			}
		}
		if slices.Max(in) != 1 || slices.Min(in) != 1 {
			t.Fatalf("rings of %v: %v", p, impl.ProgRings(p))
		}
	}
}

func ringNumber(rings []impl.Ring, k int) int {
	return slices.IndexFunc(rings, func(r impl.Ring) bool { return slices.Contains(r.Procs, k) })
}

func TestP24InOneRingJustIfTheyComeToEachOther(t *testing.T) {
	for _, p := range someProgs(1000) {
		rings := impl.ProgRings(p)
		for a := range p {
			for b := range p {
				each := slices.Contains(impl.ProgFrom(p, a), b) && slices.Contains(impl.ProgFrom(p, b), a)
				if (ringNumber(rings, a) == ringNumber(rings, b)) != (a == b || each) {
					t.Fatalf("rings of %v: %v", p, rings)
				}
			}
		}
	}
}

func TestP25WhatIsCalledIsAhead(t *testing.T) {
	for _, p := range someProgs(1000) {
		rings := impl.ProgRings(p)
		for k := range p {
			for _, to := range impl.ProgCalls(p, k) {
				if ringNumber(rings, to) > ringNumber(rings, k) {
					t.Fatalf("rings of %v: %v", p, rings)
				}
			}
		}
	}
}

func TestP25WhichRingIsFirst(t *testing.T) {
	for _, c := range []struct {
		g     graph
		rings [][]int
	}{
		{graph{0}, [][]int{{0}}},
		{graph{1}, [][]int{{0}}},
		{graph{0, 0, 0, 0}, [][]int{{0}, {1}, {2}, {3}}},
		{graph{2, 0}, [][]int{{1}, {0}}},
		{graph{2, 2, 0}, [][]int{{1}, {0}, {2}}},
		{graph{2, 1, 0}, [][]int{{0, 1}, {2}}},
		{graph{0, 4, 2}, [][]int{{0}, {1, 2}}},
		{graph{4, 0, 1, 0}, [][]int{{0, 2}, {1}, {3}}},
		{graph{8, 0, 0, 1}, [][]int{{0, 3}, {1}, {2}}},
		{graph{2, 4, 8, 0}, [][]int{{3}, {2}, {1}, {0}}},
		{graph{4, 8, 0, 0}, [][]int{{2}, {0}, {3}, {1}}},
		{graph{8, 0, 2, 0}, [][]int{{1}, {2}, {3}, {0}}},
		{graph{12, 0, 8, 4}, [][]int{{1}, {2, 3}, {0}}},
		{graph{2, 4, 2, 0}, [][]int{{1, 2}, {0}, {3}}},
		{graph{10, 4, 2, 0}, [][]int{{1, 2}, {3}, {0}}},
		{graph{2, 4, 8, 1}, [][]int{{0, 1, 2, 3}}},
	} {
		if got := procsOf(impl.ProgRings(progOf(c.g))); !sameLists(got, c.rings) {
			t.Errorf("rings of %v: %v, not %v", c.g, got, c.rings)
		}
	}
}

func TestP26OneProcedureMore(t *testing.T) {
	for procs := 1; procs < procsMost; procs++ {
		for _, g := range graphs(procs) {
			oneMoreStays(t, progOf(g), nil)
			oneMoreStays(t, progOf(g), code(ins(impl.InsSet, 0, 1, 0), ins(impl.InsBack, 0, 0, 0)))
		}
	}
	for _, p := range someProgs(1000) {
		if len(p) < procsMost {
			oneMoreStays(t, p, code(ins(impl.InsHold, 0, 0, 0)))
		}
	}
}

func oneMoreStays(t *testing.T, p []impl.Proc, calm []impl.Ins) {
	t.Helper()
	more := append(copyProg(p), impl.Proc{Code: calm})
	for k := range p {
		if !slices.Equal(impl.ProgCalls(p, k), impl.ProgCalls(more, k)) || !slices.Equal(impl.ProgFrom(p, k), impl.ProgFrom(more, k)) {
			t.Fatalf("calls of %v, with one more: %v, %v", p, impl.ProgCalls(more, k), impl.ProgFrom(more, k))
		}
	}
	if len(impl.ProgCalls(more, len(p))) != 0 || len(impl.ProgFrom(more, len(p))) != 0 {
		t.Fatalf("of %v the last one calls", more)
	}
	want := append(procsOf(impl.ProgRings(p)), []int{len(p)})
	if got := procsOf(impl.ProgRings(more)); !sameLists(got, want) {
		t.Fatalf("rings of %v: %v, not %v", more, got, want)
	}
}

// withRoom is p with spare room behind each list, filled with a mark.
func withRoom(p []impl.Proc, mark impl.Ins) []impl.Proc {
	roomy := make([]impl.Proc, 0, len(p)+2)
	for _, proc := range p {
		list := append(append(make([]impl.Ins, 0, len(proc.Code)+2), proc.Code...), mark, mark)
		roomy = append(roomy, impl.Proc{Code: list[:len(proc.Code)]})
	}
	all := append(roomy, impl.Proc{Code: code(mark)}, impl.Proc{Code: code(mark)})
	return all[:len(p)]
}

func TestNothingIsWrittenIntoAProgram(t *testing.T) {
	mark := ins(77, 7, 7, 7)
	for _, p := range append(someProgs(200), badProgs()...) {
		given := withRoom(p, mark)
		impl.ProgOk(given)
		impl.ProgText(given)
		impl.ProgRings(given)
		for k := -1; k <= len(p); k++ {
			impl.ProgCalls(given, k)
			impl.ProgFrom(given, k)
		}
		if !sameProg(given, p) {
			t.Fatalf("%v is now %v", p, given)
		}
		for _, proc := range given[:len(p)+2] {
			if behind := proc.Code[:cap(proc.Code)]; behind[len(behind)-1] != mark {
				t.Fatalf("behind the end of %v: %v", p, behind)
			}
		}
	}
}

func TestListsOfAnAnswerShareNothing(t *testing.T) {
	for _, p := range someProgs(200) {
		text := impl.ProgText(p)
		read, _ := impl.ProgRead(text)
		for k := range read {
			full := read[k].Code[:cap(read[k].Code)]
			for at := range full {
				full[at] = ins(77, 7, 7, 7)
			}
			read[k].Code = nil
			for other := k + 1; other < len(read); other++ {
				if !slices.Equal(read[other].Code, p[other].Code) {
					t.Fatalf("codes %d and %d of %q share memory", k, other, text)
				}
			}
		}
		ringsShareNothing(t, p)
		if again, ok := impl.ProgRead(text); !ok || !sameProg(again, p) {
			t.Fatalf("%q is read anew as %v", text, again)
		}
	}
}

func ringsShareNothing(t *testing.T, p []impl.Proc) {
	t.Helper()
	rings, want := impl.ProgRings(p), procsOf(impl.ProgRings(p))
	for at := range rings {
		full := rings[at].Procs[:cap(rings[at].Procs)]
		for i := range full {
			full[i] = 77
		}
		if rest := procsOf(rings[at+1:]); !sameLists(rest, want[at+1:]) {
			t.Fatalf("rings of %v share memory: %v", p, rest)
		}
	}
	if again := procsOf(impl.ProgRings(p)); !sameLists(again, want) {
		t.Fatalf("rings of %v are now %v", p, again)
	}
}
