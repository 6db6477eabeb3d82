package tests

import (
	"slices"
	"testing"

	"loop.example/gauger/impl"
)

// roomy is a list with spare room behind it, filled with marks.
func roomy[T any](list []T, mark T) []T {
	return append(append(make([]T, 0, len(list)+2), list...), mark, mark)[:len(list)]
}

// roomStays says whether the marks behind a list are there.
func roomStays[T any](list []T, isMark func(T) bool) bool {
	behind := list[len(list):cap(list)]
	return len(behind) >= 2 && isMark(behind[0]) && isMark(behind[1])
}

func markSite() impl.Site { return impl.Site{Proc: someMark, At: someMark, Fault: someMark} }
func markCall() impl.Call { return impl.Call{Proc: someMark, Kind: someMark} }
func markRow() impl.Row   { return impl.Row{Out: markSpan()} }
func markSum() impl.Sum   { return impl.Sum{Proc: someMark} }

// roomySums has marks behind each of its lists.
func roomySums(sums []impl.Sum) []impl.Sum {
	all := roomy(sums, markSum())
	for at := range all {
		all[at].Rows = roomy(all[at].Rows, markRow())
		for k := range all[at].Rows {
			r := &all[at].Rows[k]
			r.Sites, r.Calls = roomy(r.Sites, markSite()), roomy(r.Calls, markCall())
		}
	}
	return all
}

// roomySumsStay says whether sums with spare room are as they were, and their room, too.
func roomySumsStay(sums []impl.Sum, was []impl.Sum) bool {
	stay := sameSums(sums, was) && roomStays(sums, func(s impl.Sum) bool { return sameSum(s, markSum()) })
	for _, s := range sums {
		stay = stay && roomStays(s.Rows, func(r impl.Row) bool { return sameRow(r, markRow()) })
		for _, r := range s.Rows {
			stay = stay && roomStays(r.Sites, func(s impl.Site) bool { return s == markSite() })
			stay = stay && roomStays(r.Calls, func(c impl.Call) bool { return c == markCall() })
		}
	}
	return stay
}

func markIns() impl.Ins { return ins(someMark, 7, 7, 7) }

// roomyProgStays says whether a program of withRoom is as it was, and its room, too.
func roomyProgStays(p []impl.Proc, was []impl.Proc) bool {
	stay := sameProg(p, was) && roomStays(p, func(x impl.Proc) bool { return slices.Equal(x.Code, code(markIns())) })
	for _, proc := range p {
		stay = stay && roomStays(proc.Code, func(i impl.Ins) bool { return i == markIns() })
	}
	return stay
}

// roomyGiven is the same, with marks behind each list.
func roomyGiven(g flowGiven) flowGiven {
	return flowGiven{withRoom(g.p, markIns()), roomySums(g.sums), g.proc, g.at, roomyState(g.s)}
}

func (g flowGiven) stays(was flowGiven) bool {
	return roomyProgStays(g.p, was.p) && roomySumsStay(g.sums, was.sums) && roomyStateStays(g.s, was.s)
}

// flowsMemory is what memory is asked with: ok, and not.
func flowsMemory() []flowGiven {
	all := append(eachIns(2), somePlaces(60)...)
	p := ringsProg()
	for _, bad := range badStates() {
		all = append(all, flowGiven{p, fullSums(p), 0, 1, bad.s})
	}
	for _, bad := range badProgs() {
		all = append(all, flowGiven{bad, fullSums(p), 0, 0, wideState()})
	}
	for _, change := range sumChanges() {
		sums := fullSums(p)
		change.do(&sums[1])
		all = append(all, flowGiven{p, sums, 0, 1, wideState()})
	}
	for at := range len(p[0].Code) + 1 {
		all = append(all, flowGiven{p, fullSums(p), 0, at, wideState()})
	}
	return all
}

func TestNothingIsWrittenIntoWhatAFlowIsAskedWith(t *testing.T) {
	for _, was := range flowsMemory() {
		g := roomyGiven(was)
		for _, s := range g.sums {
			impl.SumOk(g.p, s)
		}
		impl.SumsOk(g.p, g.sums)
		impl.SumOut(g.p, g.sums, 0, span(-16, 15))
		g.next()
		impl.FlowOut(g.p, g.proc, g.at, g.s)
		impl.FlowSites(g.p, g.proc, g.at, g.s)
		impl.FlowCalls(g.p, g.proc, g.at, g.s)
		if !g.stays(was) {
			t.Fatalf("%+v is now %+v", was, g)
		}
	}
}

// spoilList writes over all of a list's memory, spare room included.
func spoilList[T any](list []T, mark T) {
	full := list[:cap(list)]
	for at := range full {
		full[at] = mark
	}
}

// spoilFlows writes over all of an answer's memory.
func spoilFlows(flows []impl.Flow) {
	for _, f := range flows {
		spoilState(f.State)
	}
	spoilList(flows, impl.Flow{To: someMark})
}

// spoilGiven writes over all that was asked with.
func spoilGiven(g flowGiven) {
	spoilState(g.s)
	for _, s := range g.sums {
		for _, r := range s.Rows {
			spoilList(r.Sites, impl.Site{})
			spoilList(r.Calls, impl.Call{})
		}
		spoilList(s.Rows, impl.Row{})
	}
	spoilList(g.sums, impl.Sum{})
	for _, proc := range g.p {
		spoilList(proc.Code, impl.Ins{})
	}
	spoilList(g.p, impl.Proc{})
}

func TestFlowsAreNewMemory(t *testing.T) {
	for _, was := range flowsMemory() {
		g := roomyGiven(was)
		want := copyFlows(g.next())
		spoilFlows(g.next())
		if !g.stays(was) {
			t.Fatalf("what comes of %+v shares its memory", was)
		}
		got := g.next()
		if !sameFlows(got, want) {
			t.Fatalf("what comes of %+v was %+v, and is now %+v", was, want, got)
		}
		spoilGiven(g)
		if !sameFlows(got, want) {
			t.Fatalf("what came of %+v was %+v, and is now %+v", was, want, got)
		}
	}
}

func TestStatesOfTwoFlowsShareNothing(t *testing.T) {
	twice := 0
	for _, g := range flowsMemory() {
		want := copyFlows(g.next())
		for at := range want {
			flows := g.next()
			spoilState(flows[at].State)
			for other := range flows {
				if other != at && !sameFlow(flows[other], want[other]) {
					t.Fatalf("flows of %+v share memory: %+v", g, flows)
				}
			}
		}
		twice += truth(len(want) == 2)
	}
	if twice < 50 {
		t.Errorf("only %d lead twice", twice)
	}
}

func TestSitesAndCallsAreNewMemory(t *testing.T) {
	for _, was := range flowsMemory() {
		g := roomyGiven(was)
		sites, calls := impl.FlowSites(g.p, g.proc, g.at, g.s), impl.FlowCalls(g.p, g.proc, g.at, g.s)
		wantSites, wantCalls := slices.Clone(sites), slices.Clone(calls)
		spoilList(impl.FlowSites(g.p, g.proc, g.at, g.s), markSite())
		spoilList(impl.FlowCalls(g.p, g.proc, g.at, g.s), markCall())
		if !g.stays(was) || !slices.Equal(impl.FlowSites(g.p, g.proc, g.at, g.s), wantSites) || !slices.Equal(impl.FlowCalls(g.p, g.proc, g.at, g.s), wantCalls) {
			t.Fatalf("what is told of %+v shares memory", was)
		}
		spoilGiven(g)
		if !slices.Equal(sites, wantSites) || !slices.Equal(calls, wantCalls) {
			t.Fatalf("what was told of %+v is now %v, %v", was, sites, calls)
		}
	}
}
