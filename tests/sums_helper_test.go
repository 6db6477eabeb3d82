package tests

import (
	"math/rand"
	"slices"

	"loop.example/gauger/impl"
)

// ringsIn is how many rings an ok program has.
func ringsIn(p []impl.Proc) int {
	return len(graphOf(p).ringsOf())
}

// allFine is what SumsAll must say of an ok program.
func allFine(p []impl.Proc) []impl.Sum {
	return aheadSums(p, ringsIn(p))
}

// reckonedBy is sums of all procedures, each ring being reckoned by what is
// known of those ahead, in the way that is told of it.
func reckonedBy(p []impl.Proc, way func(ring int) func([]impl.Proc, []impl.Sum, int) []impl.Cert) []impl.Sum {
	var sums []impl.Sum
	for ring := range ringsIn(p) {
		sums = append(sums, impl.CertSums(p, ring, way(ring)(p, sums, ring))...)
		slices.SortFunc(sums, func(a impl.Sum, b impl.Sum) int { return a.Proc - b.Proc })
	}
	return sums
}

// hastySums is sums of all procedures, each ring being reckoned in a hurry.
func hastySums(p []impl.Proc) []impl.Sum {
	return reckonedBy(p, func(ring int) func([]impl.Proc, []impl.Sum, int) []impl.Cert { return impl.RingWide })
}

// mixedSums is sums of all procedures, some rings being reckoned in a hurry.
func mixedSums(p []impl.Proc, some int) []impl.Sum {
	return reckonedBy(p, func(ring int) func([]impl.Proc, []impl.Sum, int) []impl.Cert {
		if some&(1<<ring) != 0 {
			return impl.RingWide
		}
		return impl.RingLeast
	})
}

// rowsCalled marks rows, by procedure and kind.
type rowsCalled [procsMost][rowsAll]bool

// calledBy is the rows that are called by ok sums, from procedure 0 with 0 on.
func calledBy(sums []impl.Sum) rowsCalled {
	var called rowsCalled
	called[0][1] = true
	// Each time round one more is called, or nothing more ever is.
	for range procsMost * rowsAll {
		for _, s := range sums {
			for kind, r := range s.Rows {
				for _, c := range r.Calls {
					called[c.Proc][c.Kind] = called[c.Proc][c.Kind] || called[s.Proc][kind]
				}
			}
		}
	}
	return called
}

// verdictFine is what VerdictOf must say.
func verdictFine(p []impl.Proc, sums []impl.Sum) ([]impl.Site, bool) {
	if !sumsFine(p, sums) {
		return nil, false
	}
	called := calledBy(sums)
	var told []impl.Site
	for proc := range p {
		at := slices.IndexFunc(sums, func(s impl.Sum) bool { return s.Proc == proc })
		var sites []impl.Site
		for kind, is := range called[proc] {
			if is && at < 0 {
				return nil, false
			}
			if is {
				sites = append(sites, sums[at].Rows[kind].Sites...)
			}
		}
		told = append(told, among(sitesOf(p, proc), sites)...)
	}
	return told, true
}

// allIn says whether each of a list is in another one.
func allIn[T comparable](list []T, other []T) bool {
	return !slices.ContainsFunc(list, func(x T) bool { return !slices.Contains(other, x) })
}

// busyProgs is many ok programs in which runs ask, call, come back, and go
// round, the same ones each time; they are wrong by some inputs, and not by
// others. Half of what is called is called with a word that is set, mostly below 0.
func busyProgs(many int) []([]impl.Proc) {
	from := rand.New(rand.NewSource(50))
	var all []([]impl.Proc)
	for range many {
		p := make([]impl.Proc, 1+from.Intn(procsMost))
		for k := range p {
			size, asked := 4+from.Intn(codeMost-3), from.Intn(regsAll)
			p[k].Code = code(ins(impl.InsAsk, asked, 1+from.Intn(4), 0))
			for at := 1; at < size-1; at++ {
				i := busyIns(from, place{len(p), k, size, at}, asked)
				if last := &p[k].Code[at-1]; at > 1 && i.Kind == impl.InsCall && from.Intn(2) == 0 {
					*last = ins(impl.InsSet, i.C, from.Intn(8)-5, 0)
				}
				p[k].Code = append(p[k].Code, i)
			}
			p[k].Code = append(p[k].Code, ins(impl.InsBack, from.Intn(regsAll), 0, 0))
		}
		all = append(all, p)
	}
	return all
}

// place is where an instruction stands, and in how much.
type place struct{ procs, own, size, at int }

// busyIns mostly goes on, mostly calls a procedure behind its own, and is
// mostly wrong, if at all, by what was asked for.
func busyIns(from *rand.Rand, here place, asked int) impl.Ins {
	reg := func() int { return from.Intn(regsAll) }
	mostly := []int{asked, asked, asked, reg()}[from.Intn(4)]
	to := min(here.size, here.at+1+from.Intn(3))
	if from.Intn(3) == 0 {
		to = from.Intn(here.size + 1)
	}
	callee := from.Intn(here.procs)
	if from.Intn(6) > 0 {
		callee = min(here.procs-1, here.own+1+from.Intn(2))
	}
	if from.Intn(3) == 0 && callee != here.own {
		return ins(impl.InsCall, reg(), callee, reg())
	}
	all := []impl.Ins{
		ins(impl.InsAsk, reg(), 1+from.Intn(4), 0), ins(impl.InsAsk, reg(), 2, 0), ins(impl.InsSet, reg(), from.Intn(6)-2, 0),
		ins(impl.InsMove, reg(), reg(), 0), ins(impl.InsDo, reg(), mostly, 1+from.Intn(6)), ins(impl.InsDo, reg(), reg(), 1+from.Intn(2)),
		ins(impl.InsLess, reg(), reg(), to), ins(impl.InsSame, reg(), reg(), to), ins(impl.InsLess, reg(), mostly, to),
		ins(impl.InsPut, mostly, reg(), 0), ins(impl.InsGet, reg(), mostly, 0), ins(impl.InsHold, mostly, 0, 0), ins(impl.InsCall, reg(), callee, reg()),
	}
	return all[from.Intn(len(all))]
}

// sumsProgs is many ok programs of all sorts.
func sumsProgs(many int) []([]impl.Proc) {
	return slices.Concat(ringsMade(), busyProgs(many), livelyProgs(many/2), someProgs(many/2))
}

// someRuns is inputs for runs, the same ones each time: noughts, and any others.
func someRuns(many int) [][]int {
	from := rand.New(rand.NewSource(51))
	all := [][]int{nil}
	for range many {
		inputs := make([]int, 60)
		for at := range inputs {
			inputs[at] = from.Intn(48)
		}
		all = append(all, inputs)
	}
	return all
}

// eachMoment tells each moment of a run, from the first one on, and which
// moment it comes to by a step.
func eachMoment(p []impl.Proc, inputs []int, steps int, tell func(r impl.Run, then impl.Run)) {
	r := impl.RunNew(p)
	for range steps {
		input := 0
		if impl.RunAsks(p, r) && len(inputs) > 0 {
			input, inputs = inputs[0], inputs[1:]
		}
		then := impl.RunStep(p, r, input)
		tell(r, then)
		if r = then; r.End != notEnded {
			break
		}
	}
	tell(r, r)
}
