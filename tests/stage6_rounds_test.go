package tests

import (
	"math/rand"
	"slices"
	"testing"

	"loop.example/gauger/impl"
)

func TestP51RoundOfAllCerts(t *testing.T) {
	t.Parallel()
	grown := 0
	for _, g := range certsGivens(200) {
		got, want := g.round(g.certs), roundFine(g.p, g.sums, g.ring, g.certs)
		if !sameCerts(got, want) {
			t.Fatalf("of %v, ring %d, by %+v, a round makes of %+v\n%+v, not\n%+v", g.p, g.ring, g.sums, g.certs, got, want)
		}
		grown += truth(!sameCerts(got, g.certs))
	}
	if grown < 1000 {
		t.Errorf("only %d changed", grown)
	}
}

func TestP51AllThatIsSaidStaysAndFits(t *testing.T) {
	t.Parallel()
	for _, g := range certsGivens(200) {
		got := g.round(g.certs)
		if !certsIn(g.certs, got) || !fitFine(g.p, g.ring, got) {
			t.Fatalf("of %v, ring %d, a round makes of %+v\n%+v", g.p, g.ring, g.certs, got)
		}
	}
}

// Sites and calls to which nothing leads stay, and so do states and Out.
func TestP51WhatNothingLeadsToStays(t *testing.T) {
	p := told("go 4; hold 1; call 0 1 0; put 0 1; back 0", "")
	g := ringGiven{p, nil, 1}
	certs := g.start()
	far := differentSpans()
	certs[1].States[4] = far
	certs[1].Row = impl.Row{Out: span(-9, -9), Sites: sitesOf(p, 0), Calls: callsAll(p, 0)}
	got := g.round(certs)
	if got[1].Row.Out != span(-9, -2) || !slices.Equal(got[1].Row.Sites, sitesOf(p, 0)) || !slices.Equal(got[1].Row.Calls, callsAll(p, 0)) || !sameState(got[1].States[4], far) {
		t.Errorf("a round makes %+v", got[1])
	}
}

func TestP52ByMoreOneComesToNoLess(t *testing.T) {
	t.Parallel()
	from := rand.New(rand.NewSource(35))
	more := 0
	for _, g := range certsGivens(100) {
		other := moreCerts(from, g.p, g.certs)
		by := g.ringGiven
		by.sums = moreSums(from, g.p, g.sums)
		first, second := g.certs, other
		for range 3 {
			if !certsIn(first, second) {
				t.Fatalf("of %v, ring %d: from %+v in %+v one comes to\n%+v, not in\n%+v", g.p, g.ring, g.certs, other, first, second)
			}
			first, second = g.round(first), g.round(second)
			if most := by.round(first); !certsIn(first, most) {
				t.Fatalf("of %v, ring %d, by more sums one comes to %+v, which has not all of %+v", g.p, g.ring, most, first)
			}
		}
		more += truth(!sameCerts(first, second))
	}
	if more < 1000 {
		t.Errorf("only %d said more", more)
	}
}

func TestP60FirstPlacesAloneAreComeTo(t *testing.T) {
	for _, g := range ringGivens(200) {
		got := g.round(g.start())
		if len(got) != rowsAll*len(ringFine(g.p, g.ring)) {
			t.Fatalf("of %v, ring %d, a round makes %+v", g.p, g.ring, got)
		}
		for _, c := range got {
			further := slices.ContainsFunc(c.States[1:], func(s impl.State) bool { return s.Any })
			if !sameState(c.States[0], entryFine(c.Kind)) || further || !sameRow(c.Row, impl.Row{}) {
				t.Fatalf("of %v, ring %d, a round makes %+v", g.p, g.ring, c)
			}
		}
	}
}

// placesComeTo is how many places of a cert have a state.
func placesComeTo(c impl.Cert) int {
	come := 0
	for _, s := range c.States {
		come += truth(s.Any)
	}
	return come
}

// One goes on by one place in a round; what is told of a place is told a round later.
func TestP60APlaceARound(t *testing.T) {
	p := told("hold 0; set 1 1; do 0 1 4; set 0 2; get 1 0; put 0 1; ask 1 1; hold 1")
	certs := impl.RingStart(p, 0)
	for nth := range 12 {
		for _, c := range certs {
			if c.Kind == impl.KindZero {
				// Of 0 alone one does not come past the hold.
				if placesComeTo(c) != min(nth, 1) || len(c.Row.Sites) != truth(nth > 1) || c.Row.Out != none() {
					t.Errorf("behind %d rounds there is %+v", nth, c)
				}
				continue
			}
			if placesComeTo(c) != min(nth, 9) || c.Row.Out.Any != (nth >= 10) {
				t.Errorf("behind %d rounds there is %+v", nth, c)
			}
			// What is held last may be 0; all else is right.
			if len(c.Row.Sites) != truth(nth >= 9) {
				t.Errorf("behind %d rounds sites are %v", nth, c.Row.Sites)
			}
		}
		certs = impl.RingRound(p, nil, 0, certs)
	}
}

// firstAt says in which round something first is so of certs that begin with nothing.
func firstAt(p []impl.Proc, isSo func(certs []impl.Cert) bool) int {
	certs := impl.RingStart(p, 0)
	for nth := range 30 {
		if isSo(certs) {
			return nth
		}
		certs = impl.RingRound(p, nil, 0, certs)
	}
	return -1
}

// What a procedure is found to give back counts in the next round, in those
// certs that are behind its own and in those that are ahead.
func TestP52WhatIsCalledCountsByWhatItSaidAhead(t *testing.T) {
	itself := told("same 0 1 3; call 2 0 1; back 2; set 2 5; back 2")
	other := told("call 1 1 2; back 1", "same 0 2 3; call 1 0 2; back 1; set 1 7; back 1")
	for _, c := range []struct {
		p     []impl.Proc
		cert  int
		state int
		round int
		out   int
	}{
		// By 0 it gives back 5; by others what it is found to give back by 0.
		{itself, 1, 4, 3, 4}, {itself, 0, 2, 5, 6}, {itself, 2, 2, 5, 6},
		// The second one gives back 7 by 0, then the first one, then the second one by others.
		{other, 4, 4, 3, 4}, {other, 0, 1, 5, 6}, {other, 1, 1, 5, 6}, {other, 2, 1, 5, 6}, {other, 3, 2, 7, 8}, {other, 5, 2, 7, 8},
	} {
		if nth := firstAt(c.p, func(certs []impl.Cert) bool { return certs[c.cert].States[c.state].Any }); nth != c.round {
			t.Errorf("of %v one comes to place %d of cert %d in round %d, not %d", c.p, c.state, c.cert, nth, c.round)
		}
		if nth := firstAt(c.p, func(certs []impl.Cert) bool { return certs[c.cert].Row.Out.Any }); nth != c.out {
			t.Errorf("of %v cert %d gives back in round %d, not %d", c.p, c.cert, nth, c.out)
		}
	}
}

// regOf is a register's span in a state, none in none.
func regOf(s impl.State, reg int) impl.Span {
	return spansOf(s)[reg]
}

func TestRoundByHand(t *testing.T) {
	p := told("set 1 1; less 0 1 4; do 0 1 2; call 2 0 0; back 0")
	entry := func(r0 impl.Span, r1 impl.Span) impl.State {
		return state([spansAll]impl.Span{r0, r1, span(0, 0), span(0, 0)})
	}
	more, zero := span(1, 15), span(0, 0)
	first, one := entry(more, zero), entry(more, span(1, 1))
	less := entry(span(0, 14), span(1, 1))
	calls := []impl.Call{{Proc: 0, Kind: 1}, {Proc: 0, Kind: 2}}
	no := noState()
	certs := impl.RingStart(p, 0)
	for nth, want := range []impl.Cert{
		{States: []impl.State{no, no, no, no, no, no}},
		{States: []impl.State{first, no, no, no, no, no}},
		{States: []impl.State{first, one, no, no, no, no}},
		{States: []impl.State{first, one, one, no, no, no}},
		{States: []impl.State{first, one, one, less, no, no}},
		// With 0 it goes past the call to give back 0, which is known behind four rounds.
		{States: []impl.State{first, one, one, less, with(less, 2, zero), no}, Row: impl.Row{Calls: calls}},
		{States: []impl.State{first, one, one, less, with(less, 2, zero), no}, Row: impl.Row{Out: span(0, 14), Calls: calls}},
		{States: []impl.State{first, one, one, less, with(less, 2, span(0, 14)), no}, Row: impl.Row{Out: span(0, 14), Calls: calls}},
		{States: []impl.State{first, one, one, less, with(less, 2, span(0, 14)), no}, Row: impl.Row{Out: span(0, 14), Calls: calls}},
	} {
		want.Proc, want.Kind = 0, 2
		if !sameCert(certs[2], want) {
			t.Errorf("behind %d rounds there is %+v, not %+v", nth, certs[2], want)
		}
		certs = impl.RingRound(p, nil, 0, certs)
	}
}

// Of a procedure of the ring the certs count, whatever sums say of it.
func TestRoundByCertsInsteadOfSums(t *testing.T) {
	t.Parallel()
	from := rand.New(rand.NewSource(36))
	without := 0
	for _, g := range certsGivens(100) {
		procs := ringFine(g.p, g.ring)
		others := g.ringGiven
		others.sums = slices.DeleteFunc(copySums(g.sums), func(s impl.Sum) bool { return slices.Contains(procs, s.Proc) })
		want := others.round(g.certs)
		for range 2 {
			// Others of the ring, and the same ones of all else.
			own := allSums(from, g.p)
			both := others
			both.sums = nil
			for proc := range g.p {
				if at := slices.IndexFunc(others.sums, func(s impl.Sum) bool { return s.Proc == proc }); at >= 0 {
					both.sums = append(both.sums, others.sums[at])
				} else if slices.Contains(procs, proc) {
					both.sums = append(both.sums, own[proc])
				}
			}
			if got := both.round(g.certs); !sameCerts(got, want) {
				t.Fatalf("of %v, ring %d, by %+v a round makes %+v, by %+v %+v", g.p, g.ring, both.sums, got, others.sums, want)
			}
			if !sameCerts(both.least(), others.least()) || !sameCerts(both.wide(), others.wide()) {
				t.Fatalf("of %v, ring %d, sums %+v count in RingLeast", g.p, g.ring, both.sums)
			}
			without++
		}
	}
	if without < 1000 {
		t.Errorf("only %d", without)
	}
}

func TestRoundByCertsInsteadOfSumsByHand(t *testing.T) {
	p := told("call 1 0 0; back 1", "call 1 0 0; call 2 2 0; back 1", "")
	ring := ringGiven{p, nil, 0}
	certs := ring.round(ring.start())
	certs[1].Row.Out = span(3, 4)
	if !slices.Equal(ringFine(p, 0), []int{0}) {
		t.Fatal("rings")
	}
	lies := impl.Sum{Proc: 0, Rows: []impl.Row{{Out: span(7, 8)}, {Out: span(7, 8)}, {Out: span(7, 8)}}}
	for _, sums := range [][]impl.Sum{nil, {lies}, fullSums(p)} {
		ring.sums = sums
		got := ring.round(certs)
		if regOf(got[1].States[1], 1) != span(3, 4) || got[0].States[1].Any || got[2].States[1].Any {
			t.Errorf("by %+v a round makes %+v", sums, got)
		}
	}
	// Of procedure 1, which is another ring, sums of 0 and 2 count.
	other := ringGiven{p, []impl.Sum{lies, fullSum(p, 2)}, 2}
	certs = other.still(other.start())
	if regOf(certs[1].States[1], 1) != span(7, 8) || regOf(certs[1].States[2], 2) != fullSum(p, 2).Rows[1].Out {
		t.Errorf("by %+v there is %+v", other.sums, certs[1])
	}
}

// Behind what is called, and not known, one does not come; that it is called is told.
func TestRoundBySumsThatLackWhatIsCalled(t *testing.T) {
	p := told("call 1 1 0; hold 1; back 1", "set 0 4; back 0")
	lacks, has := ringGiven{p, nil, 1}, ringGiven{p, fullSums(p)[1:], 1}
	for _, made := range [][]impl.Cert{lacks.least(), lacks.wide()} {
		for kind, c := range made {
			if placesComeTo(c) != 1 || c.Row.Out != none() || len(c.Row.Sites) != 0 || !slices.Equal(c.Row.Calls, []impl.Call{{Proc: 1, Kind: kind}}) {
				t.Errorf("without a sum there is %+v", c)
			}
		}
		if lacks.check(made) || !sameCerts(lacks.round(made), made) {
			t.Errorf("without a sum %+v hold, or change", made)
		}
	}
	for kind, c := range has.least() {
		out := fullSum(p, 1).Rows[kind].Out
		if placesComeTo(c) != 3 || regOf(c.States[1], 1) != out || len(c.Row.Sites) != truth(kind == 1) {
			t.Errorf("with a sum there is %+v", c)
		}
	}
	// What gives nothing back is known; one does not come behind it, either.
	silent := ringGiven{p, []impl.Sum{{Proc: 1, Rows: make([]impl.Row, 3)}}, 1}
	if !sameCerts(silent.least(), lacks.least()) || !silent.check(silent.least()) {
		t.Errorf("by a sum that says nothing there is %+v", silent.least())
	}
}

// What comes up at several places comes into the row once, and in order.
func TestRoundSitesAndCallsEachOnceAndInOrder(t *testing.T) {
	p := told("ask 0 2; call 1 2 0; hold 2; call 0 1 0; less 0 1 1; go 7; call 1 1 1; call 2 1 2", "back 0", "back 0")
	sums := []impl.Sum{
		{Proc: 1, Rows: []impl.Row{{Out: span(-3, 3)}, {Out: span(-3, 3)}, {Out: span(-3, 3)}}},
		{Proc: 2, Rows: []impl.Row{{Out: span(0, 9)}, {Out: span(0, 9)}, {Out: span(0, 9)}}},
	}
	// The hold is of 0: all places are given to it by hand, as one does not come past it.
	g := ringGiven{p, sums, 2}
	certs := g.start()
	for at := range certs[0].States {
		certs[0].States[at] = state([spansAll]impl.Span{span(-1, 2), span(0, 1), span(0, 0), span(0, 0)})
	}
	got := g.round(certs)[0]
	calls := []impl.Call{{Proc: 1, Kind: 0}, {Proc: 1, Kind: 1}, {Proc: 1, Kind: 2}, {Proc: 2, Kind: 0}, {Proc: 2, Kind: 1}, {Proc: 2, Kind: 2}}
	if !slices.Equal(got.Row.Calls, calls) || !slices.Equal(got.Row.Sites, []impl.Site{{Proc: 0, At: 2, Fault: impl.FaultHold}}) {
		t.Errorf("a round tells %+v", got.Row)
	}
	// Those that are there already stay where they are, and are there once.
	for _, some := range [][]impl.Call{calls[1:2], calls[4:], calls[5:], {calls[0], calls[5]}, calls} {
		certs[0].Row.Calls = some
		if got := g.round(certs)[0]; !slices.Equal(got.Row.Calls, calls) {
			t.Errorf("with %v a round tells %v", some, got.Row.Calls)
		}
	}
	// A backward jump tells of places in another order than they lie in.
	q := told("go 5; hold 0; put 1 0; do 0 1 4; back 0; get 2 1; same 0 1 1; go 1")
	sites := []impl.Site{{At: 1, Fault: 3}, {At: 2, Fault: 2}, {At: 3, Fault: 1}, {At: 5, Fault: 2}}
	wide := ringGiven{q, nil, 0}
	certs = wide.start()
	for at := range certs[2].States {
		certs[2].States[at] = wideState()
	}
	for _, some := range [][]impl.Site{nil, sites[3:], sites[2:3], {sites[0], sites[3]}, sites} {
		certs[2].Row.Sites = some
		if got := wide.round(certs)[2]; !slices.Equal(got.Row.Sites, sites) {
			t.Errorf("with %v a round tells %v", some, got.Row.Sites)
		}
	}
}

// What is told later of a place ahead comes ahead in the row.
func TestRoundPutsWhatIsToldLaterInOrder(t *testing.T) {
	p := told("go 4; call 1 1 2; get 2 1; back 0; ask 2 1; hold 2; call 1 2 2; go 1", "", "")
	g := ringGiven{p, fullSums(p)[1:], 2}
	sites := []impl.Site{{At: 2, Fault: 2}, {At: 5, Fault: 3}}
	calls := []impl.Call{{Proc: 1, Kind: 2}, {Proc: 2, Kind: 2}}
	certs := g.start()
	for nth := range 12 {
		for _, c := range certs {
			wantSites, wantCalls := sites[:0], calls[:0]
			if nth >= 4 {
				wantSites = sites[1:]
			}
			if nth >= 5 {
				wantCalls = calls[1:]
			}
			if nth >= 7 {
				wantCalls = calls
			}
			if nth >= 8 {
				wantSites = sites
			}
			if !slices.Equal(c.Row.Sites, wantSites) || !slices.Equal(c.Row.Calls, wantCalls) {
				t.Errorf("%d rounds tell %+v", nth, c.Row)
			}
		}
		certs = g.round(certs)
	}
}

func TestSumsThatAreNotOkMakeNothing(t *testing.T) {
	p := ringsProg()
	for ring := range graphOf(p).ringsOf() {
		g := holdsAll(t, p, ring)
		for _, change := range sumChanges() {
			for proc := range 2 {
				broken := g
				broken.sums = fullSums(p)
				change.do(&broken.sums[proc])
				if sumsFine(p, broken.sums) {
					t.Fatalf("%s: %+v are ok", change.name, broken.sums)
				}
				refusesRounds(t, broken, change.name)
				if certs := append(broken.least(), broken.wide()...); len(certs) != 0 {
					t.Errorf("%s: of ring %d there is %+v", change.name, ring, certs)
				}
			}
		}
		twice := append(fullSums(p), fullSum(p, 3))
		turned := fullSums(p)
		slices.Reverse(turned)
		for _, sums := range [][]impl.Sum{twice, turned} {
			broken := g
			broken.sums = sums
			refusesRounds(t, broken, "sums out of order, or twice")
			if certs := append(broken.least(), broken.wide()...); len(certs) != 0 {
				t.Errorf("of ring %d by sums out of order, or twice, there is %+v", ring, certs)
			}
		}
	}
}
