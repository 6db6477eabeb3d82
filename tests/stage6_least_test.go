package tests

import (
	"math/rand"
	"testing"

	"loop.example/gauger/impl"
)

func TestP53LeastOfAllRings(t *testing.T) {
	t.Parallel()
	out, several := 0, 0
	for _, g := range ringGivens(600) {
		got, want := g.least(), leastFine(g.p, g.sums, g.ring)
		if !sameCerts(got, want) {
			t.Fatalf("of %v, ring %d, by %+v, RingLeast is\n%+v, not\n%+v", g.p, g.ring, g.sums, got, want)
		}
		for _, c := range got {
			out += truth(c.Row.Out.Any)
			several += truth(c.Row.Out.Any && len(got) > 3)
		}
	}
	if out < 1000 || several < 200 {
		t.Errorf("only %d certs give back something, %d of them in rings of several", out, several)
	}
}

func TestP53ARoundMoreChangesNothingAndItHolds(t *testing.T) {
	t.Parallel()
	known := 0
	for _, g := range ringGivens(600) {
		least := g.least()
		if more := g.round(least); !sameCerts(more, least) {
			t.Fatalf("of %v, ring %d, RingLeast is %+v, and by a round more %+v", g.p, g.ring, least, more)
		}
		if g.check(least) != g.known() {
			t.Fatalf("of %v, ring %d, all known %t, RingLeast %+v holds %t", g.p, g.ring, g.known(), least, g.check(least))
		}
		known += truth(g.known())
	}
	if known < 500 {
		t.Errorf("only %d rings know all", known)
	}
}

// outCase is what the procedures of a ring give back by words below 0, 0 and above 0.
type outCase struct {
	p     []impl.Proc
	ring  int
	least []impl.Span
	wide  []impl.Span
}

func outCases() []outCase {
	return []outCase{
		// Rings of one that do not call themselves.
		{told(""), 0, []impl.Span{span(0, 0), span(0, 0), span(0, 0)}, []impl.Span{span(0, 0), span(0, 0), span(0, 0)}},
		{told("back 0"), 0, []impl.Span{span(-16, -1), span(0, 0), span(1, 15)}, []impl.Span{span(-16, -1), span(0, 0), span(1, 15)}},
		{told("go 0"), 0, []impl.Span{none(), none(), none()}, []impl.Span{none(), none(), none()}},
		{told("hold 0"), 0, []impl.Span{span(0, 0), none(), span(0, 0)}, []impl.Span{span(0, 0), none(), span(0, 0)}},
		{told("set 1 1; less 1 0 3; back 0; do 0 1 2; go 1"), 0,
			[]impl.Span{span(-16, -1), span(0, 0), span(1, 1)}, []impl.Span{span(-16, -1), span(0, 0), span(1, 1)}},
		{told("set 1 1; set 2 6; less 2 0 5; do 0 1 1; go 2; back 0"), 0,
			[]impl.Span{span(7, 7), span(7, 7), span(7, 15)}, []impl.Span{span(7, 15), span(7, 15), span(7, 15)}},
		// Rings of one that calls itself.
		{told("call 0 0 0; back 0"), 0, []impl.Span{none(), none(), none()}, []impl.Span{none(), none(), none()}},
		{countProg(), 0, []impl.Span{span(-16, -1), span(0, 0), span(0, 0)}, []impl.Span{span(-16, -1), span(0, 0), span(0, 0)}},
		{told("same 0 1 4; set 1 2; call 0 0 2; do 0 1 1; back 0"), 0,
			[]impl.Span{span(2, 2), span(0, 0), span(2, 2)}, []impl.Span{span(2, 2), span(0, 0), span(2, 2)}},
		// What it gives back is, now and then, one more than what it gives back, up to 2;
		// in a hurry place 5 has 4, too, from which one goes further.
		{told("ask 1 1; same 1 2 6; call 0 0 0; set 2 1; less 2 0 6; do 0 1 1; back 0"), 0,
			[]impl.Span{span(-16, 2), span(0, 2), span(1, 15)}, []impl.Span{span(-16, 15), span(0, 15), span(1, 15)}},
		// Rings of several.
		{evenProg(), 0, []impl.Span{span(0, 3), span(0, 0), span(0, 3), span(0, 3), span(3, 3), span(0, 3)},
			[]impl.Span{span(0, 4), span(0, 0), span(0, 4), span(0, 4), span(3, 3), span(0, 4)}},
		{told("call 0 1 0; back 0", "call 0 0 0; back 0"), 0,
			[]impl.Span{none(), none(), none(), none(), none(), none()}, []impl.Span{none(), none(), none(), none(), none(), none()}},
	}
}

func checkOuts(t *testing.T, name string, p []impl.Proc, certs []impl.Cert, want []impl.Span) {
	t.Helper()
	if len(certs) != len(want) {
		t.Fatalf("%s of %v: %+v", name, p, certs)
	}
	for at, c := range certs {
		if c.Row.Out != want[at] {
			t.Errorf("%s of %v: %d gives back of kind %d %+v, not %+v", name, p, c.Proc, c.Kind, c.Row.Out, want[at])
		}
	}
}

func TestP53P57WhatGivenRingsGiveBack(t *testing.T) {
	for _, c := range outCases() {
		checkOuts(t, "RingLeast", c.p, impl.RingLeast(c.p, nil, c.ring), c.least)
		checkOuts(t, "RingWide", c.p, impl.RingWide(c.p, nil, c.ring), c.wide)
	}
}

// With a ring that is known ahead one reckons on.
func TestP53WhatIsKnownAheadCounts(t *testing.T) {
	p := evenProg()
	sums := impl.CertSums(p, 0, impl.RingLeast(p, nil, 0))
	least := impl.RingLeast(p, sums, 1)
	checkOuts(t, "RingLeast", p, least, []impl.Span{span(1, 3), span(1, 3), span(1, 3)})
	if !impl.RingCheck(p, sums, 1, least) || impl.RingCheck(p, sums[:1], 1, least) != true || impl.RingCheck(p, sums[1:], 1, least) {
		t.Error("RingCheck")
	}
	for _, c := range least {
		if len(c.Row.Calls) != 2 || len(c.Row.Sites) != 1 || c.Row.Sites[0] != (impl.Site{Proc: 0, At: 2, Fault: impl.FaultHold}) {
			t.Errorf("there is %+v", c.Row)
		}
	}
}

func TestP54LeastIsInAllThatHold(t *testing.T) {
	t.Parallel()
	from := rand.New(rand.NewSource(37))
	held, others := 0, 0
	for _, g := range ringGivens(150) {
		least := g.least()
		for n := range 4 {
			// Whoever reckoned them: from anything on, or from something more, or less, than the least.
			certs := g.someCerts(from)
			if n == 1 {
				certs = moreCerts(from, g.p, least)
			} else if n > 1 {
				certs = lessCerts(from, moreCerts(from, g.p, lessCerts(from, least)))
			}
			for _, c := range [][]impl.Cert{certs, g.round(certs), g.still(certs)} {
				if !g.check(c) {
					continue
				}
				if held++; !certsIn(least, c) {
					t.Fatalf("of %v, ring %d, by %+v, %+v hold, in which RingLeast, %+v, is not", g.p, g.ring, g.sums, c, least)
				}
				others += truth(!sameCerts(c, least))
			}
		}
	}
	if held < 1000 || others < 500 {
		t.Errorf("only %d hold, %d of them others", held, others)
	}
}

// someOfRound takes some certs of a round, the others staying.
func someOfRound(from *rand.Rand, was []impl.Cert, made []impl.Cert, many int) []impl.Cert {
	taken := copyOfCerts(was)
	for range many {
		at := from.Intn(len(was))
		taken[at] = made[at]
	}
	return taken
}

func TestP55AnyOrderComesToTheLeast(t *testing.T) {
	t.Parallel()
	from := rand.New(rand.NewSource(38))
	for _, g := range ringGivens(100) {
		least := g.least()
		for many := 1; many <= 2; many++ {
			certs := g.start()
			for range 5 * len(certs) {
				certs = someOfRound(from, certs, g.round(certs), many)
				if !certsIn(certs, least) || !fitFine(g.p, g.ring, certs) {
					t.Fatalf("of %v, ring %d, by %+v, one comes to %+v, not in %+v", g.p, g.ring, g.sums, certs, least)
				}
			}
			if still := g.still(certs); !sameCerts(still, least) {
				t.Fatalf("of %v, ring %d, by %+v, one comes to %+v, not %+v", g.p, g.ring, g.sums, still, least)
			}
		}
	}
}

// One cert behind the other, upwards or downwards, till nothing changes.
func TestP55OneCertBehindTheOther(t *testing.T) {
	t.Parallel()
	for _, g := range ringGivens(60) {
		for _, down := range []bool{false, true} {
			certs := g.start()
			for changed := true; changed; {
				changed = false
				for n := range certs {
					at := n
					if down {
						at = len(certs) - 1 - n
					}
					made := g.round(certs)[at]
					changed = changed || !sameCert(made, certs[at])
					certs[at] = made
				}
			}
			if least := g.least(); !sameCerts(certs, least) {
				t.Fatalf("of %v, ring %d, by %+v, one comes to %+v, not %+v", g.p, g.ring, g.sums, certs, least)
			}
		}
	}
}

func TestP56BySumsThatSayMoreNoLess(t *testing.T) {
	t.Parallel()
	from := rand.New(rand.NewSource(39))
	more := 0
	for _, g := range ringGivens(600) {
		other := g
		other.sums = moreSums(from, g.p, g.sums)
		if !certsIn(g.least(), other.least()) {
			t.Fatalf("of %v, ring %d, RingLeast by %+v is %+v, by %+v %+v", g.p, g.ring, g.sums, g.least(), other.sums, other.least())
		}
		more += truth(!sameCerts(g.least(), other.least()))
	}
	if more < 200 {
		t.Errorf("only %d say more", more)
	}
}

func TestP57WideOfAllRings(t *testing.T) {
	t.Parallel()
	further := 0
	for _, g := range ringGivens(600) {
		got, want := g.wide(), hurryFine(g.p, g.sums, g.ring)
		if !sameCerts(got, want) {
			t.Fatalf("of %v, ring %d, by %+v, RingWide is\n%+v, not\n%+v", g.p, g.ring, g.sums, got, want)
		}
		further += truth(!sameCerts(got, g.least()))
	}
	if further < 100 {
		t.Errorf("only %d go further", further)
	}
}

func TestP57WideHasTheLeastAndHolds(t *testing.T) {
	t.Parallel()
	known := 0
	for _, g := range ringGivens(600) {
		wide := g.wide()
		if least := g.least(); !certsIn(least, wide) {
			t.Fatalf("of %v, ring %d, RingWide is %+v, RingLeast %+v", g.p, g.ring, wide, least)
		}
		if more := g.round(wide); !sameCerts(more, wide) {
			t.Fatalf("of %v, ring %d, RingWide is %+v, and by a round more %+v", g.p, g.ring, wide, more)
		}
		if g.check(wide) != g.known() {
			t.Fatalf("of %v, ring %d, all known %t, RingWide %+v holds %t", g.p, g.ring, g.known(), wide, g.check(wide))
		}
		known += truth(g.known())
	}
	if known < 500 {
		t.Errorf("only %d rings know all", known)
	}
}

// The third round is the first in which what grows grows far: place 0 is come
// to in the first one, place 1 in the second one, and from there place 0 again.
func TestP57FromTheThirdRoundOn(t *testing.T) {
	p := told("ask 0 2; go 0")
	least, wide := impl.RingLeast(p, nil, 0), impl.RingWide(p, nil, 0)
	for _, c := range []struct {
		kind        int
		least, wide impl.Span
	}{{0, span(-16, 2), span(-16, 4)}, {1, span(0, 2), span(0, 4)}, {2, span(0, 15), span(0, 15)}} {
		if got := regOf(least[c.kind].States[0], 0); got != c.least {
			t.Errorf("RingLeast comes by words of kind %d to %+v", c.kind, got)
		}
		if got := regOf(wide[c.kind].States[0], 0); got != c.wide {
			t.Errorf("RingWide comes by words of kind %d to %+v", c.kind, got)
		}
		if got := regOf(wide[c.kind].States[1], 0); got != span(0, 2) {
			t.Errorf("RingWide comes by words of kind %d to %+v at the next place, which does not grow", c.kind, got)
		}
	}
	if got := wide[2].States[0].Regs; got[1] != span(0, 0) || got[2] != span(0, 0) {
		t.Errorf("RingWide comes to registers %+v", got)
	}
}

// Out grows far by itself: what is given back at two places, by spans that do not grow.
func TestP57OutGrowsFar(t *testing.T) {
	p := told("ask 1 1; same 1 2 4; set 0 3; back 0; set 0 1; back 0")
	for kind := range rowsAll {
		least, wide := impl.RingLeast(p, nil, 0)[kind], impl.RingWide(p, nil, 0)[kind]
		if least.Row.Out != span(1, 3) || wide.Row.Out != span(1, 3) {
			t.Errorf("of kind %d are given back %+v, %+v", kind, least.Row.Out, wide.Row.Out)
		}
	}
	// Here one of them is come to a round later.
	q := told("ask 1 1; same 1 2 4; set 0 3; back 0; set 0 1; move 2 0; back 0")
	for kind := range rowsAll {
		least, wide := impl.RingLeast(q, nil, 0)[kind], impl.RingWide(q, nil, 0)[kind]
		if least.Row.Out != span(1, 3) || wide.Row.Out != span(0, 3) {
			t.Errorf("of kind %d are given back %+v, %+v", kind, least.Row.Out, wide.Row.Out)
		}
		if regOf(wide.States[3], 0) != span(3, 3) || regOf(wide.States[6], 0) != span(1, 1) {
			t.Errorf("of kind %d there is %+v", kind, wide)
		}
	}
}

// Cells grow far, too, and each register by itself.
func TestP57CellsGrowFar(t *testing.T) {
	p := told("set 1 1; set 2 1; do 1 2 1; put 0 1; go 1")
	least, wide := impl.RingLeast(p, nil, 0)[1], impl.RingWide(p, nil, 0)[1]
	if least.States[1].Cells != span(-16, 15) || wide.States[1].Cells != span(-16, 15) {
		t.Errorf("cells are %+v, %+v", least.States[1], wide.States[1])
	}
	q := told("ask 1 2; put 0 1; go 0")
	least, wide = impl.RingLeast(q, nil, 0)[1], impl.RingWide(q, nil, 0)[1]
	if least.States[0].Cells != span(0, 2) || wide.States[0].Cells != span(0, 4) || regOf(wide.States[0], 1) != span(0, 4) || regOf(wide.States[0], 2) != span(0, 0) {
		t.Errorf("there is %+v, %+v", least.States[0], wide.States[0])
	}
}
