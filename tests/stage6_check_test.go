package tests

import (
	"math/rand"
	"slices"
	"testing"

	"loop.example/gauger/impl"
)

func TestP58CheckOfAllCerts(t *testing.T) {
	t.Parallel()
	held := 0
	all := certsGivens(200)
	for _, g := range all {
		got := g.check(g.certs)
		if want := checkFine(g.p, g.sums, g.ring, g.certs); got != want {
			t.Fatalf("of %v, ring %d, by %+v, RingCheck of %+v is %t", g.p, g.ring, g.sums, g.certs, got)
		}
		if want := g.known() && sameCerts(g.round(g.certs), g.certs); got != want {
			t.Fatalf("of %v, ring %d, all known %t, RingCheck of %+v is %t", g.p, g.ring, g.known(), g.certs, got)
		}
		held += truth(got)
	}
	if held < len(all)/10 || held > len(all)*9/10 {
		t.Errorf("%d of %d hold", held, len(all))
	}
}

// Each that is called must be known, whether or not one comes to the call.
func TestP58AllThatIsCalledIsKnown(t *testing.T) {
	t.Parallel()
	for _, p := range append(ringsMade(), livelyProgs(200)...) {
		all := fullSums(p)
		for ring := range graphOf(p).ringsOf() {
			for some := range 1 << len(p) {
				g := ringGiven{p, nil, ring}
				for proc := range p {
					if some&(1<<proc) != 0 {
						g.sums = append(g.sums, all[proc])
					}
				}
				want := knownFine(p, g.sums, ring)
				if g.check(g.least()) != want || g.check(g.wide()) != want {
					t.Fatalf("of %v, ring %d, by %+v, RingLeast holds %t", p, ring, g.sums, g.check(g.least()))
				}
			}
		}
	}
}

func TestP58KnownByHand(t *testing.T) {
	// Procedure 0 calls itself, 1, and, where one does not come, 2; 3 is not called.
	p := told("call 1 0 0; call 1 1 0; back 1; call 2 2 0", "call 2 1 0; back 0", "back 0", "")
	sum := func(proc int) impl.Sum { return impl.Sum{Proc: proc, Rows: make([]impl.Row, 3)} }
	for _, c := range []struct {
		ring int
		sums []impl.Sum
		want bool
	}{
		{0, nil, true}, {1, nil, true}, {3, nil, true}, {2, nil, false},
		{2, []impl.Sum{sum(1)}, false}, {2, []impl.Sum{sum(2)}, false}, {2, []impl.Sum{sum(1), sum(2)}, true},
		{2, []impl.Sum{sum(0), sum(1)}, false}, {2, []impl.Sum{sum(0), sum(1), sum(2)}, true},
		{2, []impl.Sum{sum(1), sum(2), sum(3)}, true}, {2, []impl.Sum{sum(1), sum(3)}, false},
		{2, []impl.Sum{sum(0), sum(3)}, false}, {0, []impl.Sum{sum(3)}, true},
	} {
		if got := impl.RingCheck(p, c.sums, c.ring, impl.RingLeast(p, c.sums, c.ring)); got != c.want {
			t.Errorf("of ring %d, by %+v, RingLeast holds %t", c.ring, c.sums, got)
		}
	}
	// Of procedures that call each other each is of the ring; what one of them calls must be known.
	q := told("call 0 1 0", "call 0 2 0; call 0 0 0", "call 0 0 0; call 1 3 0", "")
	ring := impl.RingLeast(q, nil, 1)
	if impl.RingCheck(q, nil, 1, ring) || !impl.RingCheck(q, []impl.Sum{sum(3)}, 1, ring) || impl.RingCheck(q, []impl.Sum{sum(0), sum(1), sum(2)}, 1, ring) {
		t.Errorf("%+v hold, or do not", ring)
	}
}

func TestP59WithOneThingLessNothingHolds(t *testing.T) {
	t.Parallel()
	less := make([]int, 4)
	for _, g := range ringGivens(200) {
		least := g.least()
		for at, c := range least {
			without := func(sort int, change func(c *impl.Cert)) {
				certs := copyOfCerts(least)
				change(&certs[at])
				if less[sort]++; g.check(certs) || sameCerts(g.round(certs), certs) {
					t.Fatalf("of %v, ring %d, by %+v, of %+v holds %+v", g.p, g.ring, g.sums, least, certs)
				}
			}
			for place, s := range c.States {
				if s.Any {
					without(0, func(c *impl.Cert) { c.States[place] = noState() })
				}
			}
			if c.Row.Out.Any {
				without(1, func(c *impl.Cert) { c.Row.Out = none() })
			}
			for n := range c.Row.Sites {
				without(2, func(c *impl.Cert) { c.Row.Sites = slices.Delete(c.Row.Sites, n, n+1) })
			}
			for n := range c.Row.Calls {
				without(3, func(c *impl.Cert) { c.Row.Calls = slices.Delete(c.Row.Calls, n, n+1) })
			}
		}
	}
	if slices.Min(less) < 200 {
		t.Errorf("only %v", less)
	}
}

// All of what is taken out is missed, and each word at an end of a span, too.
func TestP59WithOneWordLessNothingHolds(t *testing.T) {
	t.Parallel()
	less := 0
	for _, g := range ringGivens(40) {
		least := g.least()
		for at, c := range least {
			for place, s := range c.States {
				for reg := range spansAll {
					for _, smaller := range oneWordLess(spansOf(s)[reg]) {
						certs := copyOfCerts(least)
						certs[at].States[place] = with(s, reg, smaller)
						if less++; g.check(certs) {
							t.Fatalf("of %v, ring %d, by %+v, of %+v holds %+v", g.p, g.ring, g.sums, least, certs)
						}
					}
				}
			}
			for _, smaller := range oneWordLess(c.Row.Out) {
				certs := copyOfCerts(least)
				certs[at].Row.Out = smaller
				if less++; g.check(certs) {
					t.Fatalf("of %v, ring %d, by %+v, of %+v holds %+v", g.p, g.ring, g.sums, least, certs)
				}
			}
		}
	}
	if less < 1000 {
		t.Errorf("only %d", less)
	}
}

// oneWordLess is the spans with one word less than s, but none.
func oneWordLess(s impl.Span) []impl.Span {
	if s.Lo == s.Hi {
		return nil
	}
	return []impl.Span{span(s.Lo+1, s.Hi), span(s.Lo, s.Hi-1)}
}

// Something more holds just if nothing else comes of it; sites and calls more always do.
func TestP58WithOneThingMore(t *testing.T) {
	t.Parallel()
	from := rand.New(rand.NewSource(40))
	holds, not := 0, 0
	for _, g := range ringGivens(150) {
		least := g.least()
		for at, c := range least {
			check := func(change func(c *impl.Cert)) bool {
				certs := copyOfCerts(least)
				change(&certs[at])
				got := g.check(certs)
				if want := g.known() && sameCerts(roundFine(g.p, g.sums, g.ring, certs), certs); got != want {
					t.Fatalf("of %v, ring %d, by %+v, of %+v RingCheck of %+v is %t", g.p, g.ring, g.sums, least, certs, got)
				}
				holds, not = holds+truth(got), not+truth(!got && g.known())
				return got
			}
			place := from.Intn(len(c.States))
			check(func(c *impl.Cert) { c.States[place] = moreState(from, c.States[place]) })
			check(func(c *impl.Cert) { c.Row.Out = span(-16, 15) })
			if !check(func(c *impl.Cert) { c.Row.Sites = sitesOf(g.p, c.Proc) }) && g.known() {
				t.Fatalf("of %v, ring %d, with all sites %+v hold no more", g.p, g.ring, least)
			}
			if !check(func(c *impl.Cert) { c.Row.Calls = callsAll(g.p, c.Proc) }) && g.known() {
				t.Fatalf("of %v, ring %d, with all calls %+v hold no more", g.p, g.ring, least)
			}
		}
	}
	if holds < 1000 || not < 100 {
		t.Errorf("%d hold, %d do not", holds, not)
	}
}

func TestP58OneThingLessOrMoreByHand(t *testing.T) {
	p := told("ask 1 1; hold 1; call 2 0 2; back 0", "get 2 0; back 2")
	least := impl.RingLeast(p, nil, 1)
	// One does not come behind a call that nothing is given back of: procedure 0 never ends.
	site, call := impl.Site{At: 1, Fault: 3}, impl.Call{Proc: 0, Kind: 1}
	for kind, c := range impl.RingLeast(p, nil, 0) {
		if placesComeTo(c) != 3 || c.Row.Out != none() || !slices.Equal(c.Row.Sites, []impl.Site{site}) || !slices.Equal(c.Row.Calls, []impl.Call{call}) {
			t.Fatalf("of kind %d there is %+v", kind, c)
		}
	}
	if len(least) != 3 || least[1].Row.Out != span(0, 0) {
		t.Fatalf("there is %+v", least)
	}
	for _, x := range []struct {
		name  string
		ring  int
		do    func(c *impl.Cert)
		holds bool
	}{
		{"the same", 0, func(c *impl.Cert) {}, true},
		{"no first state", 0, func(c *impl.Cert) { c.States[0] = noState() }, false},
		{"no third state", 0, func(c *impl.Cert) { c.States[2] = noState() }, false},
		{"a fourth state", 0, func(c *impl.Cert) { c.States[3] = c.States[2] }, false},
		{"a last state, of the end", 0, func(c *impl.Cert) { c.States[4] = c.States[2] }, false},
		{"a last state, of the end, and what it gives back", 0, func(c *impl.Cert) {
			c.States[4], c.Row.Out = c.States[2], span(0, 0)
		}, true},
		{"something given back that is not come behind", 0, func(c *impl.Cert) { c.Row.Out = span(2, 2) }, true},
		{"no site", 0, func(c *impl.Cert) { c.Row.Sites = nil }, false},
		{"no call", 0, func(c *impl.Cert) { c.Row.Calls = nil }, false},
		{"a call more", 0, func(c *impl.Cert) { c.Row.Calls = append(c.Row.Calls, impl.Call{Proc: 0, Kind: 2}) }, true},
		{"the same", 1, func(c *impl.Cert) {}, true},
		{"no Out", 1, func(c *impl.Cert) { c.Row.Out = none() }, false},
		{"another Out", 1, func(c *impl.Cert) { c.Row.Out = span(1, 1) }, false},
		{"more of Out", 1, func(c *impl.Cert) { c.Row.Out = span(-1, 1) }, true},
		{"a site more", 1, func(c *impl.Cert) { c.Row.Sites = []impl.Site{{Proc: 1, At: 0, Fault: 2}} }, true},
		{"more at the end", 1, func(c *impl.Cert) { c.States[2] = c.States[1] }, true},
	} {
		// Of kind 0 nobody is called within these rings.
		at := 1
		if x.ring == 0 {
			at = 0
		}
		certs := impl.RingLeast(p, nil, x.ring)
		x.do(&certs[at])
		if got := impl.RingCheck(p, nil, x.ring, certs); got != x.holds {
			t.Errorf("%s: RingCheck of %+v is %t", x.name, certs, got)
		}
	}
	// By 0 procedure 0 is called: what it is said to give back leads on.
	certs := impl.RingLeast(p, nil, 0)
	certs[1].Row.Out = span(2, 2)
	if impl.RingCheck(p, nil, 0, certs) {
		t.Errorf("%+v hold", certs)
	}
	for _, c := range impl.RingRound(p, nil, 0, certs) {
		if regOf(c.States[3], 2) != span(2, 2) {
			t.Errorf("behind the call there is %+v", c.States[3])
		}
	}
	if still := (ringGiven{p, nil, 0}).still(certs); !impl.RingCheck(p, nil, 0, still) || !certsIn(impl.RingLeast(p, nil, 0), still) {
		t.Errorf("%+v do not hold", still)
	}
}
