package tests

import (
	"math"
	"math/rand"
	"slices"
	"strconv"
	"testing"

	"loop.example/gauger/impl"
)

func TestOkOfCertsThatSayNothingSomethingAndAll(t *testing.T) {
	from := rand.New(rand.NewSource(33))
	for _, p := range append(someProgs(300), ringsMade()...) {
		for proc := range p {
			for kind := range rowsAll {
				empty := impl.Cert{Proc: proc, Kind: kind, States: make([]impl.State, len(p[proc].Code)+1)}
				for _, c := range []impl.Cert{empty, fullCert(p, proc, kind), someCert(from, p, proc, kind)} {
					if !impl.CertOk(p, c) || !certFine(p, c) {
						t.Fatalf("of %v %+v is not ok", p, c)
					}
				}
			}
		}
	}
}

// certChange is what is done to a cert, that is ok no more.
type certChange struct {
	name string
	do   func(c *impl.Cert)
}

// rowChanges break the row of a cert of procedure 0 or 1 of ringsProg.
func rowChanges() []certChange {
	var all []certChange
	for _, change := range append(siteChanges(0), callChanges(0)...) {
		all = append(all, certChange{change.name, func(c *impl.Cert) {
			s := impl.Sum{Proc: c.Proc, Rows: []impl.Row{c.Row}}
			change.do(&s)
			c.Row = s.Rows[0]
		}})
	}
	for _, bad := range badSpans() {
		all = append(all, certChange{"Out not ok", func(c *impl.Cert) { c.Row.Out = bad }})
	}
	return all
}

// stateChanges break the states of a cert of procedure 0 or 1 of ringsProg.
func stateChanges() []certChange {
	var all []certChange
	for _, bad := range badStates() {
		all = append(all, certChange{"the first state: " + bad.name, func(c *impl.Cert) { c.States[0] = bad.s }})
		all = append(all, certChange{"the last state: " + bad.name, func(c *impl.Cert) { c.States[len(c.States)-1] = bad.s }})
	}
	for _, more := range []int{-9, -8, -5, -4, -2, -1, 1, 2, 9} {
		name := strconv.Itoa(more) + " states more"
		all = append(all, certChange{name, func(c *impl.Cert) {
			c.States = slices.Repeat(c.States, 3)[:max(0, len(c.States)+more)]
		}})
		all = append(all, certChange{name + ", that are none", func(c *impl.Cert) {
			c.States = make([]impl.State, max(0, len(c.States)+more))
		}})
	}
	return append(all, certChange{"no states", func(c *impl.Cert) { c.States = nil }})
}

// certChanges break one thing of a cert of procedure 0 or 1 of ringsProg.
func certChanges() []certChange {
	all := append(rowChanges(), stateChanges()...)
	for _, n := range []int{math.MinInt, -2, -1, 4, 5, math.MaxInt} {
		all = append(all, certChange{"Proc " + strconv.Itoa(n), func(c *impl.Cert) { c.Proc = n }})
		all = append(all, certChange{"Proc " + strconv.Itoa(n) + ", a row that says nothing", func(c *impl.Cert) {
			c.Proc, c.Row = n, impl.Row{}
		}})
	}
	for _, n := range noKinds() {
		all = append(all, certChange{"Kind " + strconv.Itoa(n), func(c *impl.Cert) { c.Kind = n }})
	}
	return all
}

// refusesCerts asks for the answers at certs that do not fit, or at what else is not ok.
func refusesCerts(t *testing.T, g certsGiven, name string) {
	t.Helper()
	if sums := impl.CertSums(g.p, g.ring, g.certs); len(sums) != 0 {
		t.Errorf("%s: of ring %d CertSums are %+v", name, g.ring, sums)
	}
	refusesRounds(t, g, name)
}

// refusesRounds asks for the answers that take sums, too.
func refusesRounds(t *testing.T, g certsGiven, name string) {
	t.Helper()
	if made := g.round(g.certs); len(made) != 0 {
		t.Errorf("%s: of ring %d a round makes %+v", name, g.ring, made)
	}
	if g.check(g.certs) {
		t.Errorf("%s: of ring %d %+v hold", name, g.ring, g.certs)
	}
}

// holdsAll is certs that say all, and hold, by sums that say all.
func holdsAll(t *testing.T, p []impl.Proc, ring int) certsGiven {
	t.Helper()
	g := certsGiven{ringGiven{p, fullSums(p), ring}, fullCerts(p, ring)}
	if !g.check(g.certs) || len(impl.CertSums(p, ring, g.certs)) == 0 || !sameCerts(g.round(g.certs), g.certs) {
		t.Fatalf("of %v, ring %d, %+v do not hold", p, ring, g.certs)
	}
	return g
}

func TestOkOfCertsWithOneThingBroken(t *testing.T) {
	p := ringsProg()
	for proc, ring := range []int{2, 1} {
		g := holdsAll(t, p, ring)
		for _, change := range certChanges() {
			for at := range g.certs {
				broken := g
				broken.certs = copyOfCerts(g.certs)
				change.do(&broken.certs[at])
				if c := broken.certs[at]; impl.CertOk(p, c) || certFine(p, c) {
					t.Errorf("%s: of %d %+v is ok", change.name, proc, c)
				}
				refusesCerts(t, broken, change.name)
			}
		}
	}
}

// A cert of another procedure is ok by itself, if it has as many states, and a
// row that says nothing; it does not fit.
func TestCertsOfAnotherProcedureOrKind(t *testing.T) {
	p := told("call 0 1 0; back 0", "call 0 0 0; back 0", "call 0 3 0; back 0", "call 0 2 0; back 0")
	for ring := range 2 {
		g := holdsAll(t, p, ring)
		for at, c := range g.certs {
			for proc := range p {
				for kind := range rowsAll {
					other := g
					other.certs = copyOfCerts(g.certs)
					other.certs[at] = fullCert(p, proc, kind)
					if proc == c.Proc && kind == c.Kind {
						continue
					}
					if !impl.CertOk(p, other.certs[at]) {
						t.Fatalf("%+v is not ok", other.certs[at])
					}
					refusesCerts(t, other, "a cert of another procedure, or kind")
				}
			}
		}
	}
}

// fitChanges are what is done to six certs of a ring, that fit no more, each
// one being ok.
func fitChanges() map[string]func(certs []impl.Cert) []impl.Cert {
	type list = []impl.Cert
	return map[string]func(certs []impl.Cert) []impl.Cert{
		"none":                        func(c list) list { return nil },
		"one alone":                   func(c list) list { return c[:1] },
		"the first procedure's alone": func(c list) list { return c[:3] },
		"the last procedure's alone":  func(c list) list { return c[3:] },
		"without the first":           func(c list) list { return c[1:] },
		"without the last":            func(c list) list { return c[:5] },
		"without one between":         func(c list) list { return slices.Delete(c, 2, 3) },
		"the first once more":         func(c list) list { return append(c, c[0]) },
		"the last once more":          func(c list) list { return append(c, c[5]) },
		"the last procedure's twice":  func(c list) list { return append(c, c[3:]...) },
		"all twice":                   func(c list) list { return append(c, c...) },
		"procedures out of order":     func(c list) list { return append(c[3:], c[:3]...) },
		"turned round":                func(c list) list { slices.Reverse(c); return c },
		"the first kinds out of order": func(c list) list {
			c[0], c[1] = c[1], c[0]
			return c
		},
		"the last kinds out of order": func(c list) list {
			c[4], c[5] = c[5], c[4]
			return c
		},
		"by kinds, then by procedures":                           func(c list) list { return list{c[0], c[3], c[1], c[4], c[2], c[5]} },
		"one twice, instead of another one":                      func(c list) list { c[4] = c[3]; return c },
		"the first procedure's twice, instead of the last one's": func(c list) list { return append(c[:3:3], c[:3]...) },
		"the last procedure's twice, instead of the first one's": func(c list) list { return append(c[3:], c[3:]...) },
	}
}

func TestCertsTooFewTooManyOrOutOfOrder(t *testing.T) {
	for _, p := range []([]impl.Proc){evenProg(), twiceProg()} {
		for ring := range graphOf(p).ringsOf() {
			if len(ringFine(p, ring)) != 2 {
				continue
			}
			g := holdsAll(t, p, ring)
			for name, do := range fitChanges() {
				changed := g
				changed.certs = do(copyOfCerts(g.certs))
				refusesCerts(t, changed, name)
			}
		}
	}
}

func TestCertsOfAnotherRing(t *testing.T) {
	for _, p := range ringsMade() {
		rings := graphOf(p).ringsOf()
		for ring := range rings {
			for other := range rings {
				g := holdsAll(t, p, ring)
				if other != ring {
					g.ring = other
					refusesCerts(t, g, "another ring's")
				}
			}
		}
	}
}

func noRings(p []impl.Proc) []int {
	many := len(graphOf(p).ringsOf())
	return []int{math.MinInt, math.MinInt + 1, -many, -2, -1, many, many + 1, many + 4, math.MaxInt}
}

func TestRingsThatAreNone(t *testing.T) {
	t.Parallel()
	for _, p := range append(ringsMade(), someProgs(100)...) {
		for _, none := range noRings(p) {
			g := ringGiven{p, fullSums(p), none}
			if certs := append(append(g.start(), g.least()...), g.wide()...); len(certs) != 0 {
				t.Errorf("of %v ring %d has %+v", p, none, certs)
			}
			refusesCerts(t, certsGiven{g, nil}, "no such ring, and no certs")
			for _, ring := range []int{0, len(graphOf(p).ringsOf()) - 1} {
				refusesCerts(t, certsGiven{g, fullCerts(p, ring)}, "no such ring")
			}
		}
	}
}

func TestRingsOfAProgramThatIsNotOk(t *testing.T) {
	t.Parallel()
	for _, p := range badProgs() {
		for ring := -1; ring <= 5; ring++ {
			for _, sums := range [][]impl.Sum{nil, fullSums(evenProg())} {
				g := ringGiven{p, sums, ring}
				if certs := append(append(g.start(), g.least()...), g.wide()...); len(certs) != 0 {
					t.Errorf("of %v ring %d has %+v", p, ring, certs)
				}
				for _, certs := range [][]impl.Cert{nil, fullCerts(evenProg(), 0), {{States: make([]impl.State, 2)}}} {
					refusesCerts(t, certsGiven{g, certs}, "a program that is not ok")
				}
			}
		}
		for proc := -1; proc <= 5; proc++ {
			for states := range codeMost + 3 {
				c := impl.Cert{Proc: proc, States: make([]impl.State, states)}
				if impl.CertOk(p, c) {
					t.Errorf("of %v %+v is ok", p, c)
				}
			}
		}
	}
}

// changedCert is a cert in which one thing is changed, whatever comes of it.
func changedCert(from *rand.Rand, c impl.Cert) impl.Cert {
	c = copyOfCert(c)
	n := from.Intn(6) - 1
	switch from.Intn(6) {
	case 0:
		c.Proc = n
	case 1:
		c.Kind = n
	case 2:
		c.States = append(c.States, make([]impl.State, 3)...)[:max(0, len(c.States)+n-1)]
	case 3:
		bad := badStates()
		c.States[from.Intn(len(c.States))] = bad[from.Intn(len(bad))].s
	case 4:
		c.States[from.Intn(len(c.States))] = someState(from)
	case 5:
		s := changedSum(from, impl.Sum{Proc: c.Proc, Rows: []impl.Row{c.Row, c.Row, c.Row}})
		c.Row = append(s.Rows, impl.Row{})[0]
	}
	return c
}

func TestOkOfCertsThatAreChanged(t *testing.T) {
	from := rand.New(rand.NewSource(34))
	taken := 0
	const tries = 20000
	progs := append(someProgs(300), ringsMade()...)
	for k := range tries {
		p := progs[k%len(progs)]
		c := changedCert(from, someCert(from, p, from.Intn(len(p)), from.Intn(rowsAll)))
		want := certFine(p, c)
		if got := impl.CertOk(p, c); got != want {
			t.Fatalf("of %v CertOk of %+v is %t", p, c, got)
		}
		taken += truth(want)
	}
	if taken < tries/10 || taken > tries*9/10 {
		t.Errorf("%d of %d are ok", taken, tries)
	}
}

func TestP60StartFitsAndSaysNothing(t *testing.T) {
	for _, p := range append(append(ringsMade(), livelyProgs(300)...), someProgs(300)...) {
		for ring := range graphOf(p).ringsOf() {
			certs := impl.RingStart(p, ring)
			if !sameCerts(certs, startFine(p, ring)) || !fitFine(p, ring, certs) {
				t.Fatalf("of %v, ring %d, RingStart is %+v", p, ring, certs)
			}
			for _, c := range certs {
				said := slices.ContainsFunc(c.States, func(s impl.State) bool { return s.Any })
				if said || c.Row.Out != none() || len(c.Row.Sites)+len(c.Row.Calls) != 0 {
					t.Fatalf("of %v, ring %d, RingStart says %+v", p, ring, c)
				}
			}
		}
	}
}

func TestP60StartOfGivenRings(t *testing.T) {
	for ring, procs := range [][]int{{2}, {1}, {0}, {3}} {
		checkStart(t, ringsProg(), ring, procs)
	}
	for ring, procs := range [][]int{{1, 2}, {0}} {
		checkStart(t, evenProg(), ring, procs)
	}
	for ring, procs := range [][]int{{2, 3}, {0, 1}} {
		checkStart(t, twiceProg(), ring, procs)
	}
	checkStart(t, fourProg(), 0, []int{0, 1, 2, 3})
}

func checkStart(t *testing.T, p []impl.Proc, ring int, procs []int) {
	t.Helper()
	certs := impl.RingStart(p, ring)
	if len(certs) != 3*len(procs) {
		t.Fatalf("RingStart of %d has %d certs", ring, len(certs))
	}
	for at, c := range certs {
		if c.Proc != procs[at/3] || c.Kind != at%3 || len(c.States) != len(p[c.Proc].Code)+1 {
			t.Errorf("RingStart of %d has at %d %+v", ring, at, c)
		}
	}
}

func TestP61SumsOfCerts(t *testing.T) {
	t.Parallel()
	rows := 0
	for _, g := range certsGivens(150) {
		got := impl.CertSums(g.p, g.ring, g.certs)
		if !sameSums(got, certSumsFine(g.p, g.ring, g.certs)) {
			t.Fatalf("of %v CertSums of %+v is %+v", g.p, g.certs, got)
		}
		if !impl.SumsOk(g.p, got) || len(got) != len(ringFine(g.p, g.ring)) {
			t.Fatalf("of %v CertSums of %+v, %+v, are not ok", g.p, g.certs, got)
		}
		for at, c := range g.certs {
			if s := got[at/3]; s.Proc != c.Proc || !sameRow(s.Rows[c.Kind], c.Row) {
				t.Fatalf("of %v CertSums of %+v is %+v", g.p, g.certs, got)
			}
			rows += truth(!sameRow(c.Row, impl.Row{}))
		}
	}
	if rows < 1000 {
		t.Errorf("only %d rows say something", rows)
	}
}
