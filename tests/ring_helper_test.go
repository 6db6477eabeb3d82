package tests

import (
	"math/rand"
	"slices"
	"strings"

	"loop.example/gauger/impl"
)

func sameCert(a impl.Cert, b impl.Cert) bool {
	return a.Proc == b.Proc && a.Kind == b.Kind && slices.EqualFunc(a.States, b.States, sameState) && sameRow(a.Row, b.Row)
}

// sameCerts holds certs against each other; no list is an empty one.
func sameCerts(a []impl.Cert, b []impl.Cert) bool {
	return slices.EqualFunc(a, b, sameCert)
}

func copyOfCert(c impl.Cert) impl.Cert {
	var states []impl.State
	for _, s := range c.States {
		states = append(states, copyOfState(s))
	}
	c.States = states
	c.Row.Sites, c.Row.Calls = slices.Clone(c.Row.Sites), slices.Clone(c.Row.Calls)
	return c
}

// copyOfCerts shares no memory with certs.
func copyOfCerts(certs []impl.Cert) []impl.Cert {
	var other []impl.Cert
	for _, c := range certs {
		other = append(other, copyOfCert(c))
	}
	return other
}

// rowIn says whether all that a row says is said by another one.
func rowIn(a impl.Row, b impl.Row) bool {
	in := setOf(a.Out)&^setOf(b.Out) == 0
	for _, s := range a.Sites {
		in = in && slices.Contains(b.Sites, s)
	}
	for _, c := range a.Calls {
		in = in && slices.Contains(b.Calls, c)
	}
	return in
}

// certsIn says whether all that certs say is said by other ones of the same ring.
func certsIn(a []impl.Cert, b []impl.Cert) bool {
	return slices.EqualFunc(a, b, func(x impl.Cert, y impl.Cert) bool {
		return x.Proc == y.Proc && x.Kind == y.Kind && slices.EqualFunc(x.States, y.States, inFine) && rowIn(x.Row, y.Row)
	})
}

// graphOf is which procedures of an ok program call which.
func graphOf(p []impl.Proc) graph {
	g := make(graph, len(p))
	for k := range p {
		for to := range p {
			g[k] |= truth(isCalled(p, k, to)) << to
		}
	}
	return g
}

// ringFine is the procedures of a ring; none, if there is no such ring.
func ringFine(p []impl.Proc, ring int) []int {
	if !progFine(p) {
		return nil
	}
	rings := graphOf(p).ringsOf()
	if !inRange(ring, 0, len(rings)-1) {
		return nil
	}
	return rings[ring]
}

// certFine is what CertOk must say.
func certFine(p []impl.Proc, c impl.Cert) bool {
	if !progFine(p) || !inRange(c.Proc, 0, len(p)-1) || !inRange(c.Kind, 0, rowsAll-1) || len(c.States) != len(p[c.Proc].Code)+1 {
		return false
	}
	return rowFine(p, c.Proc, c.Row) && !slices.ContainsFunc(c.States, func(s impl.State) bool { return !stateFine(s) })
}

// fitFine is when certs fit a ring.
func fitFine(p []impl.Proc, ring int, certs []impl.Cert) bool {
	procs := ringFine(p, ring)
	fine := len(procs) > 0 && len(certs) == len(procs)*rowsAll
	for at, c := range certs {
		fine = fine && c.Proc == procs[at/rowsAll] && c.Kind == at%rowsAll && certFine(p, c)
	}
	return fine
}

// startFine is what RingStart must say.
func startFine(p []impl.Proc, ring int) []impl.Cert {
	var certs []impl.Cert
	for _, proc := range ringFine(p, ring) {
		for kind := range rowsAll {
			certs = append(certs, impl.Cert{Proc: proc, Kind: kind, States: make([]impl.State, len(p[proc].Code)+1)})
		}
	}
	return certs
}

// certSumsFine is what CertSums must say.
func certSumsFine(p []impl.Proc, ring int, certs []impl.Cert) []impl.Sum {
	var sums []impl.Sum
	if !fitFine(p, ring, certs) {
		return sums
	}
	for three := range slices.Chunk(certs, rowsAll) {
		rows := []impl.Row{three[0].Row, three[1].Row, three[2].Row}
		sums = append(sums, impl.Sum{Proc: three[0].Proc, Rows: rows})
	}
	return sums
}

// byFine is the sums by which a round reckons.
func byFine(p []impl.Proc, sums []impl.Sum, ring int, certs []impl.Cert) []impl.Sum {
	var by []impl.Sum
	for proc := range p {
		// Of a procedure that is of both the first one found is that of the certs.
		both := append(certSumsFine(p, ring, certs), sums...)
		if at := slices.IndexFunc(both, func(s impl.Sum) bool { return s.Proc == proc }); at >= 0 {
			by = append(by, both[at])
		}
	}
	return by
}

// among is what of all a list has, in the order of all.
func among[T comparable](all []T, list []T) []T {
	var found []T
	for _, x := range all {
		if slices.Contains(list, x) {
			found = append(found, x)
		}
	}
	return found
}

func entryFine(kind int) impl.State {
	return state([spansAll]impl.Span{kindWords(kind), span(0, 0), span(0, 0), span(0, 0)})
}

// roundFine is what RingRound must say.
func roundFine(p []impl.Proc, sums []impl.Sum, ring int, certs []impl.Cert) []impl.Cert {
	if !sumsFine(p, sums) || !fitFine(p, ring, certs) {
		return nil
	}
	by := byFine(p, sums, ring, certs)
	made := copyOfCerts(certs)
	for at, c := range certs {
		states, out := made[at].States, setOf(c.Row.Out)
		sites, calls := slices.Clone(c.Row.Sites), slices.Clone(c.Row.Calls)
		states[0] = joinFine(states[0], entryFine(c.Kind))
		for place, s := range c.States {
			for _, f := range flowsFine(p, by, c.Proc, place, s) {
				states[f.To] = joinFine(states[f.To], f.State)
			}
			out |= setOf(flowOutFine(p, c.Proc, place, s))
			sites = append(sites, flowSitesFine(p, c.Proc, place, s)...)
			calls = append(calls, flowCallsFine(p, c.Proc, place, s)...)
		}
		made[at].Row = impl.Row{Out: leastSpan(out), Sites: among(sitesOf(p, c.Proc), sites), Calls: among(callsAll(p, c.Proc), calls)}
	}
	return made
}

// leastFine is what RingLeast must say.
func leastFine(p []impl.Proc, sums []impl.Sum, ring int) []impl.Cert {
	return stillFine(p, sums, ring, startFine(p, ring))
}

// stillFine is certs behind rounds till nothing changes.
func stillFine(p []impl.Proc, sums []impl.Sum, ring int, certs []impl.Cert) []impl.Cert {
	for {
		made := roundFine(p, sums, ring, certs)
		if sameCerts(made, certs) || len(made) == 0 {
			return made
		}
		certs = made
	}
}

// hurryFine is what RingWide must say.
func hurryFine(p []impl.Proc, sums []impl.Sum, ring int) []impl.Cert {
	certs := startFine(p, ring)
	for nth := 1; ; nth++ {
		made := roundFine(p, sums, ring, certs)
		for at := range made {
			if nth < 3 {
				break
			}
			was, now := certs[at], &made[at]
			for place := range now.States {
				now.States[place] = wideFine(was.States[place], now.States[place])
			}
			now.Row.Out = farSpan(was.Row.Out, now.Row.Out, now.Row.Out)
		}
		if sameCerts(made, certs) || len(made) == 0 {
			return made
		}
		certs = made
	}
}

// knownFine says whether all that a ring calls is of it, or of sums.
func knownFine(p []impl.Proc, sums []impl.Sum, ring int) bool {
	procs := slices.Clone(ringFine(p, ring))
	known := procs
	for _, s := range sums {
		known = append(known, s.Proc)
	}
	for _, proc := range procs {
		for to := range p {
			if isCalled(p, proc, to) && !slices.Contains(known, to) {
				return false
			}
		}
	}
	return true
}

// checkFine is what RingCheck must say.
func checkFine(p []impl.Proc, sums []impl.Sum, ring int, certs []impl.Cert) bool {
	made := roundFine(p, sums, ring, certs)
	return len(made) > 0 && knownFine(p, sums, ring) && sameCerts(made, certs)
}

// told is a program, a procedure a text, its instructions parted by "; ".
func told(procs ...string) []impl.Proc {
	var all strings.Builder
	for _, lines := range procs {
		all.WriteString("proc\n")
		for line := range strings.SplitSeq(lines, "; ") {
			if line != "" {
				all.WriteString(line + "\n")
			}
		}
	}
	p, ok := impl.ProgRead(all.String())
	if !ok {
		panic(all.String())
	}
	return p
}

// countProg calls itself with one less, down to 0.
func countProg() []impl.Proc {
	return told("set 1 1; less 0 1 4; do 0 1 2; call 0 0 0; back 0")
}

// evenProg has two procedures that call each other with one less, down to 0,
// and one ahead of them that calls the first one.
func evenProg() []impl.Proc {
	return told(
		"ask 0 6; call 1 1 0; hold 1; back 1",
		"same 0 1 4; set 2 1; do 0 2 2; call 1 2 0; back 1",
		"same 0 1 5; set 2 1; do 0 2 2; call 1 1 0; back 1; set 1 3; back 1",
	)
}

// twiceProg has two rings of two; the second one calls into the first, from
// several places, and each of the first has faults at several places.
func twiceProg() []impl.Proc {
	return told(
		"hold 0; call 1 1 0; call 2 3 1; call 1 1 2; hold 1; call 0 2 1; put 0 0; back 2",
		"get 1 0; call 2 0 1; call 0 3 2; same 0 2 6; call 1 0 0; call 1 3 1; back 1",
		"hold 0; do 1 0 4; less 0 1 7; call 1 3 0; put 1 0; get 2 1; call 2 3 2; back 1",
		"hold 0; same 0 1 5; ask 1 2; call 0 2 1; go 1; call 2 2 0; hold 2",
	)
}

// fourProg has four procedures that all call each other, and themselves.
func fourProg() []impl.Proc {
	each := "ask 1 3; same 1 2 7; call 0 0 1; call 1 1 0; call 2 2 1; call 1 3 2; do 0 1 1; back 0"
	return told(each, "set 1 -2; call 0 2 1; call 0 3 0; call 0 0 0; call 1 1 0; back 0", each, each)
}

// ringsMade is programs with rings of all sorts.
func ringsMade() []([]impl.Proc) {
	return []([]impl.Proc){
		told(""), told("", "", "", ""), told("back 0"), told("call 0 0 0"), told("go 0"),
		told("set 1 5; set 2 1; less 0 1 4; go 6; do 0 2 1; go 2; back 0"),
		told("call 0 1 0; back 0", ""), told("back 0; call 0 1 0", "call 1 0 1; back 1"), told("call 0 1 0", "call 0 0 0"),
		told("call 1 1 0; do 0 1 4; call 2 1 0; back 0", "hold 0; put 0 1; get 1 0; back 0"),
		told("ask 0 15; call 1 1 0; set 2 -3; call 2 1 2; back 1", "same 0 2 3; set 1 2; do 0 1 3; back 0"),
		countProg(), evenProg(), twiceProg(), fourProg(), ringsProg(),
	}
}

// livelyProgs is many ok programs in which one comes by most places, the same
// ones each time.
func livelyProgs(many int) []([]impl.Proc) {
	from := rand.New(rand.NewSource(30))
	var all []([]impl.Proc)
	for range many {
		p := make([]impl.Proc, 1+from.Intn(procsMost))
		for k := range p {
			size := 1 + from.Intn(codeMost)
			for at := range size {
				p[k].Code = append(p[k].Code, livelyIns(from, len(p), size, at))
			}
		}
		all = append(all, p)
	}
	return all
}

// livelyIns goes back, or nowhere but to C, seldom, and calls often.
func livelyIns(from *rand.Rand, procs int, size int, at int) impl.Ins {
	if from.Intn(6) == 0 {
		return ins(impl.InsCall, from.Intn(regsAll), from.Intn(procs), from.Intn(regsAll))
	}
	for {
		i := someIns(from, procs, size)
		if stays := i.Kind == 5 || i.Kind == 9; !stays || at == size-1 || from.Intn(6) == 0 {
			return i
		}
	}
}

// ringGiven is a ring, all that it is reckoned with being ok.
type ringGiven struct {
	p    []impl.Proc
	sums []impl.Sum
	ring int
}

func (g ringGiven) start() []impl.Cert { return impl.RingStart(g.p, g.ring) }
func (g ringGiven) least() []impl.Cert { return impl.RingLeast(g.p, g.sums, g.ring) }
func (g ringGiven) wide() []impl.Cert  { return impl.RingWide(g.p, g.sums, g.ring) }
func (g ringGiven) known() bool        { return knownFine(g.p, g.sums, g.ring) }

func (g ringGiven) round(certs []impl.Cert) []impl.Cert {
	return impl.RingRound(g.p, g.sums, g.ring, certs)
}

func (g ringGiven) check(certs []impl.Cert) bool {
	return impl.RingCheck(g.p, g.sums, g.ring, certs)
}

// still is certs behind rounds till nothing changes.
func (g ringGiven) still(certs []impl.Cert) []impl.Cert {
	for {
		made := g.round(certs)
		if sameCerts(made, certs) || len(made) == 0 {
			return made
		}
		certs = made
	}
}

// ringGivens is each ring of many programs, with sums of all sorts: none, some
// and all, of procedures of the ring, too.
func ringGivens(many int) []ringGiven {
	from := rand.New(rand.NewSource(31))
	var all []ringGiven
	for _, p := range append(append(ringsMade(), livelyProgs(many)...), someProgs(many/4)...) {
		for ring := range graphOf(p).ringsOf() {
			all = append(all, ringGiven{p, allSums(from, p), ring}, ringGiven{p, someSums(from, p), ring})
		}
	}
	for _, p := range ringsMade() {
		for ring := range graphOf(p).ringsOf() {
			all = append(all, ringGiven{p, nil, ring}, ringGiven{p, aheadSums(p, ring), ring}, ringGiven{p, fullSums(p), ring})
		}
	}
	return all
}

// aheadSums is what one alone reckons of all rings ahead of one.
func aheadSums(p []impl.Proc, ring int) []impl.Sum {
	var sums []impl.Sum
	for ahead := range ring {
		sums = append(sums, certSumsFine(p, ahead, leastFine(p, sums, ahead))...)
		slices.SortFunc(sums, func(a impl.Sum, b impl.Sum) int { return a.Proc - b.Proc })
	}
	return sums
}

// someCert is an ok cert, whose states are now and then none.
func someCert(from *rand.Rand, p []impl.Proc, proc int, kind int) impl.Cert {
	c := impl.Cert{Proc: proc, Kind: kind, Row: someSum(from, p, proc).Rows[kind]}
	sparse := from.Intn(3) == 0
	for range len(p[proc].Code) + 1 {
		s := someState(from)
		if sparse && from.Intn(3) > 0 {
			s = noState()
		}
		c.States = append(c.States, s)
	}
	return c
}

// someCerts is certs that fit, whatever they say.
func (g ringGiven) someCerts(from *rand.Rand) []impl.Cert {
	var certs []impl.Cert
	for _, proc := range ringFine(g.p, g.ring) {
		for kind := range rowsAll {
			certs = append(certs, someCert(from, g.p, proc, kind))
		}
	}
	return certs
}

// moreCerts is certs that say all that others say, and mostly more.
func moreCerts(from *rand.Rand, p []impl.Proc, certs []impl.Cert) []impl.Cert {
	var more []impl.Cert
	for _, c := range copyOfCerts(certs) {
		for at := range c.States {
			if from.Intn(4) == 0 {
				c.States[at] = moreState(from, c.States[at])
			}
		}
		c.Row = moreRow(from, p, c.Proc, c.Row)
		more = append(more, c)
	}
	return more
}

// moreRow is a row of a procedure that says all that another one says, and mostly more.
func moreRow(from *rand.Rand, p []impl.Proc, proc int, r impl.Row) impl.Row {
	if from.Intn(2) == 0 {
		r.Out = leastSpan(setOf(r.Out) | setOf(someSpan(from)))
	}
	r.Sites = among(sitesOf(p, proc), append(someOf(from, sitesOf(p, proc)), r.Sites...))
	r.Calls = among(callsAll(p, proc), append(someOf(from, callsAll(p, proc)), r.Calls...))
	return r
}

// moreSums is sums that say all that others say of what is called, and mostly
// more, of others, too.
func moreSums(from *rand.Rand, p []impl.Proc, sums []impl.Sum) []impl.Sum {
	var more []impl.Sum
	for proc := range p {
		at := slices.IndexFunc(sums, func(s impl.Sum) bool { return s.Proc == proc })
		if at < 0 {
			more = append(more, someOf(from, []impl.Sum{someSum(from, p, proc)})...)
			continue
		}
		s := copySum(sums[at])
		for kind := range s.Rows {
			s.Rows[kind] = moreRow(from, p, proc, s.Rows[kind])
		}
		more = append(more, s)
	}
	return more
}

// certsGiven is a ring, and certs that fit it.
type certsGiven struct {
	ringGiven
	certs []impl.Cert
}

// certsGivens is many: as they come by rounds, as they are at last, with
// something less, and more, and any others.
func certsGivens(many int) []certsGiven {
	from := rand.New(rand.NewSource(32))
	var all []certsGiven
	for _, g := range ringGivens(many) {
		certs := g.start()
		for range 5 {
			all = append(all, certsGiven{g, certs})
			certs = g.round(certs)
		}
		least := g.least()
		other := g.someCerts(from)
		for _, certs := range [][]impl.Cert{least, moreCerts(from, g.p, least), lessCerts(from, least), g.wide(), other, g.still(other)} {
			all = append(all, certsGiven{g, certs})
		}
	}
	return all
}

// lessCerts is certs that say one thing less, if they say something.
func lessCerts(from *rand.Rand, certs []impl.Cert) []impl.Cert {
	less := copyOfCerts(certs)
	c := &less[from.Intn(len(less))]
	switch from.Intn(4) {
	case 0:
		c.States[from.Intn(len(c.States))] = noState()
	case 1:
		c.Row.Out = none()
	case 2:
		c.Row.Sites = c.Row.Sites[:len(c.Row.Sites)/2]
	case 3:
		c.Row.Calls = c.Row.Calls[:len(c.Row.Calls)/2]
	}
	return less
}

// fullCert says all that a cert may say, in states that differ from place to place.
func fullCert(p []impl.Proc, proc int, kind int) impl.Cert {
	c := impl.Cert{Proc: proc, Kind: kind, Row: fullSum(p, proc).Rows[kind]}
	for at := range len(p[proc].Code) + 1 {
		c.States = append(c.States, state([spansAll]impl.Span{span(-16, at), span(-at, 15), span(kind, 7+at), span(-1, at)}))
	}
	return c
}

// fullCerts is certs that fit a ring, all of which hold by fullSums.
func fullCerts(p []impl.Proc, ring int) []impl.Cert {
	var certs []impl.Cert
	for _, proc := range ringFine(p, ring) {
		for kind := range rowsAll {
			certs = append(certs, fullCert(p, proc, kind))
		}
	}
	return stillFine(p, fullSums(p), ring, certs)
}
