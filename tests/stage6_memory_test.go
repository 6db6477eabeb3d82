package tests

import (
	"math/rand"
	"slices"
	"testing"

	"loop.example/gauger/impl"
)

func markState() impl.State { return impl.State{Cells: markSpan()} }
func markCert() impl.Cert   { return impl.Cert{Proc: someMark} }

// roomyCerts has marks behind each of its lists.
func roomyCerts(certs []impl.Cert) []impl.Cert {
	all := roomy(certs, markCert())
	for at := range all {
		c := &all[at]
		c.States = roomy(c.States, markState())
		for place := range c.States {
			c.States[place] = roomyState(c.States[place])
		}
		c.Row.Sites, c.Row.Calls = roomy(c.Row.Sites, markSite()), roomy(c.Row.Calls, markCall())
	}
	return all
}

// roomyCertsStay says whether certs with spare room are as they were, and their room, too.
func roomyCertsStay(certs []impl.Cert, was []impl.Cert) bool {
	stay := sameCerts(certs, was) && roomStays(certs, func(c impl.Cert) bool { return sameCert(c, markCert()) })
	for at, c := range certs {
		stay = stay && roomStays(c.States, func(s impl.State) bool { return sameState(s, markState()) })
		for place := range c.States {
			stay = stay && roomyStateStays(c.States[place], was[at].States[place])
		}
		stay = stay && roomStays(c.Row.Sites, func(s impl.Site) bool { return s == markSite() })
		stay = stay && roomStays(c.Row.Calls, func(c impl.Call) bool { return c == markCall() })
	}
	return stay
}

// roomyAsked is the same, with marks behind each list.
func roomyAsked(g certsGiven) certsGiven {
	return certsGiven{ringGiven{withRoom(g.p, markIns()), roomySums(g.sums), g.ring}, roomyCerts(g.certs)}
}

func (g certsGiven) stays(was certsGiven) bool {
	return roomyProgStays(g.p, was.p) && roomySumsStay(g.sums, was.sums) && roomyCertsStay(g.certs, was.certs)
}

// certsMemory is what memory is asked with: ok, and not.
func certsMemory() []certsGiven {
	all := certsGivens(40)
	p := ringsProg()
	g := certsGiven{ringGiven{p, fullSums(p), 2}, fullCerts(p, 2)}
	for _, change := range certChanges() {
		broken := g
		broken.certs = copyOfCerts(g.certs)
		change.do(&broken.certs[1])
		all = append(all, broken)
	}
	for _, change := range sumChanges() {
		broken := g
		broken.sums = fullSums(p)
		change.do(&broken.sums[0])
		all = append(all, broken)
	}
	for _, bad := range badProgs() {
		all = append(all, certsGiven{ringGiven{bad, fullSums(p), 0}, g.certs})
	}
	for _, none := range noRings(p) {
		all = append(all, certsGiven{ringGiven{p, g.sums, none}, g.certs})
	}
	// None with an empty list that has room behind it.
	for at := range g.certs {
		empty := g
		empty.certs = copyOfCerts(g.certs)
		for place := range empty.certs[at].States {
			empty.certs[at].States[place] = impl.State{Regs: make([]impl.Span, 0, 5)}
		}
		empty.certs[at].Row = impl.Row{Sites: make([]impl.Site, 0, 5), Calls: make([]impl.Call, 0, 5)}
		all = append(all, empty)
	}
	return all
}

func TestNothingIsWrittenIntoWhatARingIsAskedWith(t *testing.T) {
	t.Parallel()
	for _, was := range certsMemory() {
		g := roomyAsked(was)
		for _, c := range g.certs {
			impl.CertOk(g.p, c)
		}
		impl.CertSums(g.p, g.ring, g.certs)
		g.start()
		g.least()
		g.wide()
		g.round(g.certs)
		g.check(g.certs)
		if !g.stays(was) {
			t.Fatalf("%+v is now %+v", was, g)
		}
	}
}

// spoilCerts writes over all memory of certs, spare room included.
func spoilCerts(certs []impl.Cert) {
	for _, c := range certs {
		for _, s := range c.States {
			spoilState(s)
		}
		spoilList(c.States, markState())
		spoilList(c.Row.Sites, markSite())
		spoilList(c.Row.Calls, markCall())
	}
	spoilList(certs, markCert())
}

// spoilSums writes over all memory of sums, spare room included.
func spoilSums(sums []impl.Sum) {
	for _, s := range sums {
		for _, r := range s.Rows {
			spoilList(r.Sites, markSite())
			spoilList(r.Calls, markCall())
		}
		spoilList(s.Rows, markRow())
	}
	spoilList(sums, markSum())
}

func spoilAsked(g certsGiven) {
	spoilCerts(g.certs)
	spoilGiven(flowGiven{p: g.p, sums: g.sums})
}

// makers is all that makes certs.
func makers() map[string]func(g certsGiven) []impl.Cert {
	return map[string]func(g certsGiven) []impl.Cert{
		"RingStart": func(g certsGiven) []impl.Cert { return g.start() },
		"RingRound": func(g certsGiven) []impl.Cert { return g.round(g.certs) },
		"RingLeast": func(g certsGiven) []impl.Cert { return g.least() },
		"RingWide":  func(g certsGiven) []impl.Cert { return g.wide() },
	}
}

func TestCertsThatAreMadeAreNewMemory(t *testing.T) {
	t.Parallel()
	for name, made := range makers() {
		for _, was := range certsMemory() {
			g := roomyAsked(was)
			got := made(g)
			want := copyOfCerts(got)
			spoilCerts(made(g))
			if !g.stays(was) || !sameCerts(got, want) {
				t.Fatalf("%s of %+v shares its memory, or keeps some", name, was)
			}
			if again := made(g); !sameCerts(again, want) {
				t.Fatalf("%s of %+v was %+v, and is now %+v", name, was, want, again)
			}
			spoilAsked(g)
			if !sameCerts(got, want) {
				t.Fatalf("%s of %+v was %+v, and is now %+v", name, was, want, got)
			}
		}
	}
}

func TestSumsThatAreMadeAreNewMemory(t *testing.T) {
	t.Parallel()
	for _, was := range certsMemory() {
		g := roomyAsked(was)
		got := impl.CertSums(g.p, g.ring, g.certs)
		want := copySums(got)
		spoilSums(impl.CertSums(g.p, g.ring, g.certs))
		if !g.stays(was) || !sameSums(got, want) {
			t.Fatalf("CertSums of %+v shares its memory, or keeps some", was)
		}
		spoilAsked(g)
		if !sameSums(got, want) {
			t.Fatalf("CertSums of %+v was %+v, and is now %+v", was, want, got)
		}
	}
}

// staysBut says whether something stays while one list of it is written over,
// spare room included, and other memory stands in for it.
func staysBut[T any](list *[]T, mark T, stays func() bool) bool {
	given := *list
	was := slices.Clone(given[:cap(given)])
	spoilList(given, mark)
	*list = was[:len(given)]
	stay := stays()
	copy(given[:cap(given)], was)
	*list = given
	return stay
}

func TestListsOfCertsShareNothing(t *testing.T) {
	t.Parallel()
	for name, made := range makers() {
		for _, g := range certsGivens(8) {
			got := made(g)
			want := copyOfCerts(got)
			stay := func() bool { return sameCerts(got, want) }
			alone := staysBut(&got, markCert(), stay)
			for at := range got {
				c := &got[at]
				alone = alone && staysBut(&c.States, markState(), stay)
				alone = alone && staysBut(&c.Row.Sites, markSite(), stay) && staysBut(&c.Row.Calls, markCall(), stay)
				for place := range c.States {
					alone = alone && staysBut(&c.States[place].Regs, markSpan(), stay)
				}
			}
			if !alone {
				t.Fatalf("lists of %s of %+v share memory", name, g)
			}
		}
	}
}

func TestListsOfSumsShareNothing(t *testing.T) {
	for _, g := range certsGivens(8) {
		got := impl.CertSums(g.p, g.ring, g.certs)
		want := copySums(got)
		stay := func() bool { return sameSums(got, want) }
		alone := staysBut(&got, markSum(), stay)
		for at := range got {
			alone = alone && staysBut(&got[at].Rows, markRow(), stay)
			for kind := range got[at].Rows {
				r := &got[at].Rows[kind]
				alone = alone && staysBut(&r.Sites, markSite(), stay) && staysBut(&r.Calls, markCall(), stay)
			}
		}
		if !alone {
			t.Fatalf("lists of CertSums of %+v share memory", g)
		}
	}
}

// Certs, and sums, that share their lists are reckoned as those that do not.
func TestCertsThatShareLists(t *testing.T) {
	from := rand.New(rand.NewSource(41))
	for _, p := range append(ringsMade(), livelyProgs(60)...) {
		sums := allSums(from, p)
		for ring := range graphOf(p).ringsOf() {
			g := ringGiven{p, sums, ring}
			certs := g.someCerts(from)
			for at := range certs {
				// All kinds of a procedure have the same lists, and those of its sum.
				first := certs[at/3*3]
				certs[at].States, certs[at].Row = first.States, sums[first.Proc].Rows[0]
			}
			shared := roomyCerts(certs)
			for at := range shared {
				shared[at].States, shared[at].Row = shared[at/3*3].States, shared[at/3*3].Row
			}
			want := roundFine(p, sums, ring, copyOfCerts(certs))
			if got := g.round(shared); !sameCerts(got, want) || !roomyCertsStay(shared, certs) {
				t.Fatalf("of %v, ring %d, a round makes of %+v\n%+v, not\n%+v", p, ring, certs, got, want)
			}
			if got := g.check(shared); got != checkFine(p, sums, ring, certs) {
				t.Fatalf("of %v, ring %d, RingCheck of %+v is %t", p, ring, certs, got)
			}
		}
	}
}

// What is none is none, whether its lists are nil, or empty.
func TestEmptyListsAreNil(t *testing.T) {
	for _, g := range ringGivens(40) {
		for _, certs := range [][]impl.Cert{g.start(), g.least(), g.wide()} {
			empty := copyOfCerts(certs)
			for at := range empty {
				for place, s := range empty[at].States {
					if !s.Any {
						empty[at].States[place].Regs = []impl.Span{}
					}
				}
				r := &empty[at].Row
				r.Sites, r.Calls = append([]impl.Site{}, r.Sites...), append([]impl.Call{}, r.Calls...)
			}
			if g.check(empty) != g.check(certs) || !sameCerts(g.round(empty), g.round(certs)) {
				t.Fatalf("of %v, ring %d, %+v hold %t, with empty lists %t", g.p, g.ring, certs, g.check(certs), g.check(empty))
			}
		}
	}
}
