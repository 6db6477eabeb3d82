package tests

import (
	"math/rand"
	"slices"
	"testing"

	"loop.example/gauger/impl"
)

func TestOkOfWorkers(t *testing.T) {
	t.Parallel()
	for _, g := range append(idleGivens(60), busyGivens(30)...) {
		if !g.ok() || !g.fine() {
			t.Fatalf("of %v %+v is not ok", g.p, g.w)
		}
	}
}

func TestP80WorkByHand(t *testing.T) {
	p := holdProg()
	// Certs of procedure 1, and of procedure 0, that calls it, without and with what is known of it.
	certs := "C" +
		"A@C" + "A0?@@@@@@" + "A0?@@@@@@" + "@" + "0?@@" +
		"AAC" + "A@@@@@@@@" + "@" + "@" + "A@A@C@" +
		"ABC" + "AAO@@@@@@" + "AAO@@@@@@" + "@" + "AO@@"
	unknown := "C" +
		"@@C" + "A0?@@@@@@" + "@" + "@" + "A@@" + "AA@" +
		"@AC" + "A@@@@@@@@" + "@" + "@" + "A@@" + "AAA" +
		"@BC" + "AAO@@@@@@" + "@" + "@" + "A@@" + "AAB"
	known := "C" +
		"@@C" + "A0?@@@@@@" + "A0?0?@@@@" + "@" + "0?@" + "AA@" +
		"@AC" + "A@@@@@@@@" + "@" + "@" + "A@@" + "AAA" +
		"@BC" + "AAO@@@@@@" + "AAOAO@@@@" + "@" + "AO@" + "AAB"
	for _, hasty := range []bool{false, true} {
		for from, mark := range map[int]string{1: "A", 2: "B", 3: "C"} {
			idle := impl.Worker{Up: true, Hasty: hasty}
			checkWork(t, workerGiven{p, busyWith(hasty, impl.Job{})}, from, idle, resealed("R@"+mark+certs))
			checkWork(t, workerGiven{p, busyWith(hasty, impl.Job{Ring: 1})}, from, idle, resealed("RA"+mark+unknown))
			checkWork(t, workerGiven{p, busyWith(hasty, impl.Job{Ring: 1, Sums: impl.SumsAll(p)[1:]})}, from, idle, resealed("RA"+mark+known))
		}
	}
}

// In a hurry one comes to more, if what is reckoned grows, round by round.
func TestP80WorkOfGivenRingsByHand(t *testing.T) {
	differ := 0
	for _, c := range outCases() {
		for _, hasty := range []bool{false, true} {
			want := map[bool][]impl.Span{false: c.least, true: c.wide}[hasty]
			_, text := workerGiven{c.p, busyWith(hasty, impl.Job{Ring: c.ring})}.work(2)
			r, ok := impl.ReplyRead(c.p, text)
			if !ok || r.Ring != c.ring || r.From != 2 {
				t.Fatalf("of %v, hasty %t, %q is told", c.p, hasty, text)
			}
			checkOuts(t, "WorkerWork", c.p, r.Certs, want)
		}
		differ += truth(!slices.Equal(c.least, c.wide))
	}
	if differ < 3 {
		t.Errorf("%d rings are reckoned otherwise in a hurry", differ)
	}
}

func TestP80WhatABusyWorkerTells(t *testing.T) {
	t.Parallel()
	var plain, hasty, differ int
	for k, g := range busyGivens(40) {
		from := 1 + k/2%workersMost
		w, text := g.workFine(from)
		checkWork(t, g, from, w, text)
		plain, hasty = plain+truth(!g.w.Hasty), hasty+truth(g.w.Hasty)
		differ += truth(g.w.Hasty && !sameCerts(g.certsFine(), leastFine(g.p, g.w.Job.Sums, g.w.Job.Ring)))
	}
	if min(plain, hasty) < 1500 || differ < 50 {
		t.Errorf("%d work, %d in a hurry, %d of these come to something else", plain, hasty, differ)
	}
}

func TestP80WhatIsToldIsReadAgain(t *testing.T) {
	t.Parallel()
	asked := 0
	for _, g := range busyGivens(40) {
		j := g.w.Job
		want := impl.RingLeast(g.p, j.Sums, j.Ring)
		if g.w.Hasty {
			want = impl.RingWide(g.p, j.Sums, j.Ring)
		}
		for from := 1; from <= workersMost; from++ {
			w, text := g.work(from)
			r, ok := impl.ReplyRead(g.p, text)
			if !ok || r.Ring != j.Ring || r.From != from || !sameCerts(r.Certs, want) {
				t.Fatalf("of %v %+v tells, from %d, %q, that is read as %+v, %t", g.p, g.w, from, text, r, ok)
			}
			checkWorker(t, "worked", g.p, w, impl.Worker{Up: true, Hasty: g.w.Hasty})
			asked++
		}
	}
	if asked < 9000 {
		t.Errorf("only %d replies", asked)
	}
}

// A ring that calls itself is reckoned by its own certs, whatever the job's sums say of it.
func TestP80WorkOfARingThatTheSumsSpeakOf(t *testing.T) {
	from := rand.New(rand.NewSource(67))
	for _, p := range []([]impl.Proc){countProg(), evenProg(), twiceProg(), fourProg(), ringsProg(), told("call 0 0 0")} {
		for ring := range ringsIn(p) {
			for range 20 {
				j := impl.Job{Ring: ring, Sums: allSums(from, p)}
				others := slices.DeleteFunc(copySums(j.Sums), func(s impl.Sum) bool { return slices.Contains(ringFine(p, ring), s.Proc) })
				for _, hasty := range []bool{false, true} {
					g := workerGiven{p, busyWith(hasty, j)}
					w, text := g.workFine(1)
					checkWork(t, g, 1, w, text)
					g.w.Job.Sums = others
					checkWork(t, g, 1, w, text)
				}
			}
		}
	}
}

func TestP81WhatIsToldHolds(t *testing.T) {
	t.Parallel()
	from := rand.New(rand.NewSource(68))
	var all, differ int
	for _, p := range wireProgs(100) {
		for ring := range ringsIn(p) {
			for _, sums := range [][]impl.Sum{impl.SumsAll(p), hastySums(p), fullSums(p), allSums(from, p), allSums(from, p)} {
				var texts [2]string
				for hurry, hasty := range []bool{false, true} {
					_, texts[hurry] = workerGiven{p, busyWith(hasty, impl.Job{Ring: ring, Sums: sums})}.work(1)
					r, ok := impl.ReplyRead(p, texts[hurry])
					if !ok || !impl.RingCheck(p, sums, ring, r.Certs) || !checkFine(p, sums, ring, r.Certs) {
						t.Fatalf("of %v, ring %d, by %+v, hasty %t, %+v do not hold", p, ring, sums, hasty, r.Certs)
					}
					all++
				}
				differ += truth(texts[0] != texts[1])
			}
		}
	}
	if all < 4000 || differ < 100 {
		t.Errorf("%d replies, %d rings are reckoned otherwise in a hurry", all, differ)
	}
}

// By fewer sums it holds just if all that the ring calls is among them.
func TestP81WhatIsToldByFewerSums(t *testing.T) {
	t.Parallel()
	var held [2]int
	for _, g := range busyGivens(30) {
		_, text := g.work(3)
		r, ok := impl.ReplyRead(g.p, text)
		known := knownFine(g.p, g.w.Job.Sums, g.w.Job.Ring)
		if !ok || impl.RingCheck(g.p, g.w.Job.Sums, g.w.Job.Ring, r.Certs) != known {
			t.Fatalf("of %v %+v, all known %t, tells %+v", g.p, g.w, known, r)
		}
		held[truth(known)]++
	}
	if min(held[0], held[1]) < 150 {
		t.Errorf("do not hold, and hold: %v", held)
	}
}

// Workers, one ring behind the other, come to what one alone does, or to more
// in a hurry.
func TestP81AllRingsByWorkers(t *testing.T) {
	t.Parallel()
	for _, p := range wireProgs(60) {
		for some := range 1 << ringsIn(p) {
			var sums []impl.Sum
			for ring := range ringsIn(p) {
				w := impl.WorkerHear(p, impl.Worker{Up: true, Hasty: some&(1<<ring) != 0}, impl.JobText(p, impl.Job{Ring: ring, Sums: sums}))
				_, text := impl.WorkerWork(p, w, 1+ring%workersMost)
				r, ok := impl.ReplyRead(p, text)
				if !ok || !impl.RingCheck(p, sums, ring, r.Certs) {
					t.Fatalf("of %v, ring %d, by %+v, %q is told", p, ring, sums, text)
				}
				sums = append(sums, impl.CertSums(p, ring, r.Certs)...)
				slices.SortFunc(sums, func(a impl.Sum, b impl.Sum) int { return a.Proc - b.Proc })
			}
			if want := mixedSums(p, some); !sameSums(sums, want) {
				t.Fatalf("of %v, in a hurry %b, there are %+v, not %+v", p, some, sums, want)
			}
		}
	}
}
