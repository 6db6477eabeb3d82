package tests

import (
	"math/rand"
	"slices"
	"testing"

	"loop.example/gauger/impl"
)

// heard is what comes to a worker, and what it has then.
type heard struct {
	name string
	w    impl.Worker
	text string
	want impl.Worker
}

func TestP82WhatIsHeardByHand(t *testing.T) {
	p := holdProg()
	sums := impl.SumsAll(p)
	first, other := impl.Job{}, impl.Job{Ring: 1}
	known, all := impl.Job{Ring: 1, Sums: sums[1:]}, impl.Job{Ring: 1, Sums: sums}
	text := func(j impl.Job) string { return impl.JobText(p, j) }
	reply := impl.ReplyText(p, impl.Reply{Ring: 0, From: 1, Certs: impl.RingLeast(p, nil, 0)})
	for _, hasty := range []bool{false, true} {
		idle, down := impl.Worker{Up: true, Hasty: hasty}, impl.Worker{Hasty: hasty}
		busy := func(j impl.Job) impl.Worker { return busyWith(hasty, j) }
		for _, c := range []heard{
			{"a job", idle, text(first), busy(first)},
			{"a job with sums", idle, text(known), busy(known)},
			{"the bytes of a job, by hand", idle, "JA@+#", busy(other)},
			{"the same job", busy(known), text(known), busy(known)},
			{"a newer job", busy(first), text(other), busy(other)},
			{"an older job", busy(other), text(first), busy(first)},
			{"another ring's, with more sums", busy(first), text(all), busy(all)},
			{"another ring's, with fewer sums", busy(all), text(first), busy(first)},
			{"the same ring's, with more sums", busy(known), text(all), busy(all)},
			{"the same ring's, with fewer sums", busy(all), text(known), busy(known)},
			{"the same ring's, with none", busy(known), text(other), busy(other)},
			{"a reply", idle, reply, idle},
			{"a reply while busy", busy(known), reply, busy(known)},
			{"nothing", idle, "", idle},
			{"nothing while busy", busy(known), "", busy(known)},
			{"a ring that there is none of", busy(known), resealed("JB@"), busy(known)},
			{"a ring below 0", idle, resealed("J?@"), idle},
			{"a byte changed", busy(first), "JA@+$", busy(first)},
			{"a byte less", idle, "JA@+", idle},
			{"a byte more", idle, "JA@+#@", idle},
			{"a job while down", down, text(first), down},
			{"a job with sums while down", down, text(all), down},
			{"a reply while down", down, reply, down},
			{"nothing while down", down, "", down},
		} {
			got := workerGiven{p, c.w}.hear(c.text)
			checkWorker(t, c.name, p, got, c.want)
			checkWorker(t, c.name+", again", p, workerGiven{p, got}.hear(c.text), c.want)
		}
	}
}

func TestP82ANewerJobInsteadOfAnyOther(t *testing.T) {
	t.Parallel()
	from := rand.New(rand.NewSource(69))
	var rings [2]int
	for _, p := range wireProgs(60) {
		var jobs []impl.Job
		for ring := range ringsIn(p) {
			for _, sums := range [][]impl.Sum{nil, aheadSums(p, ring), fullSums(p), someSums(from, p)} {
				jobs = append(jobs, impl.Job{Ring: ring, Sums: sums})
			}
		}
		for k, was := range jobs {
			for n, j := range jobs {
				hasty := (k+n)%2 == 0
				checkWorker(t, "a newer job", p, workerGiven{p, busyWith(hasty, was)}.hear(impl.JobText(p, j)), busyWith(hasty, j))
				rings[truth(was.Ring == j.Ring && !sameSums(was.Sums, j.Sums))]++
			}
		}
	}
	if min(rings[0], rings[1]) < 1000 {
		t.Errorf("another ring, or the same by other sums: %v", rings)
	}
}

func TestP82WhatIsNoJobChangesNothing(t *testing.T) {
	t.Parallel()
	for k, g := range jobGivens(10) {
		if k%9 != 0 {
			continue
		}
		other := impl.Job{Ring: ringsIn(g.p) - 1, Sums: fullSums(g.p)}
		for _, w := range append(idleWorkers(), busyWith(false, other), busyWith(true, g.j)) {
			stays := func(text string) {
				if got := (workerGiven{g.p, w}).hear(text); !sameWorker(got, w) {
					t.Fatalf("of %v %+v hears %q: there is %+v", g.p, w, text, got)
				}
			}
			eachCut(g.text(), stays)
			bytes := []byte(g.text())
			for at := range bytes {
				for _, more := range []byte{1, 2, 63, 64, 128, 255} {
					bytes[at] += more
					stays(string(bytes))
					bytes[at] -= more
				}
			}
			for _, reply := range []impl.Reply{{Ring: g.j.Ring, From: 1, Certs: fullCerts(g.p, g.j.Ring)}, {From: 3, Certs: impl.RingStart(g.p, 0)}} {
				stays(impl.ReplyText(g.p, reply))
			}
		}
	}
}

// What is a job of one program may be none of another.
func TestP82JobsOfAnotherProgram(t *testing.T) {
	t.Parallel()
	var read [2]int
	all := jobGivens(6)
	for k, g := range all {
		for n := range 20 {
			other := all[(k*13+n*37)%len(all)]
			for _, w := range append(idleWorkers(), busyWith(n%2 == 0, g.j)) {
				mine := workerGiven{g.p, w}
				checkWorker(t, "another program's", g.p, mine.hear(other.text()), mine.hearFine(other.text()))
			}
			read[truth(jobFine(g.p, other.j))]++
		}
	}
	if min(read[0], read[1]) < 1000 {
		t.Errorf("no jobs, and jobs: %v", read)
	}
	p, q := holdProg(), told("hold 0")
	text := impl.JobText(p, impl.Job{Ring: 1})
	checkWorker(t, "another program's", q, workerGiven{q, impl.Worker{Up: true}}.hear(text), impl.Worker{Up: true})
	checkWorker(t, "its own", p, workerGiven{p, impl.Worker{Up: true}}.hear(text), busyWith(false, impl.Job{Ring: 1}))
}

func TestP83WhoIsNotBusyTellsNothing(t *testing.T) {
	for _, g := range idleGivens(30) {
		for from := 1; from <= workersMost; from++ {
			checkWork(t, g, from, g.w, "")
		}
	}
}

func TestP83WhoHasWorkedTellsNothing(t *testing.T) {
	t.Parallel()
	for k, g := range busyGivens(20) {
		w, text := g.work(1 + k%workersMost)
		if text == "" {
			t.Fatalf("of %v %+v tells nothing", g.p, g.w)
		}
		checkWorker(t, "worked", g.p, w, impl.Worker{Up: true, Hasty: g.w.Hasty})
		for from := 1; from <= workersMost; from++ {
			checkWork(t, workerGiven{g.p, w}, from, w, "")
		}
		// With the job once more it tells the same.
		again, more := workerGiven{g.p, workerGiven{g.p, w}.hear(impl.JobText(g.p, g.w.Job))}.work(1 + k%workersMost)
		if more != text || !sameWorker(again, w) {
			t.Fatalf("of %v %+v tells %q, and then %q", g.p, g.w, text, more)
		}
	}
}

func TestP84FallsAndRisesByHand(t *testing.T) {
	p := holdProg()
	j := impl.Job{Ring: 1, Sums: impl.SumsAll(p)}
	for _, hasty := range []bool{false, true} {
		idle, down := impl.Worker{Up: true, Hasty: hasty}, impl.Worker{Hasty: hasty}
		for _, c := range []struct {
			name        string
			w           impl.Worker
			fallen, ups impl.Worker
		}{
			{"idle", idle, down, idle},
			{"down", down, down, idle},
			{"busy", busyWith(hasty, j), down, busyWith(hasty, j)},
			{"busy without sums", busyWith(hasty, impl.Job{}), down, busyWith(hasty, impl.Job{})},
		} {
			checkWorker(t, c.name+" falls", p, workerGiven{p, c.w}.fall(), c.fallen)
			checkWorker(t, c.name+" rises", p, workerGiven{p, c.w}.rise(), c.ups)
		}
	}
}

func TestP84FallsAndRises(t *testing.T) {
	t.Parallel()
	for _, g := range append(idleGivens(60), busyGivens(30)...) {
		fallen := workerGiven{g.p, g.fall()}
		checkWorker(t, "fallen", g.p, fallen.w, impl.Worker{Hasty: g.w.Hasty})
		checkWorker(t, "fallen twice", g.p, fallen.fall(), fallen.w)
		risen := workerGiven{g.p, g.rise()}
		checkWorker(t, "risen", g.p, risen.w, impl.Worker{Up: true, Hasty: g.w.Hasty, Busy: g.w.Busy, Job: g.w.Job})
		checkWorker(t, "risen twice", g.p, risen.rise(), risen.w)
		checkWorker(t, "fallen and risen", g.p, fallen.rise(), impl.Worker{Up: true, Hasty: g.w.Hasty})
		checkWorker(t, "risen and fallen", g.p, risen.fall(), fallen.w)
	}
}

// Whatever happens to a worker, one behind the other, is what it is by itself.
func TestP80P82P83P84OneBehindTheOther(t *testing.T) {
	t.Parallel()
	from := rand.New(rand.NewSource(70))
	var worked, took, newer, fell, deaf int
	for _, p := range wireProgs(60) {
		for range 4 {
			g := workerGiven{p, idleWorkers()[from.Intn(4)]}
			for range 30 {
				was := g.w
				switch from.Intn(7) {
				case 0:
					g.w = g.fall()
					checkWorker(t, "fallen", p, g.w, workerGiven{p, was}.fallFine())
					fell += truth(was.Busy)
				case 1, 2:
					g.w = g.rise()
					checkWorker(t, "risen", p, g.w, workerGiven{p, was}.riseFine())
				case 3, 4:
					n := 1 + from.Intn(workersMost)
					want, text := g.workFine(n)
					checkWork(t, g, n, want, text)
					g.w, _ = g.work(n)
					worked += truth(was.Busy)
				default:
					text := textsFor(from, p)
					said := text[from.Intn(min(len(text), 4+from.Intn(8)))]
					g.w = g.hear(said)
					checkWorker(t, "heard", p, g.w, workerGiven{p, was}.hearFine(said))
					took += truth(!was.Busy && g.w.Busy)
					newer += truth(was.Busy && !sameWorker(was, g.w))
					deaf += truth(sameWorker(was, g.w))
				}
			}
		}
	}
	if slices.Min([]int{worked, took, newer, fell, deaf}) < 200 {
		t.Errorf("%d worked, %d took a job, %d a newer one, %d fell with one, %d heard nothing", worked, took, newer, fell, deaf)
	}
}
