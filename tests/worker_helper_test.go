package tests

import (
	"math"
	"math/rand"
	"testing"

	"loop.example/gauger/impl"
)

// workerGiven is a program, and a worker of it.
type workerGiven struct {
	p []impl.Proc
	w impl.Worker
}

func (g workerGiven) ok() bool                            { return impl.WorkerOk(g.p, g.w) }
func (g workerGiven) hear(text string) impl.Worker        { return impl.WorkerHear(g.p, g.w, text) }
func (g workerGiven) work(from int) (impl.Worker, string) { return impl.WorkerWork(g.p, g.w, from) }
func (g workerGiven) fall() impl.Worker                   { return impl.WorkerFall(g.p, g.w) }
func (g workerGiven) rise() impl.Worker                   { return impl.WorkerRise(g.p, g.w) }

// sameWorker holds workers against each other; an empty list is the same as nil.
func sameWorker(a impl.Worker, b impl.Worker) bool {
	return a.Up == b.Up && a.Hasty == b.Hasty && a.Busy == b.Busy && sameJob(a.Job, b.Job)
}

// copyWorker shares no memory with a worker.
func copyWorker(w impl.Worker) impl.Worker {
	w.Job.Sums = copySums(w.Job.Sums)
	return w
}

// busyWith is a worker that has a job.
func busyWith(hasty bool, j impl.Job) impl.Worker {
	return impl.Worker{Up: true, Hasty: hasty, Busy: true, Job: j}
}

// idleWorkers is all workers without a job.
func idleWorkers() []impl.Worker {
	return []impl.Worker{{}, {Hasty: true}, {Up: true}, {Up: true, Hasty: true}}
}

// fine is what WorkerOk must say.
func (g workerGiven) fine() bool {
	if g.w.Busy {
		return g.w.Up && jobFine(g.p, g.w.Job)
	}
	return progFine(g.p) && sameJob(g.w.Job, impl.Job{})
}

// hearFine is what WorkerHear must say.
func (g workerGiven) hearFine(text string) impl.Worker {
	if !g.fine() {
		return impl.Worker{}
	}
	if j, read := jobOfBytes(g.p, text); read && g.w.Up {
		return busyWith(g.w.Hasty, j)
	}
	return g.w
}

// workFine is what WorkerWork must say.
func (g workerGiven) workFine(from int) (impl.Worker, string) {
	if !g.fine() || !inRange(from, 1, workersMost) {
		return impl.Worker{}, ""
	}
	if !g.w.Busy {
		return g.w, ""
	}
	r := impl.Reply{Ring: g.w.Job.Ring, From: from, Certs: g.certsFine()}
	return impl.Worker{Up: true, Hasty: g.w.Hasty}, replyNumbers(r).bytes('R')
}

// certsFine is what a busy worker must come to.
func (g workerGiven) certsFine() []impl.Cert {
	if g.w.Hasty {
		return hurryFine(g.p, g.w.Job.Sums, g.w.Job.Ring)
	}
	return leastFine(g.p, g.w.Job.Sums, g.w.Job.Ring)
}

// fallFine is what WorkerFall must say.
func (g workerGiven) fallFine() impl.Worker {
	return impl.Worker{Hasty: g.w.Hasty && g.fine()}
}

// riseFine is what WorkerRise must say.
func (g workerGiven) riseFine() impl.Worker {
	if !g.fine() {
		return impl.Worker{}
	}
	w := g.w
	w.Up = true
	return w
}

// busyGivens is workers with each job of many, hasty and not.
func busyGivens(many int) []workerGiven {
	var all []workerGiven
	for _, g := range jobGivens(many) {
		all = append(all, workerGiven{g.p, busyWith(false, g.j)}, workerGiven{g.p, busyWith(true, g.j)})
	}
	return all
}

// idleGivens is workers of many programs that have no job.
func idleGivens(many int) []workerGiven {
	var all []workerGiven
	for _, p := range wireProgs(many) {
		for _, w := range idleWorkers() {
			all = append(all, workerGiven{p, w})
		}
	}
	return all
}

// noWorkers is where no worker can work from.
func noWorkers() []int {
	return []int{math.MinInt, math.MinInt + 2, -256, -255, -3, -2, -1, 0, 4, 5, 64, 255, 256, 257, 258, 1<<32 + 1, math.MaxInt - 1, math.MaxInt}
}

// textsFor is what may be brought to a worker: jobs of its program, with and
// without what is known, what is none, and replies.
func textsFor(from *rand.Rand, p []impl.Proc) []string {
	ring := from.Intn(ringsIn(p))
	job := impl.JobText(p, impl.Job{Ring: ring, Sums: someSums(from, p)})
	reply := impl.ReplyText(p, impl.Reply{Ring: ring, From: 1 + from.Intn(workersMost), Certs: impl.RingLeast(p, nil, ring)})
	at := from.Intn(len(job))
	spoilt := []byte(job)
	spoilt[at] += byte(1 + from.Intn(255))
	return []string{
		job, impl.JobText(p, impl.Job{Ring: ringsIn(p) - 1, Sums: allSums(from, p)}), impl.JobText(p, impl.Job{}),
		reply, string(spoilt), job[:at], job + job[at:at+1], "", resealed(""), resealed("J@"), resealed("J" + string(rune(64+ringsIn(p))) + "@"),
	}
}

// checkWorker holds a worker against what must be, and asks whether it is ok.
func checkWorker(t *testing.T, name string, p []impl.Proc, got impl.Worker, want impl.Worker) {
	t.Helper()
	if !sameWorker(got, want) {
		t.Fatalf("%s: of %v there is %+v, not %+v", name, p, got, want)
	}
	if !impl.WorkerOk(p, got) {
		t.Fatalf("%s: of %v %+v is not ok", name, p, got)
	}
}

// checkWork asks for what a worker tells, and what becomes of it.
func checkWork(t *testing.T, g workerGiven, from int, want impl.Worker, told string) {
	t.Helper()
	w, text := g.work(from)
	if !sameWorker(w, want) || text != told {
		t.Fatalf("of %v %+v works, from %d: there is %+v, that tells\n%q, not %+v, that tells\n%q", g.p, g.w, from, w, text, want, told)
	}
}

// refusesWorker asks for the answers at a worker that is not ok.
func refusesWorker(t *testing.T, name string, g workerGiven) {
	t.Helper()
	if g.ok() || g.fine() {
		t.Fatalf("%s: of %v %+v is ok", name, g.p, g.w)
	}
	nothing := impl.Worker{}
	for _, text := range []string{"", "J@@*#", impl.JobText(g.p, g.w.Job), jobNumbers(g.w.Job).bytes('J'), "R@AC@@A@A@@@@AA@A@@@@BA@A@@@?<"} {
		if w := g.hear(text); !sameWorker(w, nothing) {
			t.Fatalf("%s: of %v %+v hears %q: there is %+v", name, g.p, g.w, text, w)
		}
	}
	for from := -1; from <= workersMost+2; from++ {
		checkWork(t, g, from, nothing, "")
	}
	if w := g.fall(); !sameWorker(w, nothing) {
		t.Fatalf("%s: of %v %+v falls: there is %+v", name, g.p, g.w, w)
	}
	if w := g.rise(); !sameWorker(w, nothing) {
		t.Fatalf("%s: of %v %+v rises: there is %+v", name, g.p, g.w, w)
	}
}
