package tests

import (
	"math/rand"
	"strconv"
	"testing"

	"loop.example/gauger/impl"
)

func TestWorkersOfAProgramThatIsNotOk(t *testing.T) {
	for _, p := range badProgs() {
		for _, w := range append(idleWorkers(), busyWith(false, impl.Job{}), busyWith(true, impl.Job{}), busyWith(false, impl.Job{Sums: fullSums(holdProg())})) {
			refusesWorker(t, "a program that is not ok", workerGiven{p, w})
		}
	}
}

func TestWorkersThatAreBusyAndNotUp(t *testing.T) {
	for _, g := range busyGivens(10) {
		g.w.Up = false
		refusesWorker(t, "busy and not up", g)
	}
}

func TestWorkersThatAreIdleWithAJob(t *testing.T) {
	for _, g := range jobGivens(10) {
		for _, w := range idleWorkers() {
			w.Job = g.j
			if sameJob(g.j, impl.Job{}) {
				checkWorker(t, "without a job", g.p, w, w)
				continue
			}
			refusesWorker(t, "idle with a job", workerGiven{g.p, w})
		}
	}
	// Nor with a part of one, or with what is no job.
	p := ringsProg()
	for _, w := range idleWorkers() {
		for _, none := range append(noRings(p), 1, 2) {
			w.Job = impl.Job{Ring: none}
			refusesWorker(t, "idle with ring "+strconv.Itoa(none), workerGiven{p, w})
		}
		for _, sums := range [][]impl.Sum{make([]impl.Sum, 1), {{Rows: make([]impl.Row, rowsAll)}}, fullSums(p)[3:]} {
			w.Job = impl.Job{Sums: sums}
			refusesWorker(t, "idle with sums", workerGiven{p, w})
		}
	}
}

func TestWorkersThatAreBusyWithNoSuchRing(t *testing.T) {
	for _, p := range wireProgs(20) {
		for _, none := range append(noRings(p), 256, -256, 1<<32, ringsIn(p)-1+512) {
			for _, hasty := range []bool{false, true} {
				refusesWorker(t, "ring "+strconv.Itoa(none), workerGiven{p, busyWith(hasty, impl.Job{Ring: none})})
				refusesWorker(t, "ring "+strconv.Itoa(none), workerGiven{p, busyWith(hasty, impl.Job{Ring: none, Sums: fullSums(p)})})
			}
		}
	}
}

func TestWorkersThatAreBusyBySumsThatAreNotOk(t *testing.T) {
	p := ringsProg()
	for _, change := range sumChanges() {
		sums := fullSums(p)
		change.do(&sums[1])
		refusesWorker(t, change.name, workerGiven{p, busyWith(false, impl.Job{Ring: 1, Sums: sums})})
		refusesWorker(t, change.name+", alone", workerGiven{p, busyWith(true, impl.Job{Sums: sums[1:2]})})
	}
	full := fullSums(p)
	for name, sums := range map[string][]impl.Sum{
		"one twice": {full[0], full[0]}, "the last one twice": {full[0], full[3], full[3]},
		"turned round": {full[1], full[0]}, "two out of order": {full[0], full[2], full[1], full[3]},
	} {
		refusesWorker(t, name, workerGiven{p, busyWith(false, impl.Job{Ring: 1, Sums: sums})})
	}
}

// A job of one program may be none of another.
func TestWorkersThatAreBusyInAnotherProgram(t *testing.T) {
	p, q := holdProg(), told("hold 0")
	for _, j := range []impl.Job{{Ring: 1}, {Sums: impl.SumsAll(p)}, {Ring: 1, Sums: impl.SumsAll(p)}} {
		checkWorker(t, "its own", p, busyWith(false, j), busyWith(false, j))
		refusesWorker(t, "another program's", workerGiven{q, busyWith(false, j)})
	}
}

func TestWorkFromNoWorker(t *testing.T) {
	for _, g := range append(idleGivens(10), busyGivens(5)...) {
		for _, from := range noWorkers() {
			checkWork(t, g, from, impl.Worker{}, "")
		}
	}
}

// What is changed somewhere is ok, or not, as the job is.
func TestWorkersThatAreChanged(t *testing.T) {
	t.Parallel()
	from := rand.New(rand.NewSource(71))
	var all [2]int
	for _, g := range busyGivens(20) {
		g.w = copyWorker(g.w)
		if sums := g.w.Job.Sums; len(sums) > 0 {
			at := from.Intn(len(sums))
			sums[at] = changedSum(from, sums[at])
		}
		switch from.Intn(6) {
		case 0:
			g.w.Up = false
		case 1:
			g.w.Busy = false
		case 2:
			g.w.Job.Ring += from.Intn(5) - 2
		}
		fine := g.fine()
		if all[truth(fine)]++; !fine {
			refusesWorker(t, "changed", g)
			continue
		}
		want, text := g.workFine(2)
		checkWork(t, g, 2, want, text)
		checkWorker(t, "changed, fallen", g.p, g.fall(), g.fallFine())
		checkWorker(t, "changed, risen", g.p, g.rise(), g.riseFine())
		checkWorker(t, "changed, heard", g.p, g.hear("J@@*#"), g.hearFine("J@@*#"))
	}
	if min(all[0], all[1]) < 400 {
		t.Errorf("not ok, and ok: %v", all)
	}
}
