package tests

import (
	"testing"

	"loop.example/gauger/impl"
)

// workersMemory is what memory is asked with: workers that are ok, and not.
func workersMemory() []workerGiven {
	all := append(idleGivens(10), busyGivens(10)...)
	p := ringsProg()
	for _, change := range sumChanges() {
		sums := fullSums(p)
		change.do(&sums[1])
		all = append(all, workerGiven{p, busyWith(len(all)%2 == 0, impl.Job{Ring: 1, Sums: sums})})
	}
	for _, bad := range badProgs() {
		all = append(all, workerGiven{bad, busyWith(false, impl.Job{Sums: fullSums(p)})}, workerGiven{bad, impl.Worker{Up: true}})
	}
	for _, none := range noRings(p) {
		all = append(all, workerGiven{p, busyWith(true, impl.Job{Ring: none, Sums: fullSums(p)})})
	}
	full := impl.Job{Sums: fullSums(p)}
	return append(all, workerGiven{p, impl.Worker{Busy: true, Job: full}}, workerGiven{p, impl.Worker{Up: true, Job: full}})
}

// roomyWorker is the same, with marks behind each list.
func roomyWorker(g workerGiven) workerGiven {
	g.p = withRoom(g.p, markIns())
	g.w.Job.Sums = roomySums(g.w.Job.Sums)
	return g
}

func (g workerGiven) stays(was workerGiven) bool {
	w := g.w
	w.Job = was.w.Job
	return roomyProgStays(g.p, was.p) && roomySumsStay(g.w.Job.Sums, was.w.Job.Sums) && g.w.Job.Ring == was.w.Job.Ring && sameWorker(w, was.w)
}

// spoilWorker writes over all memory of a worker, and of its program.
func spoilWorker(g workerGiven) {
	spoilGiven(flowGiven{p: g.p, sums: g.w.Job.Sums})
}

// doing is all that may happen to a worker, and what it tells then.
func doing() map[string]func(g workerGiven) (impl.Worker, string) {
	return map[string]func(g workerGiven) (impl.Worker, string){
		"WorkerHear of a job":       func(g workerGiven) (impl.Worker, string) { return g.hear("J@@*#"), "" },
		"WorkerHear of a long job":  func(g workerGiven) (impl.Worker, string) { return g.hear(longJob(g.p)), "" },
		"WorkerHear of what is not": func(g workerGiven) (impl.Worker, string) { return g.hear("J@@*"), "" },
		"WorkerWork":                func(g workerGiven) (impl.Worker, string) { return g.work(2) },
		"WorkerWork from nobody":    func(g workerGiven) (impl.Worker, string) { return g.work(0) },
		"WorkerFall":                func(g workerGiven) (impl.Worker, string) { return g.fall(), "" },
		"WorkerRise":                func(g workerGiven) (impl.Worker, string) { return g.rise(), "" },
	}
}

// longJob is the bytes of a job of the last ring, with all that may be known.
func longJob(p []impl.Proc) string {
	if !progFine(p) {
		return ""
	}
	return jobNumbers(impl.Job{Ring: ringsIn(p) - 1, Sums: fullSums(p)}).bytes('J')
}

func TestNothingIsWrittenIntoWhatAWorkerIsAskedWith(t *testing.T) {
	t.Parallel()
	for _, was := range workersMemory() {
		g := roomyWorker(was)
		if g.ok() != was.fine() || !g.stays(was) {
			t.Fatalf("of %v, with room behind lists, %+v is ok %t, and is now %+v", was.p, was.w, g.ok(), g.w)
		}
		for name, do := range doing() {
			got, text := do(g)
			want, told := do(was)
			if !sameWorker(got, want) || text != told {
				t.Fatalf("%s of %v, with room behind lists, makes of %+v %+v, that tells %q, not %+v, that tells %q", name, was.p, was.w, got, text, want, told)
			}
			if !g.stays(was) {
				t.Fatalf("%s: %+v is now %+v", name, was, g)
			}
		}
	}
}

func TestWorkersAreNewMemory(t *testing.T) {
	t.Parallel()
	for name, do := range doing() {
		held := 0
		for _, was := range workersMemory() {
			g := roomyWorker(was)
			got, text := do(g)
			want := copyWorker(got)
			other, _ := do(g)
			spoilWorker(workerGiven{w: other})
			if !g.stays(was) || !sameWorker(got, want) {
				t.Fatalf("%s of %+v shares its memory, or keeps some", name, was)
			}
			again, told := do(g)
			if !sameWorker(again, want) || told != text {
				t.Fatalf("%s of %+v was %+v, and is now %+v", name, was, want, again)
			}
			spoilWorker(g)
			if !sameWorker(got, want) {
				t.Fatalf("%s of %+v was %+v, and is now %+v", name, was, want, got)
			}
			held += len(got.Job.Sums)
		}
		if must := name == "WorkerRise" || name == "WorkerHear of what is not"; must && held < 100 {
			t.Errorf("%s leaves %d sums", name, held)
		}
	}
}

// Of one who is idle no empty list is handed on, as what stands behind it is another's.
func TestWorkersWithEmptyListsAreNewMemory(t *testing.T) {
	p := holdProg()
	for name, do := range doing() {
		for _, w := range append(idleWorkers(), busyWith(false, impl.Job{}), busyWith(true, impl.Job{Ring: 1})) {
			was := workerGiven{p, w}
			g := roomyWorker(was)
			spoilt, _ := do(g)
			spoilWorker(workerGiven{w: spoilt})
			want, told := do(was)
			got, text := do(g)
			if !g.stays(was) || !sameWorker(got, want) || text != told {
				t.Fatalf("%s of %+v shares its memory: %+v", name, was, g)
			}
		}
	}
}

func TestListsOfWorkersShareNothing(t *testing.T) {
	t.Parallel()
	for name, do := range doing() {
		for _, g := range busyGivens(5) {
			if got, _ := do(g); !sumsAreAlone(&got.Job.Sums) {
				t.Fatalf("lists of %s of %+v share memory", name, g)
			}
		}
	}
}

// A worker whose lists are the same one does as one whose lists are not.
func TestWorkersThatShareLists(t *testing.T) {
	for _, p := range wireProgs(30) {
		sums := fullSums(p)
		for at := range sums {
			rows := sums[at].Rows
			rows[0], rows[2] = rows[1], rows[1]
		}
		for ring := range ringsIn(p) {
			for _, hasty := range []bool{false, true} {
				was := workerGiven{p, busyWith(hasty, impl.Job{Ring: ring, Sums: copySums(sums)})}
				g := roomyWorker(was)
				for at := range g.w.Job.Sums {
					rows := g.w.Job.Sums[at].Rows
					rows[0], rows[2] = rows[1], rows[1]
				}
				want, text := was.workFine(3)
				checkWork(t, g, 3, want, text)
				if risen := g.rise(); !sameWorker(risen, was.w) || !sumsAreAlone(&risen.Job.Sums) || !roomySumsStay(g.w.Job.Sums, sums) {
					t.Fatalf("%+v rises: there is %+v", was, risen)
				}
			}
		}
	}
}

// What is none is none, whether its lists are nil, or empty.
func TestWorkersWithEmptyLists(t *testing.T) {
	p := ringsProg()
	for _, w := range idleWorkers() {
		w.Job.Sums = []impl.Sum{}
		g := workerGiven{p, w}
		checkWorker(t, "an empty list", p, w, g.w)
		checkWork(t, g, 1, w, "")
		checkWorker(t, "an empty list, risen", p, g.rise(), g.riseFine())
		checkWorker(t, "an empty list, fallen", p, g.fall(), g.fallFine())
		checkWorker(t, "an empty list, heard", p, g.hear("J@@*#"), g.hearFine("J@@*#"))
	}
	for _, was := range busyGivens(10) {
		g := workerGiven{was.p, copyWorker(was.w)}
		g.w.Job.Sums = append([]impl.Sum{}, g.w.Job.Sums...)
		for at := range g.w.Job.Sums {
			for kind := range g.w.Job.Sums[at].Rows {
				r := &g.w.Job.Sums[at].Rows[kind]
				r.Sites, r.Calls = append([]impl.Site{}, r.Sites...), append([]impl.Call{}, r.Calls...)
			}
		}
		want, text := was.work(1)
		checkWork(t, g, 1, want, text)
		checkWorker(t, "empty lists, risen", g.p, g.rise(), was.w)
	}
}
