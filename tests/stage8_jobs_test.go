package tests

import (
	"math/rand"
	"strings"
	"testing"

	"loop.example/gauger/impl"
)

// holdProg calls what must not be 0.
func holdProg() []impl.Proc {
	return told("call 1 1 0; back 1", "hold 0; back 0")
}

// checkJob asks for a job's bytes, and for the job of these.
func checkJob(t *testing.T, g jobGiven, want string) {
	t.Helper()
	if !impl.JobOk(g.p, g.j) {
		t.Fatalf("of %v %+v is not ok", g.p, g.j)
	}
	if got := g.text(); got != want {
		t.Fatalf("of %v the bytes of %+v are\n%q, not\n%q", g.p, g.j, got, want)
	}
	if j, ok := impl.JobRead(g.p, want); !ok || !sameJob(j, g.j) {
		t.Fatalf("of %v %q is read as %+v, %t, not %+v", g.p, want, j, ok, g.j)
	}
	noReply(t, "a job", g.p, want)
}

// noJob asks of bytes of which there is no job.
func noJob(t *testing.T, name string, p []impl.Proc, text string) {
	t.Helper()
	if j, ok := impl.JobRead(p, text); ok || !sameJob(j, impl.Job{}) {
		t.Fatalf("%s: of %v %q is read as %+v, %t", name, p, text, j, ok)
	}
}

// refusesJob asks for the answers at a job that is not ok.
func refusesJob(t *testing.T, name string, g jobGiven) {
	t.Helper()
	if impl.JobOk(g.p, g.j) || jobFine(g.p, g.j) {
		t.Fatalf("%s: of %v %+v is ok", name, g.p, g.j)
	}
	if text := g.text(); text != "" {
		t.Fatalf("%s: of %v the bytes of %+v are %q", name, g.p, g.j, text)
	}
}

func TestP71JobsByHand(t *testing.T) {
	p := holdProg()
	sums := impl.SumsAll(p)
	for _, c := range []struct {
		p    []impl.Proc
		j    impl.Job
		want string
	}{
		{told(""), impl.Job{}, "J@@*#"},
		{p, impl.Job{}, "J@@*#"},
		{p, impl.Job{Ring: 1}, "JA@+#"},
		{p, impl.Job{Ring: 1, Sums: sums[1:]}, "JAAA0?@@A@A@C@AO@@12"},
		{p, impl.Job{Ring: 0, Sums: sums[1:]}, "J@AA0?@@A@A@C@AO@@02"},
	} {
		checkJob(t, jobGiven{c.p, c.j}, c.want)
	}
}

func TestP71JobsWithTheGreatestNumbersByHand(t *testing.T) {
	p := longProgs()[2]
	row := impl.Row{Out: span(-16, 15), Sites: sitesAt(site(2, 7, 2)), Calls: append(calling(0, 0), calling(3, 2)...)}
	j := impl.Job{Ring: 1, Sums: []impl.Sum{{Proc: 2, Rows: []impl.Row{row, {}, {Out: span(15, 15)}}}}}
	checkJob(t, jobGiven{p, j}, resealed("JAAB"+"0OAGBB@@CB"+"A@@@"+"OO@@"))
	p = longProgs()[3]
	row = impl.Row{Out: span(-16, -16), Sites: sitesAt(site(1, 0, 3), site(1, 3, 1), site(1, 4, 2), site(1, 7, 3))}
	j = impl.Job{Ring: 3, Sums: []impl.Sum{{Proc: 1, Rows: []impl.Row{row, row, {}}}, {Proc: 3, Rows: make([]impl.Row, 3)}}}
	text := "00D@CCADBGC@"
	checkJob(t, jobGiven{p, j}, resealed("JCBA"+text+text+"A@@@"+"C"+strings.Repeat("A@@@", 3)))
}

func TestP71JobsAreReadBack(t *testing.T) {
	t.Parallel()
	var none, full, longest int
	for _, g := range jobGivens(120) {
		if !jobFine(g.p, g.j) {
			t.Fatalf("of %v %+v is not to be asked for", g.p, g.j)
		}
		text := jobNumbers(g.j).bytes('J')
		checkJob(t, g, text)
		none += truth(len(g.j.Sums) == 0)
		full += truth(len(g.j.Sums) == procsMost)
		longest = max(longest, len(text))
	}
	if min(none, full) < 300 || longest < 250 {
		t.Errorf("%d jobs are without sums, %d with four, the longest has %d bytes", none, full, longest)
	}
}

// The rings ahead that a job's ring calls need not be known, and its own may be.
func TestP71JobsOfEachRingBySumsOfEach(t *testing.T) {
	for _, p := range wireProgs(30) {
		full := fullSums(p)
		for ring := range ringsIn(p) {
			for some := range 1 << len(p) {
				j := impl.Job{Ring: ring}
				for proc := range p {
					if some&(1<<proc) != 0 {
						j.Sums = append(j.Sums, full[proc])
					}
				}
				checkJob(t, jobGiven{p, j}, jobNumbers(j).bytes('J'))
			}
		}
	}
}

func TestP71JobsWithEachSpan(t *testing.T) {
	p := holdProg()
	texts := map[string]bool{}
	for _, out := range okSpans() {
		for kind := range rowsAll {
			j := impl.Job{Sums: fullSums(p)}
			j.Sums[1].Rows[kind].Out = out
			text := jobNumbers(j).bytes('J')
			checkJob(t, jobGiven{p, j}, text)
			texts[text] = true
		}
	}
	if len(texts) < 3*529-3 {
		t.Errorf("these are %d texts", len(texts))
	}
}

// A job's bytes say nothing of its program.
func TestP71TheSameJobInProgramsOfDifferentShape(t *testing.T) {
	p, q := told("hold 0; call 0 1 0", "hold 0; back 0", "call 0 1 0"), told("hold 0; go 0; go 0; call 2 1 2; call 1 2 0", "hold 1", "", "")
	for ring := range 3 {
		for _, sums := range [][]impl.Sum{nil, impl.SumsAll(p)[:2], fullSums(p)[:2]} {
			j := impl.Job{Ring: ring, Sums: sums}
			text := jobNumbers(j).bytes('J')
			checkJob(t, jobGiven{p, j}, text)
			checkJob(t, jobGiven{q, j}, text)
		}
	}
	// Of another shape the same bytes may be none.
	for _, c := range []struct {
		name string
		j    impl.Job
	}{
		{"a ring that only one has", impl.Job{Ring: 3}},
		{"a call that only one makes", impl.Job{Sums: []impl.Sum{{Proc: 0, Rows: []impl.Row{{Calls: calling(2, 1)}, {}, {}}}}}},
	} {
		checkJob(t, jobGiven{q, c.j}, jobNumbers(c.j).bytes('J'))
		refusesJob(t, c.name, jobGiven{p, c.j})
		noJob(t, c.name, p, jobNumbers(c.j).bytes('J'))
	}
	j := impl.Job{Sums: []impl.Sum{{Proc: 2, Rows: []impl.Row{{Calls: calling(1, 1)}, {}, {}}}}}
	checkJob(t, jobGiven{p, j}, jobNumbers(j).bytes('J'))
	noJob(t, "the call of one that calls nobody", q, jobNumbers(j).bytes('J'))
}

// tallyJob holds what is read of bytes against what must be, and counts.
func tallyJob(t *testing.T, p []impl.Proc, text string, tally *[2]int) {
	t.Helper()
	want, fine := jobOfBytes(p, text)
	j, ok := impl.JobRead(p, text)
	if ok != fine || !sameJob(j, want) {
		t.Fatalf("of %v %q is read as %+v, %t, not %+v, %t", p, text, j, ok, want, fine)
	}
	if ok && (!impl.JobOk(p, j) || impl.JobText(p, j) != text) {
		t.Fatalf("of %v %q is read as %+v, of which the bytes are %q", p, text, j, impl.JobText(p, j))
	}
	tally[truth(ok)]++
}

func TestP72JobsWithOneByteChangedAndTheLastOnesMadeRight(t *testing.T) {
	t.Parallel()
	var tally [2]int
	for k, g := range jobGivens(8) {
		if k%31 != 0 {
			continue
		}
		bytes := []byte(unsealed(g.text()))
		for at, was := range bytes {
			for b := range 256 {
				bytes[at] = byte(b)
				tallyJob(t, g.p, resealed(string(bytes)), &tally)
			}
			bytes[at] = was
		}
	}
	if tally[0] < 100000 || tally[1] < 3000 {
		t.Errorf("of %d texts there is no job, of %d there is one", tally[0], tally[1])
	}
}

// All texts of up to three bytes ahead of the last two, that begin as a job does.
func TestP72AllShortJobs(t *testing.T) {
	t.Parallel()
	for _, p := range []([]impl.Proc){told(""), twiceProg(), ringsProg(), told("", "", "", "")} {
		var tally [2]int
		for a := range 256 {
			tallyJob(t, p, resealed(string([]byte{byte(a)})), &tally)
			tallyJob(t, p, resealed(string([]byte{'J', byte(a)})), &tally)
			for b := range 256 {
				tallyJob(t, p, resealed(string([]byte{'J', byte(a), byte(b)})), &tally)
			}
		}
		if tally[1] != ringsIn(p) {
			t.Errorf("of %v %d short texts are read", p, tally[1])
		}
	}
}

// cutUp is texts made of others, with their last two bytes made right: without
// some bytes, with some more, some twice, some changed.
func cutUp(from *rand.Rand, texts []string, many int) []string {
	var all []string
	for range many {
		bytes := []byte(unsealed(texts[from.Intn(len(texts))]))
		for range 1 + from.Intn(3) {
			at := 1 + from.Intn(len(bytes))
			end := min(len(bytes), at+1+from.Intn(4))
			switch from.Intn(5) {
			case 0:
				bytes = append(bytes[:at:at], bytes[end:]...)
			case 1:
				bytes = append(bytes[:at:at], append([]byte{byte(48 + from.Intn(32))}, bytes[at:]...)...)
			case 2:
				bytes = append(bytes[:at:at], append(bytes[at:end:end], bytes[at:]...)...)
			default:
				bytes[min(at, len(bytes)-1)] = byte(64 + from.Intn(5))
			}
		}
		all = append(all, resealed(string(bytes)))
	}
	return all
}

func TestP72JobsCutUp(t *testing.T) {
	t.Parallel()
	from := rand.New(rand.NewSource(62))
	var tally [2]int
	for _, g := range jobGivens(20) {
		for _, text := range cutUp(from, []string{g.text()}, 100) {
			tallyJob(t, g.p, text, &tally)
		}
	}
	if tally[0] < 10000 || tally[1] < 500 {
		t.Errorf("of %d texts there is no job, of %d there is one", tally[0], tally[1])
	}
}

// eachChange is a text with each byte changed to each other byte.
func eachChange(text string, tell func(at int, changed string)) {
	bytes := []byte(text)
	for at, was := range bytes {
		for b := range 256 {
			if bytes[at] = byte(b); bytes[at] != was {
				tell(at, string(bytes))
			}
		}
		bytes[at] = was
	}
}

func TestP73JobsWithOneByteChanged(t *testing.T) {
	t.Parallel()
	for k, g := range jobGivens(10) {
		if k%3 != 0 {
			continue
		}
		eachChange(g.text(), func(at int, changed string) {
			noJob(t, "one byte changed", g.p, changed)
			noReply(t, "one byte changed", g.p, changed)
		})
	}
}

// eachCut is each beginning of a text, but itself, and the text with each byte more.
func eachCut(text string, tell func(cut string)) {
	for size := range text {
		tell(text[:size])
	}
	for b := range 256 {
		tell(text + string([]byte{byte(b)}))
	}
}

func TestP74BeginningsOfJobsAndJobsWithOneByteMore(t *testing.T) {
	t.Parallel()
	for _, g := range jobGivens(40) {
		eachCut(g.text(), func(cut string) {
			noJob(t, "a beginning, or one byte more", g.p, cut)
			noReply(t, "a beginning, or one byte more, of a job", g.p, cut)
		})
	}
}

// Also if the last two bytes are right for what is ahead of them.
func TestP74BeginningsOfJobsWithTheLastBytesMadeRight(t *testing.T) {
	t.Parallel()
	for k, g := range jobGivens(40) {
		if k%3 != 0 {
			continue
		}
		eachCut(unsealed(g.text()), func(cut string) {
			noJob(t, "a beginning, or one byte more, made right", g.p, resealed(cut))
			noReply(t, "a beginning, or one byte more, made right", g.p, resealed(cut))
		})
	}
}
