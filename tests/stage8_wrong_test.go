package tests

import (
	"math"
	"math/rand"
	"slices"
	"strconv"
	"strings"
	"testing"

	"loop.example/gauger/impl"
)

func TestJobsOfARingThatIsNone(t *testing.T) {
	for _, p := range wireProgs(20) {
		for _, none := range noRings(p) {
			for _, sums := range [][]impl.Sum{nil, fullSums(p)} {
				refusesJob(t, "ring "+strconv.Itoa(none), jobGiven{p, impl.Job{Ring: none, Sums: sums}})
			}
		}
		// Numbers that are a ring, if they are cut off to a byte.
		for _, far := range []int{256, -256, 1 << 32, ringsIn(p) - 1 + 512} {
			refusesJob(t, "ring "+strconv.Itoa(far), jobGiven{p, impl.Job{Ring: far}})
		}
		for n := -64; n < 192; n++ {
			text := numbers{n, 0}.bytes('J')
			if inRange(n, 0, ringsIn(p)-1) {
				checkJob(t, jobGiven{p, impl.Job{Ring: n}}, text)
			} else {
				noJob(t, "ring "+strconv.Itoa(n), p, text)
			}
		}
	}
}

func TestJobsOfAProgramThatIsNotOk(t *testing.T) {
	for _, p := range badProgs() {
		for ring := -1; ring <= len(p); ring++ {
			for _, sums := range [][]impl.Sum{nil, impl.SumsAll(holdProg()), {{Rows: make([]impl.Row, rowsAll)}}} {
				j := impl.Job{Ring: ring, Sums: sums}
				refusesJob(t, "a program that is not ok", jobGiven{p, j})
				noJob(t, "a program that is not ok", p, jobNumbers(j).bytes('J'))
			}
		}
	}
}

func TestJobsWithOneThingOfSumsBroken(t *testing.T) {
	p := ringsProg()
	for proc := range 2 {
		for _, change := range sumChanges() {
			sums := fullSums(p)
			change.do(&sums[proc])
			for ring := range ringsIn(p) {
				j := impl.Job{Ring: ring, Sums: sums}
				refusesJob(t, change.name, jobGiven{p, j})
				j.Sums = sums[proc : proc+1]
				refusesJob(t, change.name+", alone", jobGiven{p, j})
			}
		}
	}
}

func TestJobsBySumsOutOfOrderOrTwice(t *testing.T) {
	p := ringsProg()
	full := fullSums(p)
	for name, sums := range map[string][]impl.Sum{
		"one twice":             {full[0], full[0]},
		"the last one twice":    {full[0], full[1], full[2], full[3], full[3]},
		"turned round":          {full[3], full[2], full[1], full[0]},
		"two out of order":      {full[0], full[2], full[1], full[3]},
		"the last one in front": {full[3], full[0]},
		"one twice, others between": {
			full[0], full[1], full[0],
		},
	} {
		j := impl.Job{Ring: 0, Sums: sums}
		refusesJob(t, name, jobGiven{p, j})
		noJob(t, name, p, jobNumbers(j).bytes('J'))
	}
}

func TestRepliesOfARingThatIsNone(t *testing.T) {
	for _, p := range wireProgs(20) {
		last := ringsIn(p) - 1
		for _, none := range append(noRings(p), 256, -256, 1<<32, last+512) {
			for _, certs := range [][]impl.Cert{nil, fullCerts(p, last), fullCerts(p, 0)} {
				r := impl.Reply{Ring: none, From: 1, Certs: certs}
				refusesReply(t, "ring "+strconv.Itoa(none), replyGiven{p, r})
				if inRange(none, -64, 191) {
					noReply(t, "ring "+strconv.Itoa(none), p, replyNumbers(r).bytes('R'))
				}
			}
		}
	}
}

func TestRepliesFromNoWorker(t *testing.T) {
	for _, p := range wireProgs(10) {
		for ring := range ringsIn(p) {
			r := impl.Reply{Ring: ring, Certs: fullCerts(p, ring)}
			for _, from := range []int{math.MinInt, -256, -255, -3, -2, -1, 0, 4, 5, 6, 64, 255, 256, 257, 1<<32 + 1, math.MaxInt} {
				r.From = from
				refusesReply(t, "from "+strconv.Itoa(from), replyGiven{p, r})
			}
			for from := -64; from < 192; from++ {
				r.From = from
				text := replyNumbers(r).bytes('R')
				if inRange(from, 1, workersMost) {
					checkReply(t, replyGiven{p, r}, text)
				} else {
					noReply(t, "from "+strconv.Itoa(from), p, text)
				}
			}
		}
	}
}

func TestRepliesOfAProgramThatIsNotOk(t *testing.T) {
	for _, p := range badProgs() {
		for _, certs := range [][]impl.Cert{nil, impl.RingStart(told(""), 0), fullCerts(holdProg(), 0), fullCerts(holdProg(), 1)} {
			for ring := -1; ring <= len(p); ring++ {
				r := impl.Reply{Ring: ring, From: 1, Certs: certs}
				refusesReply(t, "a program that is not ok", replyGiven{p, r})
				noReply(t, "a program that is not ok", p, replyNumbers(r).bytes('R'))
			}
		}
	}
}

func TestRepliesWithOneThingOfCertsBroken(t *testing.T) {
	p := ringsProg()
	for _, ring := range []int{2, 1} {
		certs := fullCerts(p, ring)
		for _, change := range certChanges() {
			for at := range certs {
				broken := copyOfCerts(certs)
				change.do(&broken[at])
				r := impl.Reply{Ring: ring, From: 1, Certs: broken}
				refusesReply(t, change.name, replyGiven{p, r})
			}
		}
	}
}

func TestRepliesOfCertsThatDoNotFit(t *testing.T) {
	p := twiceProg()
	for ring := range ringsIn(p) {
		certs := fullCerts(p, ring)
		for name, do := range fitChanges() {
			r := impl.Reply{Ring: ring, From: 3, Certs: do(copyOfCerts(certs))}
			refusesReply(t, name, replyGiven{p, r})
			noReply(t, name, p, replyNumbers(r).bytes('R'))
		}
		r := impl.Reply{Ring: 1 - ring, From: 3, Certs: certs}
		refusesReply(t, "another ring's", replyGiven{p, r})
		noReply(t, "another ring's", p, replyNumbers(r).bytes('R'))
	}
}

// writtenOtherwise is bytes that are written otherwise than they are to be:
// each is to be put where the first one stands.
type writtenOtherwise struct {
	name  string
	right string
	wrong []string
}

// refusesBytes asks of bytes with one thing changed, the last two being made
// right: those are refused, and what they came from is not.
func refusesBytes(t *testing.T, p []impl.Proc, ahead string, c writtenOtherwise, behind string) {
	t.Helper()
	right := resealed(ahead + c.right + behind)
	_, job := impl.JobRead(p, right)
	_, reply := impl.ReplyRead(p, right)
	if job == reply || job != (right[0] == 'J') {
		t.Fatalf("%s: of %v %q is a job: %t, a reply: %t", c.name, p, right, job, reply)
	}
	for _, wrong := range c.wrong {
		noJob(t, c.name, p, resealed(ahead+wrong+behind))
		noReply(t, c.name, p, resealed(ahead+wrong+behind))
	}
}

// otherBytes is each byte but some.
func otherBytes(some string) []string {
	var all []string
	for b := range 256 {
		if one := string([]byte{byte(b)}); !strings.Contains(some, one) {
			all = append(all, one)
		}
	}
	return all
}

// noSpans is what stands for no span that is ok: a none, a word or an order that is none.
func noSpans() []string {
	return []string{
		"BA", "A?", "@?", "@>", "OA", "O0", "O@", "10", "?>", "B@", "CA", "A0", "A>", "?0",
		"/?", "/O", "0P", "PP", "//", "@P", "\x00@", "@\xff", "\xff\xff", "\x00\x00", " @", "a@", "0", "", "A@@", "A", "0\x80", "\x80\x80",
	}
}

func TestBytesOfJobsWrittenOtherwise(t *testing.T) {
	p := holdProg()
	row := "AO@@"
	sum := "A" + "0?@@" + "A@A@C@" + row
	first := "@" + strings.Repeat("A@@@", 3)
	for _, c := range []struct {
		ahead  string
		c      writtenOtherwise
		behind string
	}{
		{"", writtenOtherwise{"the first byte", "J", otherBytes("J")}, "AA" + sum},
		{"", writtenOtherwise{"the first byte, with no sums", "J", otherBytes("J")}, "@@"},
		{"J", writtenOtherwise{"the ring", "A", otherBytes("@A")}, "A" + sum},
		{"JA", writtenOtherwise{"how many sums", "A", otherBytes("A")}, sum},
		{"JA", writtenOtherwise{"how many sums there are none of", "@", otherBytes("@")}, ""},
		{"JAA", writtenOtherwise{"a sum's procedure", "@", otherBytes("@A")}, "A@@@" + "A@@@" + "A@@@"},
		{"JAA", writtenOtherwise{"a sum's procedure, with a site", "A", otherBytes("A")}, sum[1:]},
		{"JAAA", writtenOtherwise{"Out of the first row", "0?", noSpans()}, "@@" + "A@A@C@" + row},
		{"JAAA0?@@", writtenOtherwise{"Out of a row that gives nothing", "A@", noSpans()}, "A@C@" + row},
		{"JAAA0?@@A@A@C@", writtenOtherwise{"Out of the last row", "AO", noSpans()}, "@@"},
		{"JAAA0?@@A@", writtenOtherwise{"how many sites", "A", otherBytes("A")}, "@C@" + row},
		{"JAAA0?@@A@A", writtenOtherwise{"the place of a site", "@", otherBytes("@")}, "C@" + row},
		{"JAAA0?@@A@A@", writtenOtherwise{"the fault of a site", "C", otherBytes("C")}, "@" + row},
		{"JAAA0?@@A@", writtenOtherwise{"a site twice, or of what is not", "A@C", []string{"B@C@C", "B@CAC", "B@CBC", "B?C@C"}}, "@" + row},
		{"JAAA0?@@A@A@C", writtenOtherwise{"calls of one that calls nobody", "@", otherBytes("@")}, row},
		{"JAAA0?@@A@A@C", writtenOtherwise{"a call of one that calls nobody", "@", []string{"A@@", "AAA", "ABA"}}, row},
		{"JA" + "A", writtenOtherwise{"a sum twice", sum, []string{sum + sum}}, ""},
		{"JA", writtenOtherwise{"sums twice, or out of order", "B" + first + sum, []string{
			"B" + sum + sum, "B" + sum + first, "C" + first + sum + sum, "C" + first + first + sum,
		}}, ""},
		{"J@A@" + "A@@", writtenOtherwise{"calls", "BA@AB", []string{
			"BABA@", "BA@A@", "AA@AB", "CA@AB", "A@@", "AB@", "AAC", "AA?", "A?@", "AD@", "CA@AAA@", "DA@AAABAC", "DA@AAABB@", "?", "?A@AB", "\xffA@AB",
		}}, "A@@@" + "A@@@"},
		{"J@A@" + "A@@" + "CA@AAAB" + "A@@@" + "A@@@", writtenOtherwise{"behind the end", "", append(otherBytes(""), "A@@@", "@@", "J@@")}, ""},
	} {
		refusesBytes(t, p, c.ahead, c.c, c.behind)
	}
}

func TestBytesOfRepliesWrittenOtherwise(t *testing.T) {
	p := holdProg()
	// Certs of procedure 1, then of procedure 0.
	less := "A@C" + "A0?@@@@@@" + "A0?@@@@@@" + "@" + "0?@@"
	zero := "AAC" + "A@@@@@@@@" + "@" + "@" + "A@A@C@"
	more := "ABC" + "AAO@@@@@@" + "AAO@@@@@@" + "@" + "AO@@"
	start := "@@C@@@A@@@" + "@AC@@@A@@@"
	last := "@BC@@@A@@"
	states := []string{"B", "?", "C", "@@", "A", "", "A@@@@@@@", "A@@@@@@@@@", "B@@@@@@@@", "@@@@@@@@@", "AA@@@@@@@", "A@@A@@@@@", "A@@@@A@@@", "A@@@@@@A@", "AA@A@A@A@", "A0P@@@@@@", "A@@/@@@@@", "A@@@@PP@@", "A@@@@@@A?"}
	for _, c := range []struct {
		ahead  string
		c      writtenOtherwise
		behind string
	}{
		{"", writtenOtherwise{"the first byte", "R", otherBytes("R")}, "@AC" + less + zero + more},
		{"R", writtenOtherwise{"the ring", "@", otherBytes("@")}, "AC" + less + zero + more},
		{"R@", writtenOtherwise{"from whom", "A", otherBytes("ABC")}, "C" + less + zero + more},
		{"R@A", writtenOtherwise{"how many certs", "C", otherBytes("C")}, less + zero + more},
		{"R@AC", writtenOtherwise{"the first cert's procedure", "A", otherBytes("A")}, less[1:] + zero + more},
		{"R@ACA", writtenOtherwise{"the first cert's kind", "@", otherBytes("@")}, less[2:] + zero + more},
		{"R@AC" + less + zero + "A", writtenOtherwise{"the last cert's kind", "B", otherBytes("B")}, more[2:]},
		{"R@ACA@", writtenOtherwise{"how many states", "C", otherBytes("C")}, less[3:] + zero + more},
		{"R@AC" + less + "AAC", writtenOtherwise{"the first state", "A@@@@@@@@", states}, "@" + "@" + "A@A@C@" + more},
		{"R@AC" + less + "AAC" + "A@@@@@@@@" + "@", writtenOtherwise{"the last state", "@", states[:len(states)-1]}, "A@A@C@" + more},
		{"R@AC", writtenOtherwise{"Out of the first cert", less, []string{less[:22] + "A?@@", less[:22] + "BA@@", less[:22] + "/?@@"}}, zero + more},
		{"R@AC" + less + zero[:14], writtenOtherwise{"Out of one that gives nothing", "A@", noSpans()}, "A@C@" + more},
		{"R@AC" + less + zero[:16], writtenOtherwise{"sites", "A@C", []string{
			"B@C", "@@C", "?@C", "AAC", "A?C", "ABC", "A@B", "A@D", "A@@", "B@C@C", "B@CAC", "\xff@C", "I@C@C@C@C@C@C@C@C@C",
		}}, "@" + more},
		{"R@AC" + less + zero[:19], writtenOtherwise{"calls", "@", append(otherBytes("@"), "A@@", "AAA")}, more},
		{"RAAC" + start + last, writtenOtherwise{"calls of the last one", "CA@AAAB", []string{
			"A@@", "AB@", "AAC", "AA?", "BABAA", "BAAAA", "BAA", "AAA@", "?", "DA@AAABAC",
		}}, ""},
		{"RAAC" + start + last + "CA@AAAB", writtenOtherwise{"behind the end", "", append(otherBytes(""), last+"@", "@@")}, ""},
		{"R@A", writtenOtherwise{"certs that are too few, too many, or out of order", "C" + less + zero + more, []string{
			"B" + less + zero, "D" + less + zero + more + more, "C" + zero + less + more, "@", "A" + less, "F" + less + zero + more + less + zero + more,
			"C" + less + zero + zero, "?" + less + zero + more, "\xff" + less + zero + more, "C" + start + last + "@", "C" + less + zero + more + less,
		}}, ""},
	} {
		refusesBytes(t, p, c.ahead, c.c, c.behind)
	}
}

func TestShortTextsAndOthers(t *testing.T) {
	for _, p := range append(wireProgs(5), badProgs()...) {
		for _, text := range []string{
			"", " ", "  ", "J", "R", "J@", "J@@", "J@@*", "R@A", "@@", "*#", "J*", "J@@*#J@@*#", "J@@#*", "j@@" + "J#", "\x00\x00", "\xff\xff\xff",
			resealed(""), resealed("J"), resealed("R"), resealed("J@"), resealed("R@"), resealed("R@A"), resealed("R@A@"), resealed("@@"), resealed("JR@@"),
			resealed(resealed("J@@")), resealed(" J@@"), resealed("J@@ "), resealed("J@@\n"), resealed("J\x00\x00"), resealed("J@\xff"), resealed("J\xff@"),
			resealed("J@" + strings.Repeat("\xff", 100)), resealed("R@A" + strings.Repeat("\xff", 3000)), resealed("J@" + strings.Repeat("@", 3000)),
			strings.Repeat("J", 100000), resealed("J@" + strings.Repeat("A", 100000)), resealed("R@A" + strings.Repeat("D@A", 100000)),
		} {
			noJob(t, "no job", p, text)
			noReply(t, "no reply", p, text)
		}
	}
}

// The last two bytes count with all that they hold, and in their order.
func TestJobsAndRepliesWithOtherLastBytes(t *testing.T) {
	p := holdProg()
	for _, text := range []string{
		jobGiven{p, impl.Job{Ring: 1, Sums: fullSums(p)}}.text(), replyGiven{p, impl.Reply{From: 1, Certs: fullCerts(p, 0)}}.text(),
	} {
		bytes := unsealed(text)
		read := 0
		for a := range 256 {
			for b := range 256 {
				other := bytes + string([]byte{byte(a), byte(b)})
				_, job := impl.JobRead(p, other)
				_, reply := impl.ReplyRead(p, other)
				if read += truth(job || reply); (job || reply) != (other == text) {
					t.Fatalf("%q, not %q, is read", other, text)
				}
			}
		}
		if read != 1 {
			t.Errorf("%q is read with %d last bytes", bytes, read)
		}
	}
}

// What is ahead of the last two bytes is counted on beyond 4096, and from there anew.
func TestLastBytesOfLongReplies(t *testing.T) {
	p := longProgs()[0]
	from := rand.New(rand.NewSource(65))
	seen := map[int]bool{}
	for range 400 {
		g := ringGiven{p, nil, from.Intn(4)}
		r := impl.Reply{Ring: g.ring, From: 1 + from.Intn(3), Certs: g.someCerts(from)}
		text := replyNumbers(r).bytes('R')
		checkReply(t, replyGiven{p, r}, text)
		sum := 0
		for _, b := range []byte(unsealed(text)) {
			sum += int(b)
		}
		if text[len(text)-2] != byte(32+sum%64) || text[len(text)-1] != byte(32+sum/64%64) {
			t.Fatalf("%q is of %d", text, sum)
		}
		seen[sum/4096] = true
	}
	if len(seen) < 3 {
		t.Errorf("sums of bytes are of %d sorts alone", len(seen))
	}
}

func TestJobsAndRepliesThatAreChanged(t *testing.T) {
	t.Parallel()
	from := rand.New(rand.NewSource(66))
	var jobs, replies [2]int
	for _, g := range jobGivens(30) {
		if len(g.j.Sums) == 0 {
			continue
		}
		sums := copySums(g.j.Sums)
		at := from.Intn(len(sums))
		sums[at] = changedSum(from, sums[at])
		j := impl.Job{Ring: g.j.Ring, Sums: sums}
		want := ""
		if jobFine(g.p, j) {
			want = jobNumbers(j).bytes('J')
		}
		if impl.JobOk(g.p, j) != (want != "") || impl.JobText(g.p, j) != want {
			t.Fatalf("of %v the bytes of %+v are %q, not %q", g.p, j, impl.JobText(g.p, j), want)
		}
		jobs[truth(want != "")]++
	}
	for _, g := range replyGivens(30) {
		certs := copyOfCerts(g.r.Certs)
		at := from.Intn(len(certs))
		certs[at] = changedCert(from, certs[at])
		r := impl.Reply{Ring: g.r.Ring, From: g.r.From, Certs: certs}
		want := ""
		if replyFine(g.p, r) {
			want = replyNumbers(r).bytes('R')
		}
		if impl.ReplyOk(g.p, r) != (want != "") || impl.ReplyText(g.p, r) != want {
			t.Fatalf("of %v the bytes of %+v are %q, not %q", g.p, r, impl.ReplyText(g.p, r), want)
		}
		replies[truth(want != "")]++
	}
	if slices.Min(append(jobs[:], replies[:]...)) < 100 {
		t.Errorf("jobs: %v, replies: %v", jobs, replies)
	}
}
