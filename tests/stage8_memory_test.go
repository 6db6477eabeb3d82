package tests

import (
	"slices"
	"testing"

	"loop.example/gauger/impl"
)

// jobsMemory is what memory is asked with: jobs that are ok, and not.
func jobsMemory() []jobGiven {
	all := jobGivens(20)
	p := ringsProg()
	for _, change := range sumChanges() {
		sums := fullSums(p)
		change.do(&sums[1])
		all = append(all, jobGiven{p, impl.Job{Ring: 1, Sums: sums}})
	}
	for _, bad := range badProgs() {
		all = append(all, jobGiven{bad, impl.Job{Sums: fullSums(p)}})
	}
	for _, none := range noRings(p) {
		all = append(all, jobGiven{p, impl.Job{Ring: none, Sums: fullSums(p)}})
	}
	return all
}

// repliesMemory is likewise of replies.
func repliesMemory() []replyGiven {
	all := replyGivens(20)
	for _, g := range certsMemory() {
		if len(all)%3 == 0 {
			all = append(all, replyGiven{g.p, impl.Reply{Ring: g.ring, From: 2, Certs: g.certs}})
			continue
		}
		all = append(all, replyGiven{g.p, impl.Reply{Ring: g.ring, From: len(all) % 7, Certs: g.certs}})
	}
	return all
}

func TestNothingIsWrittenIntoAJobOrItsProgram(t *testing.T) {
	t.Parallel()
	for _, was := range jobsMemory() {
		text := was.text()
		g := jobGiven{withRoom(was.p, markIns()), impl.Job{Ring: was.j.Ring, Sums: roomySums(was.j.Sums)}}
		if impl.JobOk(g.p, g.j) != (text != "") || g.text() != text {
			t.Fatalf("of %v, with room behind lists, the bytes of %+v are %q, not %q", was.p, was.j, g.text(), text)
		}
		impl.JobRead(g.p, text)
		impl.ReplyRead(g.p, text)
		if !roomyProgStays(g.p, was.p) || !roomySumsStay(g.j.Sums, was.j.Sums) {
			t.Fatalf("%+v is now %+v", was, g)
		}
	}
}

func TestNothingIsWrittenIntoAReplyOrItsProgram(t *testing.T) {
	t.Parallel()
	for _, was := range repliesMemory() {
		text := was.text()
		g := replyGiven{withRoom(was.p, markIns()), was.r}
		g.r.Certs = roomyCerts(was.r.Certs)
		if impl.ReplyOk(g.p, g.r) != (text != "") || g.text() != text {
			t.Fatalf("of %v, with room behind lists, the bytes of %+v are %q, not %q", was.p, was.r, g.text(), text)
		}
		impl.ReplyRead(g.p, text)
		impl.JobRead(g.p, text)
		if !roomyProgStays(g.p, was.p) || !roomyCertsStay(g.r.Certs, was.r.Certs) {
			t.Fatalf("%+v is now %+v", was, g)
		}
	}
}

// A text is as it was, whatever becomes of what it was made of.
func TestTextsAreNewMemory(t *testing.T) {
	t.Parallel()
	for _, was := range jobGivens(20) {
		want := jobNumbers(was.j).bytes('J')
		g := jobGiven{withRoom(was.p, markIns()), impl.Job{Ring: was.j.Ring, Sums: roomySums(was.j.Sums)}}
		text := g.text()
		spoilGiven(flowGiven{p: g.p, sums: g.j.Sums})
		if text != want || was.text() != want {
			t.Fatalf("the bytes of %+v were %q, and are now %q", was, want, text)
		}
	}
	for _, was := range replyGivens(20) {
		want := replyNumbers(was.r).bytes('R')
		g := replyGiven{withRoom(was.p, markIns()), was.r}
		g.r.Certs = roomyCerts(was.r.Certs)
		text := g.text()
		spoilCerts(g.r.Certs)
		spoilGiven(flowGiven{p: g.p})
		if text != want || was.text() != want {
			t.Fatalf("the bytes of %+v were %q, and are now %q", was, want, text)
		}
	}
}

func TestJobsThatAreReadAreNewMemory(t *testing.T) {
	t.Parallel()
	for _, was := range jobGivens(20) {
		p, text := withRoom(was.p, markIns()), was.text()
		got, _ := impl.JobRead(p, text)
		other, _ := impl.JobRead(p, text)
		spoilSums(other.Sums)
		again, ok := impl.JobRead(p, text)
		if !ok || !sameJob(got, was.j) || !sameJob(again, was.j) || !roomyProgStays(p, was.p) {
			t.Fatalf("JobRead of %q shares its memory, or keeps some", text)
		}
		spoilGiven(flowGiven{p: p})
		if !sameJob(got, was.j) {
			t.Fatalf("JobRead of %q was %+v, and is now %+v", text, was.j, got)
		}
	}
}

func TestRepliesThatAreReadAreNewMemory(t *testing.T) {
	t.Parallel()
	for _, was := range replyGivens(20) {
		p, text := withRoom(was.p, markIns()), was.text()
		got, _ := impl.ReplyRead(p, text)
		other, _ := impl.ReplyRead(p, text)
		spoilCerts(other.Certs)
		again, ok := impl.ReplyRead(p, text)
		if !ok || !sameReply(got, was.r) || !sameReply(again, was.r) || !roomyProgStays(p, was.p) {
			t.Fatalf("ReplyRead of %q shares its memory, or keeps some", text)
		}
		spoilGiven(flowGiven{p: p})
		if !sameReply(got, was.r) {
			t.Fatalf("ReplyRead of %q was %+v, and is now %+v", text, was.r, got)
		}
	}
}

// sumsAreAlone says whether no two lists of sums share memory.
func sumsAreAlone(sums *[]impl.Sum) bool {
	want := copySums(*sums)
	stay := func() bool { return sameSums(*sums, want) }
	alone := staysBut(sums, markSum(), stay)
	for at := range *sums {
		s := &(*sums)[at]
		alone = alone && staysBut(&s.Rows, markRow(), stay)
		for kind := range s.Rows {
			r := &s.Rows[kind]
			alone = alone && staysBut(&r.Sites, markSite(), stay) && staysBut(&r.Calls, markCall(), stay)
		}
	}
	return alone
}

// certsAreAlone says whether no two lists of certs share memory.
func certsAreAlone(certs *[]impl.Cert) bool {
	want := copyOfCerts(*certs)
	stay := func() bool { return sameCerts(*certs, want) }
	alone := staysBut(certs, markCert(), stay)
	for at := range *certs {
		c := &(*certs)[at]
		alone = alone && staysBut(&c.States, markState(), stay)
		alone = alone && staysBut(&c.Row.Sites, markSite(), stay) && staysBut(&c.Row.Calls, markCall(), stay)
		for place := range c.States {
			alone = alone && staysBut(&c.States[place].Regs, markSpan(), stay)
		}
	}
	return alone
}

func TestListsOfWhatIsReadShareNothing(t *testing.T) {
	t.Parallel()
	for _, g := range jobGivens(10) {
		if j, ok := impl.JobRead(g.p, g.text()); !ok || !sumsAreAlone(&j.Sums) {
			t.Fatalf("lists of the job of %q share memory", g.text())
		}
	}
	for _, g := range replyGivens(10) {
		if r, ok := impl.ReplyRead(g.p, g.text()); !ok || !certsAreAlone(&r.Certs) {
			t.Fatalf("lists of the reply of %q share memory", g.text())
		}
	}
}

// What shares its lists is written as what does not.
func TestTextsOfWhatSharesLists(t *testing.T) {
	p := longProgs()[0]
	row := fullSum(p, 2).Rows[0]
	j := impl.Job{Ring: 1, Sums: []impl.Sum{{Proc: 2, Rows: []impl.Row{row, row, row}}}}
	checkJob(t, jobGiven{p, j}, jobNumbers(j).bytes('J'))
	certs := impl.RingStart(p, 2)
	states := slices.Repeat([]impl.State{differentSpans()}, len(certs[0].States))
	for at := range certs {
		certs[at].States, certs[at].Row = states, row
	}
	r := impl.Reply{Ring: 2, From: 1, Certs: certs}
	checkReply(t, replyGiven{p, r}, replyNumbers(r).bytes('R'))
}

// What is none is written so, whether its lists are nil, or empty.
func TestTextsOfEmptyLists(t *testing.T) {
	for _, g := range jobGivens(10) {
		want := g.text()
		sums := append([]impl.Sum{}, copySums(g.j.Sums)...)
		for at := range sums {
			for kind := range sums[at].Rows {
				r := &sums[at].Rows[kind]
				r.Sites, r.Calls = append([]impl.Site{}, r.Sites...), append([]impl.Call{}, r.Calls...)
			}
		}
		checkJob(t, jobGiven{g.p, impl.Job{Ring: g.j.Ring, Sums: sums}}, want)
	}
	for _, g := range replyGivens(10) {
		want := g.text()
		certs := copyOfCerts(g.r.Certs)
		for at := range certs {
			c := &certs[at]
			c.Row.Sites, c.Row.Calls = append([]impl.Site{}, c.Row.Sites...), append([]impl.Call{}, c.Row.Calls...)
			for place := range c.States {
				c.States[place].Regs = append([]impl.Span{}, c.States[place].Regs...)
			}
		}
		checkReply(t, replyGiven{g.p, impl.Reply{Ring: g.r.Ring, From: g.r.From, Certs: certs}}, want)
	}
}
