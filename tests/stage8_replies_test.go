package tests

import (
	"math/rand"
	"slices"
	"testing"

	"loop.example/gauger/impl"
)

// checkReply asks for a reply's bytes, and for the reply of these.
func checkReply(t *testing.T, g replyGiven, want string) {
	t.Helper()
	if !impl.ReplyOk(g.p, g.r) {
		t.Fatalf("of %v %+v is not ok", g.p, g.r)
	}
	if got := g.text(); got != want {
		t.Fatalf("of %v the bytes of %+v are\n%q, not\n%q", g.p, g.r, got, want)
	}
	if r, ok := impl.ReplyRead(g.p, want); !ok || !sameReply(r, g.r) {
		t.Fatalf("of %v %q is read as %+v, %t, not %+v", g.p, want, r, ok, g.r)
	}
	noJob(t, "a reply", g.p, want)
}

// noReply asks of bytes of which there is no reply.
func noReply(t *testing.T, name string, p []impl.Proc, text string) {
	t.Helper()
	if r, ok := impl.ReplyRead(p, text); ok || !sameReply(r, impl.Reply{}) {
		t.Fatalf("%s: of %v %q is read as %+v, %t", name, p, text, r, ok)
	}
}

// refusesReply asks for the answers at a reply that is not ok.
func refusesReply(t *testing.T, name string, g replyGiven) {
	t.Helper()
	if impl.ReplyOk(g.p, g.r) || replyFine(g.p, g.r) {
		t.Fatalf("%s: of %v %+v is ok", name, g.p, g.r)
	}
	if text := g.text(); text != "" {
		t.Fatalf("%s: of %v the bytes of %+v are %q", name, g.p, g.r, text)
	}
}

func TestP75RepliesByHand(t *testing.T) {
	empty, p := told(""), told("hold 0; back 0")
	checkReply(t, replyGiven{empty, impl.Reply{From: 1, Certs: impl.RingStart(empty, 0)}}, "R@AC@@A@A@@@@AA@A@@@@BA@A@@@?<")
	checkReply(t, replyGiven{p, impl.Reply{From: 3, Certs: impl.RingLeast(p, nil, 0)}},
		resealed("R@CC"+
			"@@C"+"A0?@@@@@@"+"A0?@@@@@@"+"@"+"0?@@"+
			"@AC"+"A@@@@@@@@"+"@"+"@"+"A@A@C@"+
			"@BC"+"AAO@@@@@@"+"AAO@@@@@@"+"@"+"AO@@"))
}

func TestP75RepliesWithTheGreatestNumbersByHand(t *testing.T) {
	p := longProgs()[3]
	most := state([spansAll]impl.Span{span(-16, 15), span(-16, -16), span(15, 15), span(-1, 1)})
	certs := impl.RingStart(p, 3)
	certs[2].States[8] = most
	certs[2].Row = impl.Row{Out: span(-16, 15), Sites: sitesAt(site(3, 4, 3), site(3, 7, 2)), Calls: slices.Concat(calling(0, 0), calling(2, 1), calling(3, 2))}
	nothing := "I@@@@@@@@@" + "A@@@"
	checkReply(t, replyGiven{p, impl.Reply{Ring: 3, From: 2, Certs: certs}}, resealed("RCBC"+
		"C@"+nothing+"CA"+nothing+
		"CB"+"I@@@@@@@@"+"A"+"0O"+"00"+"OO"+"?A"+"0O"+"BDCGB"+"C@@BACB"))
}

func TestP75RepliesAreReadBack(t *testing.T) {
	t.Parallel()
	var froms [workersMost + 1]int
	longest := 0
	for _, g := range replyGivens(100) {
		if !replyFine(g.p, g.r) {
			t.Fatalf("of %v %+v is not to be asked for", g.p, g.r)
		}
		text := replyNumbers(g.r).bytes('R')
		checkReply(t, g, text)
		froms[g.r.From]++
		longest = max(longest, len(text))
	}
	if min(froms[1], froms[2], froms[3]) < 300 || longest < 1000 {
		t.Errorf("by whom they come: %v; the longest has %d bytes", froms, longest)
	}
}

func TestP75RepliesOfRings(t *testing.T) {
	for _, p := range wireProgs(20) {
		for ring := range ringsIn(p) {
			sums := aheadSums(p, ring)
			for from := 1; from <= workersMost; from++ {
				for _, certs := range [][]impl.Cert{impl.RingStart(p, ring), impl.RingLeast(p, sums, ring), impl.RingWide(p, sums, ring), fullCerts(p, ring)} {
					r := impl.Reply{Ring: ring, From: from, Certs: certs}
					checkReply(t, replyGiven{p, r}, replyNumbers(r).bytes('R'))
				}
			}
		}
	}
}

func TestP75RepliesWithEachSpan(t *testing.T) {
	p := told("hold 0; back 0")
	certs := impl.RingLeast(p, nil, 0)
	for _, s := range okSpans() {
		for kind := range certs {
			other := copyOfCerts(certs)
			other[kind].Row.Out = s
			r := impl.Reply{From: 2, Certs: other}
			checkReply(t, replyGiven{p, r}, replyNumbers(r).bytes('R'))
			for at := range spansAll {
				if s != none() {
					other[kind].States[at%3] = with(differentSpans(), at, s)
					checkReply(t, replyGiven{p, r}, replyNumbers(r).bytes('R'))
				}
			}
		}
	}
}

// What certs say need not hold, nor need anybody come there.
func TestP75RepliesThatDoNotHold(t *testing.T) {
	for _, g := range certsGivens(10) {
		r := impl.Reply{Ring: g.ring, From: 1, Certs: g.certs}
		checkReply(t, replyGiven{g.p, r}, replyNumbers(r).bytes('R'))
	}
}

// A reply's bytes say nothing of its program but how long codes are.
func TestP75TheSameReplyInProgramsOfDifferentShape(t *testing.T) {
	p, q := told("hold 0; back 0"), told("hold 1; go 0", "call 0 0 0")
	r := impl.Reply{From: 1, Certs: impl.RingLeast(p, nil, 0)}
	text := replyNumbers(r).bytes('R')
	checkReply(t, replyGiven{p, r}, text)
	checkReply(t, replyGiven{q, r}, text)
	for name, other := range map[string][]impl.Proc{
		"a longer code":                told("hold 0; back 0; back 0"),
		"a shorter code":               told("hold 0"),
		"a site that is none":          told("back 0; hold 0"),
		"a site of another fault":      told("do 0 0 4; back 0"),
		"a ring of two":                told("hold 0; call 0 1 0", "call 0 0 0"),
		"a ring of another procedure":  told("hold 0; call 0 1 0", "hold 0; back 0"),
		"another one's, and the first": told("hold 0; call 0 2 0", "hold 0; back 0", "call 0 0 0"),
	} {
		refusesReply(t, name, replyGiven{other, r})
		noReply(t, name, other, text)
	}
}

// tallyReply holds what is read of bytes against what must be, and counts.
func tallyReply(t *testing.T, p []impl.Proc, text string, tally *[2]int) {
	t.Helper()
	want, fine := replyOfBytes(p, text)
	r, ok := impl.ReplyRead(p, text)
	if ok != fine || !sameReply(r, want) {
		t.Fatalf("of %v %q is read as %+v, %t, not %+v, %t", p, text, r, ok, want, fine)
	}
	if ok && (!impl.ReplyOk(p, r) || impl.ReplyText(p, r) != text) {
		t.Fatalf("of %v %q is read as %+v, of which the bytes are %q", p, text, r, impl.ReplyText(p, r))
	}
	tally[truth(ok)]++
}

func TestP76RepliesWithOneByteChangedAndTheLastOnesMadeRight(t *testing.T) {
	t.Parallel()
	var tally [2]int
	for k, g := range replyGivens(6) {
		if k%97 != 0 {
			continue
		}
		bytes := []byte(unsealed(g.text()))
		for at, was := range bytes {
			for b := range 256 {
				bytes[at] = byte(b)
				tallyReply(t, g.p, resealed(string(bytes)), &tally)
			}
			bytes[at] = was
		}
	}
	if tally[0] < 100000 || tally[1] < 6000 {
		t.Errorf("of %d texts there is no reply, of %d there is one", tally[0], tally[1])
	}
}

func TestP76RepliesCutUp(t *testing.T) {
	t.Parallel()
	from := rand.New(rand.NewSource(63))
	var tally [2]int
	for _, g := range replyGivens(10) {
		for _, text := range cutUp(from, []string{g.text()}, 50) {
			tallyReply(t, g.p, text, &tally)
		}
	}
	if tally[0] < 5000 || tally[1] < 300 {
		t.Errorf("of %d texts there is no reply, of %d there is one", tally[0], tally[1])
	}
}

func TestP77RepliesWithOneByteChanged(t *testing.T) {
	t.Parallel()
	for k, g := range replyGivens(6) {
		if k%5 != 0 {
			continue
		}
		eachChange(g.text(), func(at int, changed string) {
			noReply(t, "one byte changed", g.p, changed)
			noJob(t, "one byte changed", g.p, changed)
		})
	}
}

func TestP78BeginningsOfRepliesAndRepliesWithOneByteMore(t *testing.T) {
	t.Parallel()
	for k, g := range replyGivens(20) {
		if k%3 != 0 {
			continue
		}
		eachCut(g.text(), func(cut string) {
			noReply(t, "a beginning, or one byte more", g.p, cut)
			noJob(t, "a beginning, or one byte more, of a reply", g.p, cut)
		})
	}
}

// Also if the last two bytes are right for what is ahead of them.
func TestP78BeginningsOfRepliesWithTheLastBytesMadeRight(t *testing.T) {
	t.Parallel()
	for k, g := range replyGivens(20) {
		if k%7 != 0 {
			continue
		}
		eachCut(unsealed(g.text()), func(cut string) {
			noReply(t, "a beginning, or one byte more, made right", g.p, resealed(cut))
			noJob(t, "a beginning, or one byte more, made right", g.p, resealed(cut))
		})
	}
}

// nearReplies is replies of one program, many of which differ in one thing.
func nearReplies(p []impl.Proc) []impl.Reply {
	source := rand.New(rand.NewSource(64))
	var all []impl.Reply
	for ring := range ringsIn(p) {
		g := ringGiven{p, aheadSums(p, ring), ring}
		least := g.least()
		lists := [][]impl.Cert{g.start(), g.round(g.start()), least, g.wide(), fullCerts(p, ring), g.someCerts(source)}
		for range 12 {
			lists = append(lists, lessCerts(source, least), moreCerts(source, p, least))
		}
		for _, certs := range lists {
			for from := 1; from <= workersMost; from++ {
				all = append(all, impl.Reply{Ring: ring, From: from, Certs: certs})
			}
		}
	}
	return all
}

func TestP79RepliesAreTheSameJustIfTheirBytesAre(t *testing.T) {
	t.Parallel()
	var tally [2]int
	for _, p := range append(ringsMade(), livelyProgs(5)...) {
		var texts []string
		all := nearReplies(p)
		for _, r := range all {
			texts = append(texts, impl.ReplyText(p, r))
		}
		for a := range all {
			for b := range all {
				if (texts[a] == texts[b]) != sameReply(all[a], all[b]) {
					t.Fatalf("of %v %q and %q are of %+v and %+v", p, texts[a], texts[b], all[a], all[b])
				}
				tally[truth(texts[a] == texts[b] && a != b)]++
			}
		}
	}
	if min(tally[0], tally[1]) < 5000 {
		t.Errorf("%d pairs are not the same, %d are", tally[0], tally[1])
	}
}

func TestP79RepliesFromAnotherWorker(t *testing.T) {
	for _, g := range replyGivens(30) {
		texts := map[string]bool{}
		for from := 1; from <= workersMost; from++ {
			g.r.From = from
			text := g.text()
			texts[text] = true
			if r, ok := impl.ReplyRead(g.p, text); !ok || r.From != from {
				t.Fatalf("of %v %q is from %d, %t, not from %d", g.p, text, r.From, ok, from)
			}
		}
		if len(texts) != workersMost {
			t.Fatalf("of %v, ring %d, replies of three workers are %d texts", g.p, g.r.Ring, len(texts))
		}
	}
}
