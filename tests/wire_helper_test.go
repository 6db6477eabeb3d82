package tests

import (
	"math/rand"
	"slices"

	"loop.example/gauger/impl"
)

// workersMost is how many workers there may be.
const workersMost = 3

func sameJob(a impl.Job, b impl.Job) bool {
	return a.Ring == b.Ring && sameSums(a.Sums, b.Sums)
}

func sameReply(a impl.Reply, b impl.Reply) bool {
	return a.Ring == b.Ring && a.From == b.From && sameCerts(a.Certs, b.Certs)
}

// jobFine is what JobOk must say.
func jobFine(p []impl.Proc, j impl.Job) bool {
	return progFine(p) && inRange(j.Ring, 0, ringsIn(p)-1) && sumsFine(p, j.Sums)
}

// replyFine is what ReplyOk must say.
func replyFine(p []impl.Proc, r impl.Reply) bool {
	return progFine(p) && inRange(r.Ring, 0, ringsIn(p)-1) && inRange(r.From, 1, workersMost) && fitFine(p, r.Ring, r.Certs)
}

// numbers is what is written between the first byte and the two last ones.
type numbers []int

func spanNumbers(s impl.Span) numbers {
	if s == none() {
		return numbers{1, 0}
	}
	return numbers{s.Lo, s.Hi}
}

func rowNumbers(r impl.Row) numbers {
	all := append(spanNumbers(r.Out), len(r.Sites))
	for _, s := range r.Sites {
		all = append(all, s.At, s.Fault)
	}
	all = append(all, len(r.Calls))
	for _, c := range r.Calls {
		all = append(all, c.Proc, c.Kind)
	}
	return all
}

func stateNumbers(s impl.State) numbers {
	if !s.Any {
		return numbers{0}
	}
	all := numbers{1}
	for _, span := range spansOf(s) {
		all = append(all, spanNumbers(span)...)
	}
	return all
}

func jobNumbers(j impl.Job) numbers {
	all := numbers{j.Ring, len(j.Sums)}
	for _, s := range j.Sums {
		all = append(all, s.Proc)
		for _, r := range s.Rows {
			all = append(all, rowNumbers(r)...)
		}
	}
	return all
}

func replyNumbers(r impl.Reply) numbers {
	all := numbers{r.Ring, r.From, len(r.Certs)}
	for _, c := range r.Certs {
		all = append(all, c.Proc, c.Kind, len(c.States))
		for _, s := range c.States {
			all = append(all, stateNumbers(s)...)
		}
		all = append(all, rowNumbers(c.Row)...)
	}
	return all
}

// bytes is numbers behind a first byte, with the two last ones.
func (all numbers) bytes(first byte) string {
	text := []byte{first}
	for _, n := range all {
		text = append(text, byte(64+n))
	}
	return resealed(string(text))
}

// resealed is bytes with the two behind them that are right for these.
func resealed(bytes string) string {
	low, high := 0, 0
	for _, b := range []byte(bytes) {
		low += int(b)
		high, low = (high+low/64)%64, low%64
	}
	return bytes + string(rune(32+low)) + string(rune(32+high))
}

// unsealed is bytes without the two last ones.
func unsealed(text string) string {
	return text[:len(text)-2]
}

// numbersIn takes numbers from the front on; it panics, if there are no more.
type numbersIn struct {
	left string
}

func (in *numbersIn) next() int {
	n := int(in.left[0]) - 64
	in.left = in.left[1:]
	return n
}

func (in *numbersIn) many(each func()) {
	for range in.next() {
		each()
	}
}

func (in *numbersIn) span() impl.Span {
	if lo, hi := in.next(), in.next(); lo != 1 || hi != 0 {
		return span(lo, hi)
	}
	return none()
}

func (in *numbersIn) row(proc int) impl.Row {
	r := impl.Row{Out: in.span()}
	in.many(func() { r.Sites = append(r.Sites, site(proc, in.next(), in.next())) })
	in.many(func() { r.Calls = append(r.Calls, impl.Call{Proc: in.next(), Kind: in.next()}) })
	return r
}

func (in *numbersIn) state() impl.State {
	if in.next() == 0 {
		return noState()
	}
	return state([spansAll]impl.Span{in.span(), in.span(), in.span(), in.span()})
}

// jobOfBytes is what JobRead must say: whatever can be made of the bytes, if
// it is ok, and they are those of it.
func jobOfBytes(p []impl.Proc, text string) (j impl.Job, ok bool) {
	defer func() {
		if recover() != nil || !jobFine(p, j) || jobNumbers(j).bytes('J') != text {
			j, ok = impl.Job{}, false
		}
	}()
	in := &numbersIn{unsealed(text)[1:]}
	j.Ring = in.next()
	in.many(func() {
		proc := in.next()
		j.Sums = append(j.Sums, impl.Sum{Proc: proc, Rows: []impl.Row{in.row(proc), in.row(proc), in.row(proc)}})
	})
	return j, true
}

// replyOfBytes is what ReplyRead must say.
func replyOfBytes(p []impl.Proc, text string) (r impl.Reply, ok bool) {
	defer func() {
		if recover() != nil || !replyFine(p, r) || replyNumbers(r).bytes('R') != text {
			r, ok = impl.Reply{}, false
		}
	}()
	in := &numbersIn{unsealed(text)[1:]}
	r.Ring, r.From = in.next(), in.next()
	in.many(func() {
		c := impl.Cert{Proc: in.next(), Kind: in.next()}
		in.many(func() { c.States = append(c.States, in.state()) })
		c.Row = in.row(c.Proc)
		r.Certs = append(r.Certs, c)
	})
	return r, true
}

// jobGiven is a job that is ok, of a program.
type jobGiven struct {
	p []impl.Proc
	j impl.Job
}

func (g jobGiven) text() string { return impl.JobText(g.p, g.j) }

// replyGiven is a reply that is ok, of a program.
type replyGiven struct {
	p []impl.Proc
	r impl.Reply
}

func (g replyGiven) text() string { return impl.ReplyText(g.p, g.r) }

// wireProgs is many ok programs, at the limits, too.
func wireProgs(many int) []([]impl.Proc) {
	return slices.Concat(edgeProgs(), longProgs(), sumsProgs(many))
}

// longProgs has the longest lists that there may be, and the greatest numbers.
func longProgs() []([]impl.Proc) {
	holds := "hold 0; hold 1; hold 2; do 0 1 4; put 0 1; get 0 1; hold 0; hold 1"
	calls := "call 0 0 0; call 0 1 0; call 0 2 0; call 0 3 0; hold 0; hold 1; hold 2; put 2 2"
	return []([]impl.Proc){
		told(holds, holds, holds, holds),
		told(calls, calls, calls, calls),
		told(calls, holds, calls, calls),
		told("hold 0", holds, "back 0", calls),
	}
}

// jobGivens is many: each ring of many programs, by sums of none, of all, and of some.
func jobGivens(many int) []jobGiven {
	from := rand.New(rand.NewSource(60))
	var all []jobGiven
	for _, p := range wireProgs(many) {
		for ring := range ringsIn(p) {
			for _, sums := range [][]impl.Sum{
				nil, aheadSums(p, ring), allFine(p), hastySums(p), fullSums(p), allSums(from, p), someSums(from, p),
			} {
				all = append(all, jobGiven{p, impl.Job{Ring: ring, Sums: sums}})
			}
		}
	}
	return all
}

// replyGivens is many: each ring of many programs, by certs of the beginning,
// of the end, in a hurry or not, that say all, and any others.
func replyGivens(many int) []replyGiven {
	from := rand.New(rand.NewSource(61))
	var all []replyGiven
	for _, p := range wireProgs(many) {
		for ring := range ringsIn(p) {
			g := ringGiven{p, aheadSums(p, ring), ring}
			for k, certs := range [][]impl.Cert{
				g.start(), g.round(g.start()), g.least(), g.wide(), fullCerts(p, ring), g.someCerts(from), moreCerts(from, p, g.least()),
			} {
				all = append(all, replyGiven{p, impl.Reply{Ring: ring, From: 1 + (k+ring)%workersMost, Certs: certs}})
			}
		}
	}
	return all
}
