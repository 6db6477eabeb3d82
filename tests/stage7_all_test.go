package tests

import (
	"math/rand"
	"slices"
	"testing"

	"loop.example/gauger/impl"
)

func TestP62SumsOfAllPrograms(t *testing.T) {
	t.Parallel()
	out, sites, calls := 0, 0, 0
	for _, p := range sumsProgs(300) {
		got := impl.SumsAll(p)
		if want := allFine(p); !sameSums(got, want) {
			t.Fatalf("of %v SumsAll is\n%+v, not\n%+v", p, got, want)
		}
		for _, s := range got {
			for _, r := range s.Rows {
				out += truth(r.Out.Any)
				sites += len(r.Sites)
				calls += len(r.Calls)
			}
		}
	}
	if min(out, sites, calls) < 1000 {
		t.Errorf("only %d give back, %d sites, %d calls", out, sites, calls)
	}
}

func TestP62SumsAreOkAndOfEachProcedure(t *testing.T) {
	t.Parallel()
	for _, p := range sumsProgs(300) {
		got := impl.SumsAll(p)
		if !impl.SumsOk(p, got) || !sumsFine(p, got) || len(got) != len(p) {
			t.Fatalf("of %v SumsAll, %+v, are not ok", p, got)
		}
		for proc, s := range got {
			if s.Proc != proc || len(s.Rows) != rowsAll {
				t.Fatalf("of %v SumsAll has at %d %+v", p, proc, s)
			}
		}
	}
}

// By all sums, those of rings behind too, each ring is reckoned as it was.
func TestP62EachRingIsTheLeastByThem(t *testing.T) {
	t.Parallel()
	rings := 0
	for _, p := range sumsProgs(300) {
		all := impl.SumsAll(p)
		for ring := range ringsIn(p) {
			least := impl.RingLeast(p, all, ring)
			own := slices.DeleteFunc(copySums(all), func(s impl.Sum) bool { return !slices.Contains(ringFine(p, ring), s.Proc) })
			if got := impl.CertSums(p, ring, least); !sameSums(got, own) {
				t.Fatalf("of %v ring %d has by SumsAll %+v, and in it %+v", p, ring, got, own)
			}
			if !impl.RingCheck(p, all, ring, least) {
				t.Fatalf("of %v ring %d does not hold by SumsAll %+v", p, ring, all)
			}
			rings += truth(ring > 0)
		}
	}
	if rings < 500 {
		t.Errorf("only %d rings have one ahead", rings)
	}
}

// sumOf is a sum by its rows.
func sumOf(proc int, rows ...impl.Row) impl.Sum {
	return impl.Sum{Proc: proc, Rows: rows}
}

// calling is calls of a procedure with kinds.
func calling(proc int, kinds ...int) []impl.Call {
	var calls []impl.Call
	for _, kind := range kinds {
		calls = append(calls, impl.Call{Proc: proc, Kind: kind})
	}
	return calls
}

func site(proc int, at int, fault int) impl.Site {
	return impl.Site{Proc: proc, At: at, Fault: fault}
}

func sitesAt(sites ...impl.Site) []impl.Site {
	return sites
}

// gives is a row that gives something back, and says nothing else.
func gives(lo int, hi int) impl.Row {
	return impl.Row{Out: span(lo, hi)}
}

// sumsCase is a program, and its SumsAll.
type sumsCase struct {
	name string
	p    []impl.Proc
	want []impl.Sum
}

func sumsOfOne() []sumsCase {
	held := sitesAt(site(0, 0, 3))
	return []sumsCase{
		{"no instruction", told(""), []impl.Sum{sumOf(0, gives(0, 0), gives(0, 0), gives(0, 0))}},
		{"its word", told("back 0"), []impl.Sum{sumOf(0, gives(-16, -1), gives(0, 0), gives(1, 15))}},
		{"round and round", told("go 0"), []impl.Sum{sumOf(0, impl.Row{}, impl.Row{}, impl.Row{})}},
		{"a hold", told("hold 0; back 0"), []impl.Sum{sumOf(0, gives(-16, -1), impl.Row{Sites: held}, gives(1, 15))}},
		{"itself, without an end", told("call 0 0 0"), []impl.Sum{sumOf(0,
			impl.Row{Calls: calling(0, 0)}, impl.Row{Calls: calling(0, 1)}, impl.Row{Calls: calling(0, 2)},
		)}},
		{"itself, with one less, down to 0", told("set 1 1; less 0 1 4; do 0 1 2; call 0 0 0; back 0"), []impl.Sum{sumOf(0,
			gives(-16, -1), gives(0, 0), impl.Row{Out: span(0, 0), Calls: calling(0, 1, 2)},
		)}},
	}
}

func sumsOfSeveral() []sumsCase {
	nought := []impl.Row{gives(0, 0), gives(0, 0), gives(0, 0)}
	each := func(r impl.Row) []impl.Row { return []impl.Row{r, r, r} }
	return []sumsCase{
		{"four with no instruction", told("", "", "", ""), []impl.Sum{sumOf(0, nought...), sumOf(1, nought...), sumOf(2, nought...), sumOf(3, nought...)}},
		{"one ahead that is behind by number", told("set 1 -7; call 2 1 1; back 2", "set 1 3; do 0 1 1; back 0"), []impl.Sum{
			// Of words below 0 together: -16..-1 and 3 more, not of -7 alone.
			sumOf(0, each(impl.Row{Out: span(-13, 2), Calls: calling(1, 0)})...),
			sumOf(1, gives(-13, 2), gives(3, 3), gives(-16, 15)),
		}},
		{"one ahead that is ahead by number, too", told("back 0", "set 0 0; call 1 0 0; do 1 1 4"), []impl.Sum{
			sumOf(0, gives(-16, -1), gives(0, 0), gives(1, 15)),
			sumOf(1, each(impl.Row{Sites: sitesAt(site(1, 2, 1)), Calls: calling(0, 1)})...),
		}},
		{"what is called as it is called", told("call 1 1 0; hold 1; back 1", "set 2 5; same 0 1 4; set 2 0; back 2; back 2"), []impl.Sum{
			sumOf(0,
				impl.Row{Sites: sitesAt(site(0, 1, 3)), Calls: calling(1, 0)},
				impl.Row{Out: span(5, 5), Calls: calling(1, 1)},
				impl.Row{Sites: sitesAt(site(0, 1, 3)), Calls: calling(1, 2)},
			),
			sumOf(1, gives(0, 0), gives(5, 5), gives(0, 0)),
		}},
		{"two that call each other, and one that calls them", evenProg(), []impl.Sum{
			sumOf(0, each(impl.Row{Out: span(1, 3), Sites: sitesAt(site(0, 2, 3)), Calls: calling(1, 1, 2)})...),
			sumOf(1, impl.Row{Out: span(0, 3), Calls: calling(2, 0, 1, 2)}, gives(0, 0), impl.Row{Out: span(0, 3), Calls: calling(2, 1, 2)}),
			sumOf(2, impl.Row{Out: span(0, 3), Calls: calling(1, 0, 1, 2)}, gives(3, 3), impl.Row{Out: span(0, 3), Calls: calling(1, 1, 2)}),
		}},
		{"down a chain, and by hand up again", told("call 0 2 0; back 0", "set 0 9; back 0", "call 0 3 0; back 0", "call 0 1 0; back 0"), []impl.Sum{
			sumOf(0, impl.Row{Out: span(9, 9), Calls: calling(2, 0)}, impl.Row{Out: span(9, 9), Calls: calling(2, 1)}, impl.Row{Out: span(9, 9), Calls: calling(2, 2)}),
			sumOf(1, each(gives(9, 9))...),
			sumOf(2, impl.Row{Out: span(9, 9), Calls: calling(3, 0)}, impl.Row{Out: span(9, 9), Calls: calling(3, 1)}, impl.Row{Out: span(9, 9), Calls: calling(3, 2)}),
			sumOf(3, impl.Row{Out: span(9, 9), Calls: calling(1, 0)}, impl.Row{Out: span(9, 9), Calls: calling(1, 1)}, impl.Row{Out: span(9, 9), Calls: calling(1, 2)}),
		}},
	}
}

func TestP62SumsByHand(t *testing.T) {
	for _, c := range append(sumsOfOne(), sumsOfSeveral()...) {
		if got := impl.SumsAll(c.p); !sameSums(got, c.want) {
			t.Errorf("%s: of %v SumsAll is\n%+v, not\n%+v", c.name, c.p, got, c.want)
		}
	}
}

func TestSumsOfAProgramThatIsNotOkAreNothing(t *testing.T) {
	for _, p := range append(badProgs(), prog(code(ins(impl.InsCall, 0, 1, 0)))) {
		if got := impl.SumsAll(p); len(got) != 0 {
			t.Errorf("of %v SumsAll is %+v", p, got)
		}
	}
}

// withOneMore is programs, each with one procedure more behind, that nobody
// else calls; that one calls whom it likes.
func withOneMore(from *rand.Rand, p []impl.Proc) []([]impl.Proc) {
	all := len(p) + 1
	size := 1 + from.Intn(codeMost)
	var lively []impl.Ins
	for at := range size {
		lively = append(lively, livelyIns(from, all, size, at))
	}
	// Calls of all the others, and of itself; the first of these is of procedure 0 with other words than 0.
	calls := code(ins(impl.InsSet, 0, 1-2*from.Intn(2), 0))
	for to := range all {
		calls = append(calls, ins(impl.InsCall, 1, to, 0))
	}
	hold := code(ins(impl.InsHold, 1, 0, 0))
	var more []([]impl.Proc)
	for _, added := range [][]impl.Ins{nil, hold, calls, lively} {
		more = append(more, append(copyProg(p), impl.Proc{Code: added}))
	}
	return more
}

func TestP70OneProcedureMoreThatNobodyCalls(t *testing.T) {
	t.Parallel()
	from := rand.New(rand.NewSource(52))
	tried, told := 0, 0
	for _, p := range sumsProgs(300) {
		if len(p) == procsMost {
			continue
		}
		sums := impl.SumsAll(p)
		sites, _ := impl.VerdictOf(p, sums)
		for _, more := range withOneMore(from, p) {
			got := impl.SumsAll(more)
			if len(got) != len(p)+1 || !sameSums(got[:len(p)], sums) {
				t.Fatalf("of %v SumsAll is %+v, of %v %+v", p, sums, more, got)
			}
			if now, ok := impl.VerdictOf(more, got); !ok || !slices.Equal(now, sites) {
				t.Fatalf("of %v VerdictOf is %v, of %v %v, %t", p, sites, more, now, ok)
			}
			// Without the sum of the one more, too.
			if now, ok := impl.VerdictOf(more, got[:len(p)]); !ok || !slices.Equal(now, sites) {
				t.Fatalf("of %v VerdictOf is %v, of %v %v, %t", p, sites, more, now, ok)
			}
			tried++
			told += len(sites)
		}
	}
	if tried < 1000 || told < 200 {
		t.Errorf("only %d, with %d sites", tried, told)
	}
}

// The one more calls the first procedure with words with which it would be
// wrong; as nobody calls the one more, that is not told.
func TestP70OneProcedureMoreByHand(t *testing.T) {
	p := told("same 0 1 2; hold 2; back 0")
	q := told("same 0 1 2; hold 2; back 0", "set 1 4; call 0 0 1; hold 0")
	sums, more := impl.SumsAll(p), impl.SumsAll(q)
	if len(more) != 2 || !sameSums(more[:1], sums) || len(more[1].Rows[0].Calls) != 1 {
		t.Fatalf("SumsAll is %+v, with one more %+v", sums, more)
	}
	for _, c := range []struct {
		p    []impl.Proc
		sums []impl.Sum
	}{{p, sums}, {q, more}} {
		if got, ok := impl.VerdictOf(c.p, c.sums); !ok || len(got) != 0 {
			t.Errorf("of %v VerdictOf is %v, %t", c.p, got, ok)
		}
	}
}
