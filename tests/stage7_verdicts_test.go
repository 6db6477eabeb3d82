package tests

import (
	"math/rand"
	"slices"
	"testing"

	"loop.example/gauger/impl"
)

// checkVerdict holds VerdictOf against what it must say.
func checkVerdict(t *testing.T, name string, p []impl.Proc, sums []impl.Sum, want []impl.Site, known bool) {
	t.Helper()
	got, ok := impl.VerdictOf(p, sums)
	if ok != known || !slices.Equal(got, want) {
		t.Fatalf("%s: of %v, by %+v, VerdictOf is %v, %t, not %v, %t", name, p, sums, got, ok, want, known)
	}
}

func TestP67VerdictsByAllSums(t *testing.T) {
	t.Parallel()
	told, silent := 0, 0
	for _, p := range sumsProgs(400) {
		for _, sums := range [][]impl.Sum{impl.SumsAll(p), hastySums(p), fullSums(p)} {
			want, known := verdictFine(p, sums)
			checkVerdict(t, "sums of all", p, sums, want, known)
			all := 0
			for _, s := range sums {
				for _, r := range s.Rows {
					all += len(r.Sites)
				}
			}
			told += len(want)
			silent += truth(len(want) == 0 && all > 0)
		}
	}
	if told < 1000 || silent < 100 {
		t.Errorf("only %d sites, and %d that are silent though there are some", told, silent)
	}
}

func TestP67VerdictsByAnySums(t *testing.T) {
	t.Parallel()
	from := rand.New(rand.NewSource(53))
	var tally [2]int
	for _, p := range sumsProgs(400) {
		for range 12 {
			sums := sparseSums(from, p)
			want, known := verdictFine(p, sums)
			checkVerdict(t, "any sums", p, sums, want, known)
			tally[truth(known)]++
		}
	}
	if min(tally[0], tally[1]) < 1000 {
		t.Errorf("of %d it is not known, of %d it is", tally[0], tally[1])
	}
}

// sparseSums is ok sums, few of whose rows call many; now and then one is not there.
func sparseSums(from *rand.Rand, p []impl.Proc) []impl.Sum {
	var sums []impl.Sum
	for proc := range p {
		s := someSum(from, p, proc)
		for kind := range s.Rows {
			if r := &s.Rows[kind]; len(r.Calls) > 0 && from.Intn(3) > 0 {
				at := from.Intn(len(r.Calls))
				r.Calls = r.Calls[at : at+1]
			}
		}
		if from.Intn(6) > 0 {
			sums = append(sums, s)
		}
	}
	return sums
}

// verdictCase is a program, and what VerdictOf its SumsAll is.
type verdictCase struct {
	name string
	p    []impl.Proc
	want []impl.Site
}

func checkVerdicts(t *testing.T, cases []verdictCase) {
	t.Helper()
	for _, c := range cases {
		checkVerdict(t, c.name, c.p, impl.SumsAll(c.p), c.want, true)
	}
}

func TestP67VerdictsOfOneProcedure(t *testing.T) {
	checkVerdicts(t, []verdictCase{
		{"no instruction", told(""), nil},
		{"nothing is wrong", told("set 0 1; hold 0; back 0"), nil},
		{"it is called with 0", told("hold 0"), sitesAt(site(0, 0, 3))},
		{"it is not called with others", told("same 0 1 2; hold 1; back 0"), nil},
		{"each fault", told("do 0 1 4; set 0 2; ask 1 3; do 0 1 4; hold 0; put 1 0; set 1 4; get 0 1"), sitesAt(site(0, 0, 1))},
		{"what one comes by, and no more", told("ask 1 3; set 0 1; do 0 1 4; put 1 0; hold 0; get 0 1; set 2 8; get 1 2"),
			sitesAt(site(0, 2, 1), site(0, 3, 2), site(0, 4, 3), site(0, 7, 2))},
		{"behind a jump backwards", told("go 4; hold 1; put 0 0; back 0; ask 1 1; set 0 -1; less 1 0 3; go 1"),
			sitesAt(site(0, 1, 3), site(0, 2, 2))},
		{"at a place behind what nothing comes of", told("hold 0; hold 0; do 1 1 4"), sitesAt(site(0, 0, 3))},
	})
}

func TestP67VerdictsOfProceduresThatCallThemselvesOrEachOther(t *testing.T) {
	checkVerdicts(t, []verdictCase{
		{"itself, without an end", told("call 0 0 0; hold 1"), nil},
		{"itself, ahead of what is wrong", told("call 0 0 0; hold 0; back 0"), nil},
		{"itself with other words, by which it is wrong", told("same 0 1 3; put 0 1; back 0; set 2 7; call 0 0 2"), sitesAt(site(0, 1, 2))},
		{"itself with words of one kind, and not of the other", told("less 0 1 4; same 0 1 5; hold 1; back 0; do 1 1 4; set 2 -3; call 0 0 2"),
			sitesAt(site(0, 4, 1))},
		{"each other, and both are wrong", told("hold 2; call 1 1 0", "hold 0; call 1 0 0"), sitesAt(site(0, 0, 3))},
		{"each other, by words that grow", told("set 1 1; do 0 1 1; call 2 1 0; back 2", "set 1 3; less 1 0 4; call 2 0 0; back 2; do 2 2 4; back 2"),
			sitesAt(site(1, 4, 1))},
		{"procedures that all come to each other", told("call 1 1 0; hold 1", "call 1 2 0; ask 2 1; hold 2; back 1", "same 0 1 2; call 1 0 0; back 2"),
			sitesAt(site(0, 1, 3), site(1, 2, 3))},
	})
}

func TestP67ProceduresThatNobodyCalls(t *testing.T) {
	checkVerdicts(t, []verdictCase{
		{"by nobody", told("back 0", "hold 1"), nil},
		{"by itself alone", told("back 0", "hold 1; call 0 1 0"), nil},
		{"by one that nobody calls", told("", "ask 1 1; hold 1; call 0 2 0; call 0 0 1", "hold 1", "call 0 1 0; call 0 2 0; hold 1"), nil},
		{"where one does not come", told("back 0; call 0 1 0", "hold 1"), nil},
		{"behind what is always wrong", told("hold 0; call 0 1 0", "hold 1"), sitesAt(site(0, 0, 3))},
		{"behind a call that never comes back", told("call 0 1 0; call 0 2 0; hold 1", "go 0", "hold 1"), nil},
		{"between those that are called", told("call 0 2 0; back 1", "hold 1", "hold 1"), sitesAt(site(2, 0, 3))},
		{"only by those, but the first procedure is called", told("hold 1", "call 0 0 0; hold 1"), sitesAt(site(0, 0, 3))},
	})
}

// rowsProg comes to another place by each kind of words with which procedure 1
// is called; by 0 nothing is wrong there.
func rowsProg(arg string) []impl.Proc {
	return told("set 1 "+arg+"; call 0 1 1; back 0", "less 0 1 4; same 0 1 6; hold 1; back 0; do 0 1 4; back 0; put 2 1; get 1 0")
}

func TestP67KindsThatAreCalledAlone(t *testing.T) {
	division, held, got := site(1, 4, 1), site(1, 2, 3), site(1, 7, 2)
	sums := impl.SumsAll(rowsProg("0"))
	if !slices.Equal(sums[1].Rows[0].Sites, sitesAt(division)) || len(sums[1].Rows[1].Sites) != 0 || !slices.Equal(sums[1].Rows[2].Sites, sitesAt(held)) {
		t.Fatalf("SumsAll is %+v", sums)
	}
	checkVerdicts(t, []verdictCase{
		{"below 0", rowsProg("-2"), sitesAt(division)},
		{"0, and nothing is wrong", rowsProg("0"), nil},
		{"above 0", rowsProg("2"), sitesAt(held)},
		{"0 or above", told("ask 1 1; call 0 1 1; back 0", "less 0 1 3; hold 0; back 0; do 0 1 4"), sitesAt(site(1, 1, 3))},
		{"by the kind alone, of which some words are wrong", told("set 1 2; call 0 1 1; back 0", "put 0 1; back 0"), sitesAt(site(1, 0, 2))},
	})
	// By hand: row by row with what it alone has.
	p := rowsProg("0")
	all := []impl.Site{division, held, got}
	for some := range 8 {
		var kinds []int
		var want []impl.Site
		for kind := range rowsAll {
			if some&(1<<kind) != 0 {
				kinds = append(kinds, kind)
				want = append(want, all[kind])
			}
		}
		slices.SortFunc(want, func(a impl.Site, b impl.Site) int { return a.At - b.At })
		sums := []impl.Sum{
			sumOf(0, impl.Row{Calls: calling(1, 0, 1, 2)}, impl.Row{Calls: calling(1, kinds...)}, impl.Row{Calls: calling(1, 0, 1, 2)}),
			sumOf(1, impl.Row{Sites: all[:1]}, impl.Row{Sites: all[1:2]}, impl.Row{Sites: all[2:]}),
		}
		checkVerdict(t, "kinds by hand", p, sums, want, true)
	}
}

// The first procedure counts as called with 0, though nobody calls it; called
// from elsewhere, or by itself, with others, too.
func TestP67TheFirstProcedureIsCalledWithNought(t *testing.T) {
	code := "less 0 1 4; same 0 1 6; hold 1; back 0; do 0 1 4; back 0; get 2 0; "
	p := told(code+"call 0 1 0", "set 1 1; call 0 0 1; set 1 -1; call 0 0 1")
	rows := []impl.Row{
		{Sites: sitesAt(site(0, 4, 1))},
		{Sites: sitesAt(site(0, 6, 2)), Calls: calling(1, 1)},
		{Sites: sitesAt(site(0, 2, 3))},
	}
	by := func(kinds ...int) []impl.Sum {
		return []impl.Sum{sumOf(0, rows...), sumOf(1, impl.Row{Calls: calling(0, 0, 2)}, impl.Row{Calls: calling(0, kinds...)}, impl.Row{Calls: calling(0, 0, 2)})}
	}
	checkVerdict(t, "from nowhere", p, by(), sitesAt(site(0, 6, 2)), true)
	checkVerdict(t, "with 0 once more", p, by(1), sitesAt(site(0, 6, 2)), true)
	checkVerdict(t, "with words below 0, too", p, by(0), sitesAt(site(0, 4, 1), site(0, 6, 2)), true)
	checkVerdict(t, "with words above 0, too", p, by(2), sitesAt(site(0, 2, 3), site(0, 6, 2)), true)
	checkVerdict(t, "with all", p, by(0, 1, 2), sitesAt(site(0, 2, 3), site(0, 4, 1), site(0, 6, 2)), true)
	checkVerdicts(t, []verdictCase{
		{"with nothing else", told("same 0 1 2; hold 1; back 0"), nil},
		{"with 1 by another one", told("same 0 1 3; hold 1; back 0; call 0 1 0", "set 1 1; call 0 0 1; back 0"), sitesAt(site(0, 1, 3))},
		{"with 1 by itself", told("same 0 1 3; hold 1; back 0; set 1 1; call 0 0 1"), sitesAt(site(0, 1, 3))},
		{"with 1 by one that nobody calls", told("same 0 1 2; hold 1; back 0", "set 1 1; call 0 0 1; back 0"), nil},
	})
}

func TestP67EachSiteOnceAndAscending(t *testing.T) {
	held := "hold 1; back 0"
	checkVerdicts(t, []verdictCase{
		{"in two rows", told("call 1 1 0; set 2 1; call 1 1 2; back 0", "ask 1 1; hold 1; back 0"), sitesAt(site(1, 1, 3))},
		{"in one row", told("call 1 1 0", held), sitesAt(site(1, 0, 3))},
		{"in two rows, the first one never coming back", told("ask 2 1; call 1 1 2", held), sitesAt(site(1, 0, 3))},
		{"in three rows", told("ask 2 2; set 1 1; do 2 1 2; call 1 1 2", held), sitesAt(site(1, 0, 3))},
		{"in rows of the first procedure", told("ask 2 2; set 1 1; do 2 1 2; hold 2; same 2 1 7; call 0 0 2; back 0; hold 2"), sitesAt(site(0, 3, 3))},
		{"several procedures, called downwards", told("ask 2 1; call 1 3 0; hold 2", "ask 1 1; hold 1", "ask 1 1; do 1 1 4; call 0 1 0", "ask 2 1; hold 2; call 0 2 0"),
			sitesAt(site(0, 2, 3), site(1, 1, 3), site(2, 1, 1), site(3, 1, 3))},
		{"several sites of several procedures", told("call 1 2 0; ask 1 3; hold 1; put 1 0; get 2 1", "put 0 0; get 0 0; ask 2 3; put 2 0", "ask 1 2; do 0 1 4; ask 1 1; hold 1; call 0 1 0"),
			sitesAt(site(0, 2, 3), site(0, 3, 2), site(1, 3, 2), site(2, 1, 1), site(2, 3, 3))},
	})
}

// By hand: in the order in which they are called sites are neither ascending
// by Proc, nor by At.
func TestP67EachSiteOnceAndAscendingByHand(t *testing.T) {
	p := fourTellers()
	row := func(proc int, ats []int, calls ...impl.Call) impl.Row {
		r := impl.Row{Calls: calls}
		for _, at := range ats {
			r.Sites = append(r.Sites, site(proc, at, 3))
		}
		return r
	}
	call := func(proc int, kind int) impl.Call { return impl.Call{Proc: proc, Kind: kind} }
	sums := []impl.Sum{
		sumOf(0, row(0, []int{0, 1, 2}), row(0, []int{1, 3}, call(2, 2), call(3, 0)), row(0, []int{0, 1})),
		sumOf(1, row(1, []int{3}, call(0, 2)), row(1, []int{1, 2}), row(1, nil, call(2, 0))),
		sumOf(2, row(2, []int{2}, call(1, 0)), row(2, []int{0, 3}), row(2, []int{2, 3}, call(2, 2))),
		sumOf(3, row(3, []int{0, 3}, call(1, 2), call(3, 2)), row(3, []int{1}), row(3, []int{0, 2, 3}, call(3, 0))),
	}
	var want []impl.Site
	for proc, ats := range [][]int{{0, 1, 3}, {3}, {2, 3}, {0, 2, 3}} {
		want = append(want, row(proc, ats).Sites...)
	}
	checkVerdict(t, "by hand", p, sums, want, true)
}

// fourTellers has holds at its first places, and calls of all behind.
func fourTellers() []impl.Proc {
	each := "hold 0; hold 0; hold 0; hold 0; call 0 0 0; call 0 1 0; call 0 2 0; call 0 3 0"
	return told(each, each, each, each)
}

// What lacks a sum, and what that changes.
func TestP67SumsThatLackSome(t *testing.T) {
	p := fourTellers()
	call := func(proc int, kind int) []impl.Call { return calling(proc, kind) }
	// From procedure 0 to 2, then to 1; 3 is not called, though one that is not called calls it.
	chain := []impl.Sum{
		sumOf(0, impl.Row{Calls: call(3, 1)}, impl.Row{Calls: call(2, 2), Sites: sitesAt(site(0, 0, 3))}, impl.Row{Calls: call(3, 1)}),
		sumOf(1, impl.Row{Sites: sitesAt(site(1, 2, 3))}, impl.Row{Calls: call(3, 0)}, impl.Row{Calls: call(3, 2)}),
		sumOf(2, impl.Row{Calls: call(3, 0)}, impl.Row{Calls: call(3, 0)}, impl.Row{Calls: call(1, 0)}),
		sumOf(3, impl.Row{Sites: sitesAt(site(3, 0, 3))}, impl.Row{}, impl.Row{Calls: call(0, 2)}),
	}
	want := sitesAt(site(0, 0, 3), site(1, 2, 3))
	for some := range 16 {
		var sums []impl.Sum
		for proc := range chain {
			if some&(1<<proc) != 0 {
				sums = append(sums, chain[proc])
			}
		}
		if some&7 == 7 {
			checkVerdict(t, "all that are called", p, sums, want, true)
		} else {
			checkVerdict(t, "not all that are called", p, sums, nil, false)
		}
	}
}

func TestP67SumsThatLackSomeOfAllPrograms(t *testing.T) {
	t.Parallel()
	var tally [2]int
	for _, p := range sumsProgs(300) {
		all := impl.SumsAll(p)
		want, _ := impl.VerdictOf(p, all)
		called := calledBy(all)
		for proc := range p {
			lacks := slices.Delete(copySums(all), proc, proc+1)
			if called[proc] == [rowsAll]bool{} {
				checkVerdict(t, "one less that is not called", p, lacks, want, true)
				tally[0]++
			} else {
				checkVerdict(t, "one less that is called", p, lacks, nil, false)
				tally[1]++
			}
		}
		checkVerdict(t, "no sums", p, nil, nil, false)
	}
	if min(tally[0], tally[1]) < 200 {
		t.Errorf("only %v", tally)
	}
}

// eachMore tells of sums, of which each one has one site, or one call, more.
func eachMore(p []impl.Proc, sums []impl.Sum, tell func(more []impl.Sum)) {
	for at, s := range sums {
		for kind, r := range s.Rows {
			for _, x := range sitesOf(p, s.Proc) {
				if !slices.Contains(r.Sites, x) {
					more := copySums(sums)
					more[at].Rows[kind].Sites = among(sitesOf(p, s.Proc), append(slices.Clone(r.Sites), x))
					tell(more)
				}
			}
			for _, x := range callsAll(p, s.Proc) {
				if !slices.Contains(r.Calls, x) {
					more := copySums(sums)
					more[at].Rows[kind].Calls = among(callsAll(p, s.Proc), append(slices.Clone(r.Calls), x))
					tell(more)
				}
			}
		}
	}
}

func TestP68OneSiteOrCallMore(t *testing.T) {
	t.Parallel()
	tried, grown := 0, 0
	for _, p := range sumsProgs(200) {
		sums := impl.SumsAll(p)
		was, _ := impl.VerdictOf(p, sums)
		eachMore(p, sums, func(more []impl.Sum) {
			got, ok := impl.VerdictOf(p, more)
			if !ok || !allIn(was, got) {
				t.Fatalf("of %v, by %+v, VerdictOf is %v, by %+v %v, %t", p, sums, was, more, got, ok)
			}
			want, _ := verdictFine(p, more)
			checkVerdict(t, "one more", p, more, want, true)
			tried++
			grown += truth(len(got) > len(was))
		})
	}
	if tried < 1000 || grown < 500 {
		t.Errorf("only %d, of which %d tell more", tried, grown)
	}
}

// Of sums of those that are called alone a call more may be of another one:
// then it is not known.
func TestP68OneSiteOrCallMoreByFewerSums(t *testing.T) {
	t.Parallel()
	var tally [2]int
	for _, p := range sumsProgs(300) {
		sums := impl.SumsAll(p)
		called := calledBy(sums)
		sums = slices.DeleteFunc(sums, func(s impl.Sum) bool { return called[s.Proc] == [rowsAll]bool{} })
		was, _ := impl.VerdictOf(p, sums)
		eachMore(p, sums, func(more []impl.Sum) {
			want, known := verdictFine(p, more)
			checkVerdict(t, "one more", p, more, want, known)
			if tally[truth(known)]++; known && !allIn(was, want) {
				t.Fatalf("of %v, by %+v, VerdictOf is %v, by %+v %v", p, sums, was, more, want)
			}
		})
	}
	if tally[0] < 100 || tally[1] < 1000 {
		t.Errorf("only %v", tally)
	}
}

func TestP68OneSiteOrCallMoreByHand(t *testing.T) {
	p := told("ask 0 1; hold 0; call 1 1 0; back 1", "hold 0; do 0 1 4; back 0")
	rows := func(calls []impl.Call, sites []impl.Site) []impl.Sum {
		return []impl.Sum{
			sumOf(0, impl.Row{}, impl.Row{Calls: calls}, impl.Row{}),
			sumOf(1, impl.Row{}, impl.Row{Sites: sitesAt(site(1, 0, 3))}, impl.Row{Sites: sites}),
		}
	}
	one := sitesAt(site(1, 1, 1))
	checkVerdict(t, "as it is", p, rows(calling(1, 2), one), one, true)
	checkVerdict(t, "a site more", p, rows(calling(1, 2), sitesAt(site(1, 0, 3), site(1, 1, 1))), sitesAt(site(1, 0, 3), site(1, 1, 1)), true)
	checkVerdict(t, "a call more", p, rows(calling(1, 1, 2), one), sitesAt(site(1, 0, 3), site(1, 1, 1)), true)
	checkVerdict(t, "a call more, of what tells nothing", p, rows(calling(1, 0, 2), one), one, true)
	checkVerdict(t, "no call", p, rows(nil, one), nil, true)
}

func TestP69SitesOfThoseToWhichTheFirstComesAlone(t *testing.T) {
	t.Parallel()
	others, behind := 0, 0
	for _, p := range sumsProgs(600) {
		sums := impl.SumsAll(p)
		comes := append(impl.ProgFrom(p, 0), 0)
		got, ok := impl.VerdictOf(p, sums)
		if !ok {
			t.Fatalf("of %v, by %+v, it is not known", p, sums)
		}
		for _, s := range got {
			if !slices.Contains(comes, s.Proc) || !slices.Contains(sitesOf(p, s.Proc), s) {
				t.Fatalf("of %v, where the first one comes to %v, VerdictOf is %v", p, comes, got)
			}
			behind += truth(s.Proc > 0)
		}
		for _, s := range sums {
			said := slices.ContainsFunc(s.Rows, func(r impl.Row) bool { return len(r.Sites) > 0 })
			others += truth(said && !slices.Contains(comes, s.Proc))
		}
	}
	if min(others, behind) < 100 {
		t.Errorf("only %d others have sites, and %d sites are of procedures behind the first", others, behind)
	}
}

func TestP69ByHand(t *testing.T) {
	held := "hold 1; back 0"
	for _, c := range []struct {
		first string
		want  []impl.Site
	}{
		{"back 0", nil},
		{"call 0 1 0; back 0", sitesAt(site(1, 0, 3))},
		{"call 0 2 0; back 0", sitesAt(site(3, 0, 3))},
		{"call 0 3 0; back 0", sitesAt(site(3, 0, 3))},
		{"ask 1 1; same 1 2 3; call 0 1 0; call 0 3 0", sitesAt(site(1, 0, 3), site(3, 0, 3))},
	} {
		p := told(c.first, held, "call 0 3 0; hold 1", held)
		checkVerdict(t, c.first, p, impl.SumsAll(p), c.want, true)
	}
}
