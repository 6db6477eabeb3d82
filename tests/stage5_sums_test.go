package tests

import (
	"math"
	"math/rand"
	"slices"
	"strconv"
	"testing"

	"loop.example/gauger/impl"
)

func TestSumsOfNoOneAndAllProcedures(t *testing.T) {
	from := rand.New(rand.NewSource(10))
	for _, p := range append(someProgs(400), ringsProg()) {
		all := allSums(from, p)
		if !impl.SumsOk(p, nil) || !impl.SumsOk(p, []impl.Sum{}) || !impl.SumsOk(p, all) || !impl.SumsOk(p, fullSums(p)) {
			t.Fatalf("of %v no sums, or %+v, or full ones are not ok", p, all)
		}
		for proc, s := range all {
			if !impl.SumOk(p, s) || !impl.SumOk(p, fullSum(p, proc)) || !impl.SumsOk(p, all[proc:proc+1]) {
				t.Fatalf("of %v %+v alone is not ok", p, s)
			}
			empty := impl.Sum{Proc: proc, Rows: make([]impl.Row, 3)}
			if !impl.SumOk(p, empty) || !impl.SumsOk(p, []impl.Sum{empty}) {
				t.Fatalf("of %v a sum that says nothing of %d is not ok", p, proc)
			}
		}
	}
}

// sumChange is what is done to a sum, that is ok no more.
type sumChange struct {
	name string
	do   func(s *impl.Sum)
}

// siteChanges break the sites of a row of procedure 0 or 1 of ringsProg.
func siteChanges(row int) []sumChange {
	sites := func(change func(list []impl.Site) []impl.Site) func(s *impl.Sum) {
		return func(s *impl.Sum) { s.Rows[row].Sites = change(s.Rows[row].Sites) }
	}
	all := []sumChange{
		{"sites out of order", sites(func(list []impl.Site) []impl.Site { list[0], list[1] = list[1], list[0]; return list })},
		{"the last sites out of order", sites(func(list []impl.Site) []impl.Site { slices.Reverse(list[len(list)-2:]); return list })},
		{"a site twice", sites(func(list []impl.Site) []impl.Site { return append(list[:1], list...) })},
		{"the last site twice", sites(func(list []impl.Site) []impl.Site { return append(list, list[len(list)-1]) })},
		{"a site of another procedure alone", sites(func(list []impl.Site) []impl.Site { list[0].Proc ^= 1; return list[:1] })},
		{"a site of another procedure", sites(func(list []impl.Site) []impl.Site { list[0].Proc ^= 1; return list })},
		{"nothing as a site", sites(func(list []impl.Site) []impl.Site { return []impl.Site{{}} })},
	}
	for _, n := range []int{math.MinInt, -1, 2, 3, 4, math.MaxInt} {
		all = append(all, sumChange{"a site's Proc " + strconv.Itoa(n), sites(func(list []impl.Site) []impl.Site { list[0].Proc = n; return list })})
	}
	for _, n := range []int{math.MinInt, -1, 0, 1, 2, 4, math.MaxInt} {
		// The first one is a hold.
		all = append(all, sumChange{"a site's Fault " + strconv.Itoa(n), sites(func(list []impl.Site) []impl.Site { list[0].Fault = n; return list })})
	}
	for _, at := range []int{math.MinInt, -1, 1, 8, 9, math.MaxInt} {
		for fault := range 5 {
			name := "a site at " + strconv.Itoa(at) + ", Fault " + strconv.Itoa(fault)
			all = append(all, sumChange{name, sites(func(list []impl.Site) []impl.Site {
				return []impl.Site{{Proc: list[0].Proc, At: at, Fault: fault}}
			})})
		}
	}
	return all
}

// callChanges break the calls of a row of procedure 0 or 1 of ringsProg.
func callChanges(row int) []sumChange {
	calls := func(change func(list []impl.Call) []impl.Call) func(s *impl.Sum) {
		return func(s *impl.Sum) { s.Rows[row].Calls = change(s.Rows[row].Calls) }
	}
	all := []sumChange{
		{"calls out of order by Kind", calls(func(list []impl.Call) []impl.Call { list[0], list[1] = list[1], list[0]; return list })},
		{"the last calls out of order", calls(func(list []impl.Call) []impl.Call { slices.Reverse(list[len(list)-2:]); return list })},
		{"a call twice", calls(func(list []impl.Call) []impl.Call { return append(list[:1], list...) })},
		{"the last call twice", calls(func(list []impl.Call) []impl.Call { return append(list, list[len(list)-1]) })},
	}
	for _, n := range []int{math.MinInt, -1, 3, 4, math.MaxInt} {
		all = append(all, sumChange{"a call of " + strconv.Itoa(n), calls(func(list []impl.Call) []impl.Call {
			return []impl.Call{{Proc: n, Kind: 1}}
		})})
	}
	for _, n := range noKinds() {
		all = append(all, sumChange{"a call with kind " + strconv.Itoa(n), calls(func(list []impl.Call) []impl.Call {
			return []impl.Call{{Proc: list[0].Proc, Kind: n}}
		})})
	}
	return all
}

// sumChanges break one thing of a sum of procedure 0 or 1 of ringsProg.
func sumChanges() []sumChange {
	var all []sumChange
	for row := range rowsAll {
		all = append(all, siteChanges(row)...)
		all = append(all, callChanges(row)...)
		for _, bad := range badSpans() {
			all = append(all, sumChange{"Out not ok", func(s *impl.Sum) { s.Rows[row].Out = bad }})
		}
	}
	for many := range 7 {
		if many == rowsAll {
			continue
		}
		all = append(all, sumChange{strconv.Itoa(many) + " rows that say nothing", func(s *impl.Sum) { s.Rows = make([]impl.Row, many) }})
		all = append(all, sumChange{strconv.Itoa(many) + " rows", func(s *impl.Sum) { s.Rows = append(s.Rows, s.Rows...)[:many] }})
	}
	all = append(all, sumChange{"no rows", func(s *impl.Sum) { s.Rows = nil }})
	for _, n := range []int{math.MinInt, -2, -1, 4, 5, math.MaxInt} {
		all = append(all, sumChange{"Proc " + strconv.Itoa(n), func(s *impl.Sum) { s.Proc = n }})
		all = append(all, sumChange{"Proc " + strconv.Itoa(n) + ", rows that say nothing", func(s *impl.Sum) {
			*s = impl.Sum{Proc: n, Rows: make([]impl.Row, rowsAll)}
		}})
	}
	return all
}

func TestOkOfSumsWithOneThingBroken(t *testing.T) {
	p := ringsProg()
	for proc := range 2 {
		for _, change := range sumChanges() {
			s := fullSum(p, proc)
			change.do(&s)
			if impl.SumOk(p, s) || sumFine(p, s) {
				t.Errorf("%s: %+v is ok", change.name, s)
			}
			refusesSums(t, p, []impl.Sum{s}, change.name)
			for _, at := range []int{proc, 3} {
				// In its place, and in that of the last one, behind all others.
				sums := fullSums(p)
				sums[at] = s
				refusesSums(t, p, sums, change.name)
			}
		}
	}
}

// refusesSums asks for the answers at sums that are not ok.
func refusesSums(t *testing.T, p []impl.Proc, sums []impl.Sum, name string) {
	t.Helper()
	if impl.SumsOk(p, sums) || sumsFine(p, sums) {
		t.Errorf("%s: %+v are ok", name, sums)
	}
	for proc := -1; proc <= len(p); proc++ {
		for _, arg := range []impl.Span{span(-16, 15), span(0, 0), none()} {
			if out := impl.SumOut(p, sums, proc, arg); out != none() {
				t.Errorf("%s: SumOut of %d is %+v", name, proc, out)
			}
		}
		for at := -1; at <= codeMost; at++ {
			if flows := impl.FlowNext(p, sums, proc, at, differentSpans()); len(flows) != 0 {
				t.Errorf("%s: FlowNext at %d of %d is %+v", name, at, proc, flows)
			}
		}
	}
}

// Of the calls of procedure 0 those of another one come first, though their kinds are greater.
func TestCallsAscendByProcAheadOfKind(t *testing.T) {
	p := ringsProg()
	for _, c := range []struct {
		calls []impl.Call
		ok    bool
	}{
		{[]impl.Call{{Proc: 0, Kind: 2}, {Proc: 1, Kind: 0}}, true},
		{[]impl.Call{{Proc: 0, Kind: 0}, {Proc: 1, Kind: 0}, {Proc: 2, Kind: 0}}, true},
		{[]impl.Call{{Proc: 1, Kind: 0}, {Proc: 0, Kind: 2}}, false},
		{[]impl.Call{{Proc: 1, Kind: 1}, {Proc: 0, Kind: 1}}, false},
		{[]impl.Call{{Proc: 0, Kind: 1}, {Proc: 2, Kind: 0}, {Proc: 1, Kind: 2}}, false},
		{[]impl.Call{{Proc: 2, Kind: 1}, {Proc: 2, Kind: 2}}, true},
		{[]impl.Call{{Proc: 2, Kind: 2}, {Proc: 2, Kind: 1}}, false},
	} {
		for row := range rowsAll {
			s := impl.Sum{Rows: make([]impl.Row, rowsAll)}
			s.Rows[row].Calls = c.calls
			if got := impl.SumOk(p, s); got != c.ok {
				t.Errorf("SumOk with calls %v in row %d is %t", c.calls, row, got)
			}
		}
	}
}

// A row of one procedure is none of another one, even if that is called, too.
func TestRowsOfAnotherProcedure(t *testing.T) {
	p := ringsProg()
	for _, c := range []struct {
		proc, other int
		ok          bool
	}{{1, 0, false}, {0, 1, false}, {1, 2, false}, {0, 3, false}, {1, 1, true}, {2, 2, true}, {3, 3, true}} {
		s := fullSum(p, c.proc)
		s.Proc = c.other
		if got := impl.SumOk(p, s); got != c.ok {
			t.Errorf("SumOk of %d's rows as those of %d is %t", c.proc, c.other, got)
		}
	}
	// Procedure 1 calls 2 alone, and 0 calls all.
	for other := range p {
		for proc := range p {
			s := impl.Sum{Proc: proc, Rows: make([]impl.Row, rowsAll)}
			s.Rows[1].Calls = []impl.Call{{Proc: other, Kind: 0}}
			if got, want := impl.SumOk(p, s), other == 2 && proc < 3 || proc == 0 && other < 3; got != want {
				t.Errorf("SumOk of %d, which says that %d is called, is %t", proc, other, got)
			}
		}
	}
}

func TestSumsOutOfOrderOrTwice(t *testing.T) {
	p := ringsProg()
	for n := range 4 * 4 * 4 {
		places := []int{n / 16, n / 4 % 4, n % 4}
		for many := range 4 {
			var sums []impl.Sum
			ascends := true
			for k, proc := range places[:many] {
				sums = append(sums, fullSum(p, proc))
				ascends = ascends && (k == 0 || places[k-1] < proc)
			}
			if got := impl.SumsOk(p, sums); got != ascends {
				t.Errorf("SumsOk of sums of %v is %t", places[:many], got)
			}
			if !ascends {
				refusesSums(t, p, sums, "out of order, or twice")
			}
		}
	}
	// Twice is twice, whatever they say.
	empty := impl.Sum{Proc: 1, Rows: make([]impl.Row, rowsAll)}
	refusesSums(t, p, []impl.Sum{fullSum(p, 1), empty}, "twice, another time with nothing")
	refusesSums(t, p, append(fullSums(p), fullSum(p, 3)), "one too many")
}

func TestSumsOfAProgramThatIsNotOk(t *testing.T) {
	for _, p := range badProgs() {
		for proc := range 5 {
			s := impl.Sum{Proc: proc, Rows: make([]impl.Row, rowsAll)}
			if impl.SumOk(p, s) || impl.SumsOk(p, []impl.Sum{s}) {
				t.Errorf("of %v %+v is ok", p, s)
			}
			s.Rows[0].Out = span(1, 2)
			if out := impl.SumOut(p, []impl.Sum{s}, proc, span(-16, 15)); out != none() {
				t.Errorf("SumOut of %v is %+v", p, out)
			}
		}
		refusesSums(t, p, nil, "a program that is not ok")
	}
}

// changedSum is a sum in which one number is changed, whatever comes of it.
func changedSum(from *rand.Rand, s impl.Sum) impl.Sum {
	s = copySum(s)
	r := &s.Rows[from.Intn(rowsAll)]
	n := from.Intn(7) - 1
	switch from.Intn(9) {
	case 0:
		s.Proc = n
	case 1:
		r.Out = impl.Span{Any: from.Intn(2) == 0, Lo: n - 3, Hi: n}
	case 2:
		r.Sites = append(r.Sites, impl.Site{Proc: s.Proc, At: n, Fault: from.Intn(4)})
	case 3:
		r.Calls = append(r.Calls, impl.Call{Proc: n, Kind: from.Intn(4)})
	case 4:
		r.Sites = someOf(from, r.Sites)
	case 5:
		r.Calls = someOf(from, r.Calls)
	case 6:
		from.Shuffle(len(r.Sites), func(a int, b int) { r.Sites[a], r.Sites[b] = r.Sites[b], r.Sites[a] })
	case 7:
		from.Shuffle(len(r.Calls), func(a int, b int) { r.Calls[a], r.Calls[b] = r.Calls[b], r.Calls[a] })
	case 8:
		s.Rows = s.Rows[:max(0, min(rowsAll, n))]
	}
	return s
}

func TestOkOfSumsThatAreChanged(t *testing.T) {
	from := rand.New(rand.NewSource(11))
	taken := 0
	const tries = 20000
	progs := someProgs(300)
	for k := range tries {
		p := progs[k%len(progs)]
		sums := allSums(from, p)
		at := from.Intn(len(sums))
		sums[at] = changedSum(from, sums[at])
		if got := impl.SumOk(p, sums[at]); got != sumFine(p, sums[at]) {
			t.Fatalf("of %v SumOk of %+v is %t", p, sums[at], got)
		}
		want := sumsFine(p, sums)
		if got := impl.SumsOk(p, sums); got != want {
			t.Fatalf("of %v SumsOk of %+v is %t", p, sums, got)
		}
		taken += truth(want)
	}
	if taken < tries/10 || taken > tries*9/10 {
		t.Errorf("%d of %d are ok", taken, tries)
	}
}

func TestP40OutOfAllSpans(t *testing.T) {
	from := rand.New(rand.NewSource(12))
	for _, p := range append(someProgs(40), ringsProg()) {
		sums := someSums(from, p)
		for proc := -1; proc <= len(p); proc++ {
			for _, arg := range okSpans() {
				if got, want := impl.SumOut(p, sums, proc, arg), outFine(p, sums, proc, arg); got != want {
					t.Fatalf("of %v SumOut(%+v, %d, %+v) is %+v, not %+v", p, sums, proc, arg, got, want)
				}
			}
		}
	}
}

func TestP40OutIsTheJoinOfKindsAndInThatOfMore(t *testing.T) {
	from := rand.New(rand.NewSource(13))
	for range 20 {
		p := ringsProg()
		sums := allSums(from, p)
		for proc := range p {
			for _, arg := range okSpans() {
				got, join := impl.SumOut(p, sums, proc, arg), none()
				for _, kind := range impl.SpanKinds(arg) {
					join = impl.SpanJoin(join, impl.SumOut(p, sums, proc, impl.KindSpan(kind)))
				}
				if got != join {
					t.Fatalf("SumOut(%+v, %d, %+v) is %+v, not the join %+v", sums, proc, arg, got, join)
				}
				for _, more := range grownByOne(arg) {
					if out := impl.SumOut(p, sums, proc, more); !impl.SpanIn(got, out) {
						t.Fatalf("SumOut of %+v is %+v, of %+v %+v", arg, got, more, out)
					}
				}
			}
		}
	}
}

func TestP40OutOfOneTwoAndThreeKinds(t *testing.T) {
	p := ringsProg()
	less, zero, more := span(-9, -8), span(4, 4), span(6, 7)
	for _, c := range []struct {
		rows [3]impl.Span
		arg  impl.Span
		want impl.Span
	}{
		{[3]impl.Span{less, zero, more}, span(-1, -1), less},
		{[3]impl.Span{less, zero, more}, span(-16, -1), less},
		{[3]impl.Span{less, zero, more}, span(0, 0), zero},
		{[3]impl.Span{less, zero, more}, span(1, 1), more},
		{[3]impl.Span{less, zero, more}, span(2, 15), more},
		{[3]impl.Span{less, zero, more}, span(-1, 0), span(-9, 4)},
		{[3]impl.Span{less, zero, more}, span(0, 1), span(4, 7)},
		{[3]impl.Span{less, zero, more}, span(-1, 1), span(-9, 7)},
		{[3]impl.Span{less, zero, more}, span(-16, 15), span(-9, 7)},
		{[3]impl.Span{none(), zero, none()}, span(-16, 15), zero},
		{[3]impl.Span{none(), zero, none()}, span(1, 15), none()},
		{[3]impl.Span{none(), zero, none()}, span(-16, -1), none()},
		{[3]impl.Span{less, none(), more}, span(0, 0), none()},
		{[3]impl.Span{less, none(), more}, span(0, 3), more},
		{[3]impl.Span{less, none(), more}, span(-5, 0), less},
		{[3]impl.Span{less, none(), more}, span(-5, 5), span(-9, 7)},
		{[3]impl.Span{none(), none(), none()}, span(-16, 15), none()},
		{[3]impl.Span{more, zero, less}, span(-3, -2), more},
		{[3]impl.Span{less, zero, more}, none(), none()},
	} {
		for proc := range p {
			sums := fullSums(p)
			for kind, out := range c.rows {
				sums[proc].Rows[kind].Out = out
			}
			if got := impl.SumOut(p, sums, proc, c.arg); got != c.want {
				t.Errorf("of rows %+v SumOut with %+v is %+v, not %+v", c.rows, c.arg, got, c.want)
			}
		}
	}
}

func TestP40OutOfWhatIsNot(t *testing.T) {
	p := ringsProg()
	for _, arg := range badSpans() {
		for proc := range p {
			if out := impl.SumOut(p, fullSums(p), proc, arg); out != none() {
				t.Errorf("SumOut of %d with %+v is %+v", proc, arg, out)
			}
		}
	}
	for _, proc := range []int{math.MinInt, -1, 4, 5, math.MaxInt} {
		if out := impl.SumOut(p, fullSums(p), proc, span(-16, 15)); out != none() {
			t.Errorf("SumOut of %d is %+v", proc, out)
		}
	}
}

func TestP41SumsWithOneLess(t *testing.T) {
	from := rand.New(rand.NewSource(14))
	for _, p := range append(someProgs(300), ringsProg()) {
		all := allSums(from, p)
		if !impl.SumsOk(p, all) {
			t.Fatalf("of %v %+v are not ok", p, all)
		}
		for left := range all {
			less := slices.Delete(copySums(all), left, left+1)
			if !impl.SumsOk(p, less) {
				t.Fatalf("of %v %+v without %d are not ok", p, all, left)
			}
			for proc := range p {
				for _, arg := range edgeSpans() {
					want := impl.SumOut(p, all, proc, arg)
					if proc == left {
						want = none()
					}
					if got := impl.SumOut(p, less, proc, arg); got != want {
						t.Fatalf("of %v SumOut of %d without %d is %+v, not %+v", p, proc, left, got, want)
					}
				}
			}
		}
	}
}
