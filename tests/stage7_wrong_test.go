package tests

import (
	"math"
	"math/rand"
	"slices"
	"strconv"
	"testing"

	"loop.example/gauger/impl"
)

// refusesVerdict asks for the answer at what is not ok, or not known.
func refusesVerdict(t *testing.T, name string, p []impl.Proc, sums []impl.Sum) {
	t.Helper()
	if got, ok := impl.VerdictOf(p, sums); ok || len(got) != 0 {
		t.Errorf("%s: of %v, by %+v, VerdictOf is %v, %t", name, p, sums, got, ok)
	}
}

// calmSums says of ringsProg that nothing is called but procedure 0, and
// nothing is wrong but its hold.
func calmSums() []impl.Sum {
	var sums []impl.Sum
	for proc := range ringsProg() {
		sums = append(sums, impl.Sum{Proc: proc, Rows: make([]impl.Row, rowsAll)})
	}
	sums[0].Rows[1].Sites = sitesAt(site(0, 0, 3))
	return sums
}

// Whether what is broken is called, or not, it is refused.
func TestVerdictsBySumsWithOneThingBroken(t *testing.T) {
	p := ringsProg()
	checkVerdict(t, "full sums", p, fullSums(p), slices.Concat(sitesOf(p, 0), sitesOf(p, 1), sitesOf(p, 2)), true)
	checkVerdict(t, "calm sums", p, calmSums(), sitesAt(site(0, 0, 3)), true)
	for proc := range 2 {
		for _, change := range sumChanges() {
			full, calm := fullSums(p), calmSums()
			change.do(&full[proc])
			calm[proc] = full[proc]
			if sumsFine(p, full) || sumsFine(p, calm) {
				t.Fatalf("%s: %+v, or %+v, are ok", change.name, full, calm)
			}
			refusesVerdict(t, change.name, p, full)
			refusesVerdict(t, change.name+", in calm sums", p, calm)
			refusesVerdict(t, change.name+", alone", p, full[proc:proc+1])
		}
	}
}

// Procedure 3 is called by nobody, and procedure 1 not by these sums.
func TestVerdictsBySumsWithABrokenRowThatIsNotCalled(t *testing.T) {
	p := ringsProg()
	for proc := 1; proc < len(p); proc++ {
		for kind := range rowsAll {
			for name, bad := range map[string]impl.Row{
				"Out not ok":                 {Out: span(3, 2)},
				"Out no word":                {Out: span(0, 16)},
				"none, with something left":  {Out: impl.Span{Hi: 1}},
				"a site of another one":      {Sites: sitesAt(site(0, 0, 3))},
				"a site that is none":        {Sites: sitesAt(site(proc, 8, 3))},
				"a call of what is not":      {Calls: calling(4, 1)},
				"a call of no kind":          {Calls: calling(2, 3)},
				"a call that it cannot make": {Calls: calling(0, 1)},
			} {
				sums := calmSums()
				sums[proc].Rows[kind] = bad
				refusesVerdict(t, name, p, sums)
			}
		}
		for many := range 6 {
			if many != rowsAll {
				sums := calmSums()
				sums[proc].Rows = make([]impl.Row, many)
				refusesVerdict(t, strconv.Itoa(many)+" rows", p, sums)
			}
		}
	}
}

func TestVerdictsBySumsOutOfOrderOrTwice(t *testing.T) {
	p := ringsProg()
	for n := range 4 * 4 * 4 * 4 {
		places := []int{n / 64, n / 16 % 4, n / 4 % 4, n % 4}
		for many := range 5 {
			var full, calm []impl.Sum
			ascends := true
			for k, proc := range places[:many] {
				full, calm = append(full, fullSum(p, proc)), append(calm, calmSums()[proc])
				ascends = ascends && (k == 0 || places[k-1] < proc)
			}
			if !ascends {
				refusesVerdict(t, "out of order, or twice", p, full)
				refusesVerdict(t, "out of order, or twice, and calm", p, calm)
			}
		}
	}
	// Two of the same procedure say the same, or not.
	twice := append(calmSums()[:1], calmSums()...)
	refusesVerdict(t, "twice the same", p, twice)
	refusesVerdict(t, "twice the last", p, append(calmSums(), calmSums()[3]))
}

func TestVerdictsBySumsOfWhatIsNot(t *testing.T) {
	for _, p := range ringsMade() {
		all := impl.SumsAll(p)
		for _, n := range []int{math.MinInt, -4, -1, len(p), len(p) + 1, procsMost, math.MaxInt} {
			s := impl.Sum{Proc: n, Rows: make([]impl.Row, rowsAll)}
			refusesVerdict(t, "a sum of "+strconv.Itoa(n)+" more, behind", p, append(copySums(all), s))
			refusesVerdict(t, "a sum of "+strconv.Itoa(n)+" more, ahead", p, append([]impl.Sum{s}, all...))
			for at := range all {
				instead := copySums(all)
				instead[at].Proc = n
				refusesVerdict(t, "a sum of "+strconv.Itoa(n), p, instead)
			}
		}
		refusesVerdict(t, "no sums", p, nil)
		refusesVerdict(t, "nothing as a sum", p, []impl.Sum{{}})
	}
}

func TestVerdictsOfAProgramThatIsNotOk(t *testing.T) {
	for _, p := range badProgs() {
		refusesVerdict(t, "no sums", p, nil)
		refusesVerdict(t, "sums of another program", p, fullSums(ringsProg()))
		calm := calmSums()
		calm[0].Rows[1].Sites = nil
		refusesVerdict(t, "sums that say nothing", p, calm[:max(1, min(len(p), len(calm)))])
	}
}

// Sums of another program are ok, if they may be of this one.
func TestVerdictsBySumsOfAnotherProgram(t *testing.T) {
	p := told("ask 0 1; hold 0; call 1 1 0", "hold 0; hold 0")
	q := told("hold 0; hold 0; call 1 1 0", "hold 1; hold 0")
	got, ok := impl.VerdictOf(p, impl.SumsAll(q))
	if ok || len(got) != 0 {
		t.Errorf("VerdictOf is %v, %t", got, ok)
	}
	r := told("back 0; hold 0; call 1 1 0", "back 0; hold 0")
	checkVerdict(t, "of a program that says less", p, impl.SumsAll(r), nil, true)
}

func TestVerdictsBySumsThatAreChanged(t *testing.T) {
	from := rand.New(rand.NewSource(55))
	var tally [2]int
	progs := sumsProgs(150)
	for k := range 12000 {
		p := progs[k%len(progs)]
		sums := allSums(from, p)
		at := from.Intn(len(p))
		sums[at] = changedSum(from, sums[at])
		want, known := verdictFine(p, sums)
		checkVerdict(t, "one thing changed", p, sums, want, known)
		tally[truth(known)]++
	}
	if min(tally[0], tally[1]) < 1000 {
		t.Errorf("of %d it is not known, of %d it is", tally[0], tally[1])
	}
}
