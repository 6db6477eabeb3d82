package tests

import (
	"math/rand"
	"slices"
	"testing"

	"loop.example/gauger/impl"
)

// sumsGiven is a program, and sums by which its verdict is asked for.
type sumsGiven struct {
	p    []impl.Proc
	sums []impl.Sum
}

// sumsMemory is what memory is asked with: ok, and not.
func sumsMemory() []sumsGiven {
	from := rand.New(rand.NewSource(56))
	var all []sumsGiven
	for _, p := range sumsProgs(80) {
		all = append(all, sumsGiven{p, impl.SumsAll(p)}, sumsGiven{p, fullSums(p)}, sumsGiven{p, sparseSums(from, p)}, sumsGiven{p, nil})
	}
	p := ringsProg()
	for _, change := range sumChanges() {
		sums := fullSums(p)
		change.do(&sums[1])
		all = append(all, sumsGiven{p, sums})
	}
	for _, bad := range badProgs() {
		all = append(all, sumsGiven{bad, fullSums(p)})
	}
	// One row alone has sites, which are as they are told.
	one := calmSums()
	one[0].Rows[1].Sites = sitesOf(p, 0)
	return append(all, sumsGiven{p, one}, sumsGiven{p, calmSums()})
}

func roomyAll(g sumsGiven) sumsGiven {
	return sumsGiven{withRoom(g.p, markIns()), roomySums(g.sums)}
}

func (g sumsGiven) stays(was sumsGiven) bool {
	return roomyProgStays(g.p, was.p) && roomySumsStay(g.sums, was.sums)
}

func TestNothingIsWrittenIntoWhatAllIsAskedWith(t *testing.T) {
	t.Parallel()
	for _, was := range sumsMemory() {
		g := roomyAll(was)
		impl.SumsAll(g.p)
		impl.VerdictOf(g.p, g.sums)
		if !g.stays(was) {
			t.Fatalf("%+v is now %+v", was, g)
		}
	}
}

func TestSumsOfAllAreNewMemory(t *testing.T) {
	t.Parallel()
	for _, was := range sumsMemory() {
		g := roomyAll(was)
		got := impl.SumsAll(g.p)
		want := copySums(got)
		spoilSums(impl.SumsAll(g.p))
		if !g.stays(was) || !sameSums(got, want) || !sameSums(impl.SumsAll(g.p), want) {
			t.Fatalf("SumsAll of %+v shares its memory, or keeps some", was.p)
		}
		spoilGiven(flowGiven{p: g.p, sums: g.sums})
		if !sameSums(got, want) {
			t.Fatalf("SumsAll of %+v was %+v, and is now %+v", was.p, want, got)
		}
	}
}

func TestVerdictsAreNewMemory(t *testing.T) {
	t.Parallel()
	for _, was := range sumsMemory() {
		g := roomyAll(was)
		got, ok := impl.VerdictOf(g.p, g.sums)
		want := slices.Clone(got)
		spoilt, _ := impl.VerdictOf(g.p, g.sums)
		spoilList(spoilt, markSite())
		again, still := impl.VerdictOf(g.p, g.sums)
		if !g.stays(was) || !slices.Equal(got, want) || !slices.Equal(again, want) || ok != still {
			t.Fatalf("VerdictOf of %+v shares its memory, or keeps some", was)
		}
		spoilGiven(flowGiven{p: g.p, sums: g.sums})
		if !slices.Equal(got, want) {
			t.Fatalf("VerdictOf of %+v was %v, and is now %v", was, want, got)
		}
	}
}

func TestListsOfSumsOfAllShareNothing(t *testing.T) {
	t.Parallel()
	for _, p := range sumsProgs(80) {
		got := impl.SumsAll(p)
		want := copySums(got)
		stay := func() bool { return sameSums(got, want) }
		alone := staysBut(&got, markSum(), stay)
		for at := range got {
			alone = alone && staysBut(&got[at].Rows, markRow(), stay)
			for kind := range got[at].Rows {
				r := &got[at].Rows[kind]
				alone = alone && staysBut(&r.Sites, markSite(), stay) && staysBut(&r.Calls, markCall(), stay)
			}
		}
		if !alone {
			t.Fatalf("lists of SumsAll of %v share memory", p)
		}
	}
}

// Rows that share their lists say what those say that do not.
func TestVerdictsBySumsThatShareLists(t *testing.T) {
	from := rand.New(rand.NewSource(57))
	for _, p := range sumsProgs(80) {
		sums := sparseSums(from, p)
		for at := range sums {
			rows := sums[at].Rows
			rows[0], rows[2] = rows[1], rows[1]
		}
		shared := roomySums(copySums(sums))
		for at := range shared {
			rows := shared[at].Rows
			rows[0], rows[2] = rows[1], rows[1]
		}
		want, known := verdictFine(p, sums)
		checkVerdict(t, "shared lists", p, shared, want, known)
		if !roomySumsStay(shared, sums) {
			t.Fatalf("%+v are now %+v", sums, shared)
		}
	}
}

// What is none is none, whether its lists are nil, or empty.
func TestVerdictsByEmptyLists(t *testing.T) {
	for _, p := range sumsProgs(80) {
		sums := impl.SumsAll(p)
		want, known := impl.VerdictOf(p, sums)
		for at := range sums {
			for kind := range sums[at].Rows {
				r := &sums[at].Rows[kind]
				r.Sites, r.Calls = append([]impl.Site{}, r.Sites...), append([]impl.Call{}, r.Calls...)
			}
		}
		checkVerdict(t, "empty lists", p, sums, want, known)
	}
	p := prog(code(), code())
	checkVerdict(t, "empty codes", p, impl.SumsAll(p), nil, true)
	refusesVerdict(t, "an empty list of sums", p, []impl.Sum{})
}
