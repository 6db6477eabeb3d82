package tests

import (
	"slices"
	"testing"

	"loop.example/gauger/impl"
)

// memoryPairs is pairs of all sorts: ok, none (also with room behind an empty list), and not ok.
func memoryPairs() [][2]impl.State {
	all := someStatePairs(2000)
	states := []impl.State{noState(), differentSpans(), with(differentSpans(), 1, span(-9, 9))}
	for _, bad := range badStates() {
		states = append(states, bad.s)
	}
	for _, a := range states {
		for _, b := range states {
			all = append(all, [2]impl.State{a, b})
		}
	}
	return all
}

func TestNothingIsWrittenIntoAState(t *testing.T) {
	for _, pair := range memoryPairs() {
		a, b := roomyState(pair[0]), roomyState(pair[1])
		regs, cells := roomyList([]int{-3, 1, 4}), roomyList([]int{0, 1, 2})
		impl.StateOk(a)
		impl.StateIn(a, b)
		impl.StateHas(a, regs, cells)
		impl.StateJoin(a, b)
		impl.StateWide(a, b)
		if !roomyStateStays(a, pair[0]) || !roomyStateStays(b, pair[1]) {
			t.Fatalf("%+v and %+v are now %+v and %+v", pair[0], pair[1], a, b)
		}
		if !slices.Equal(regs, []int{-3, 1, 4}) || !slices.Equal(cells, []int{0, 1, 2}) || !marksStay(regs) || !marksStay(cells) {
			t.Fatalf("words are now %v, %v", regs, cells)
		}
	}
}

func TestStatesThatAreMadeAreNewMemory(t *testing.T) {
	for _, made := range []func(impl.State, impl.State) impl.State{impl.StateJoin, impl.StateWide} {
		for _, pair := range memoryPairs() {
			a, b := roomyState(pair[0]), roomyState(pair[1])
			want := copyOfState(made(a, b))
			spoilState(made(a, b))
			if !roomyStateStays(a, pair[0]) || !roomyStateStays(b, pair[1]) {
				t.Fatalf("what is made of %+v and %+v shares their memory", pair[0], pair[1])
			}
			got := made(a, b)
			spoilState(a)
			spoilState(b)
			if !sameState(got, want) {
				t.Fatalf("what is made of %+v and %+v was %+v, and is now %+v", pair[0], pair[1], want, got)
			}
		}
	}
}

// One state may be both arguments, and two may share a list.
func TestStatesThatShareAList(t *testing.T) {
	for _, made := range []func(impl.State, impl.State) impl.State{impl.StateJoin, impl.StateWide} {
		for _, s := range append(edgeStates(), impl.State{Regs: make([]impl.Span, 0, 5)}) {
			roomy := roomyState(s)
			got := made(roomy, roomy)
			if !sameState(got, s) {
				t.Fatalf("what is made of %+v twice is %+v", s, got)
			}
			spoilState(got)
			if !roomyStateStays(roomy, s) {
				t.Fatalf("what is made of %+v twice shares its memory", s)
			}
		}
	}
	one := differentSpans()
	other := one
	other.Cells = span(-16, -16)
	if got, want := impl.StateJoin(one, other), with(one, regsAll, span(-16, 6)); !sameState(got, want) {
		t.Errorf("StateJoin is %+v", got)
	}
}

func TestNothingIsKeptOfAState(t *testing.T) {
	for kind := range 3 {
		first := impl.StateEntry(kind)
		want := copyOfState(first)
		spoilState(impl.StateEntry(kind))
		if got := impl.StateEntry(kind); !sameState(got, want) || !sameState(first, want) {
			t.Errorf("StateEntry(%d) is now %+v, the first one %+v", kind, got, first)
		}
	}
	for _, pair := range someStatePairs(500) {
		a, b := pair[0], pair[1]
		for _, made := range []func(impl.State, impl.State) impl.State{impl.StateJoin, impl.StateWide} {
			first := made(a, b)
			want := copyOfState(first)
			spoilState(made(a, b))
			if got := made(a, b); !sameState(got, want) || !sameState(first, want) {
				t.Fatalf("of %+v and %+v is now made %+v", a, b, got)
			}
		}
	}
}
