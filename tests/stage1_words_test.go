package tests

import (
	"math"
	"math/big"
	"testing"

	"loop.example/gauger/impl"
)

func do(t *testing.T, op int, a int, b int) int {
	t.Helper()
	n, ok := impl.NumDo(op, a, b)
	if !ok {
		t.Fatalf("NumDo(%d, %d, %d) is false", op, a, b)
	}
	return n
}

func TestConstantsOfWords(t *testing.T) {
	got := []int{impl.NumLow, impl.NumHigh, impl.OpAdd, impl.OpSub, impl.OpMul, impl.OpDiv, impl.OpLess, impl.OpSame, impl.KindLess, impl.KindZero, impl.KindMore}
	for i, want := range []int{-16, 15, 1, 2, 3, 4, 5, 6, 0, 1, 2} {
		if got[i] != want {
			t.Errorf("constant %d is %d, not %d", i, got[i], want)
		}
	}
}

func TestP1WrapIsAWord(t *testing.T) {
	numbers := noWords()
	for n := -2000; n <= 2000; n++ {
		numbers = append(numbers, n)
	}
	for n := range 70 {
		numbers = append(numbers, math.MinInt+n, math.MaxInt-n)
	}
	count := big.NewInt(wordsAll)
	for _, n := range numbers {
		w := impl.NumWrap(n)
		if w < lowWord || w > highWord {
			t.Fatalf("NumWrap(%d) = %d is no word", n, w)
		}
		apart := new(big.Int).Sub(big.NewInt(int64(n)), big.NewInt(int64(w)))
		if apart.Rem(apart, count).Sign() != 0 {
			t.Fatalf("NumWrap(%d) = %d is not a multiple of %d away", n, w, wordsAll)
		}
	}
}

func TestP1WrapOfWordsIsTheSame(t *testing.T) {
	for n := lowWord; n <= highWord; n++ {
		if got := impl.NumWrap(n); got != n {
			t.Errorf("NumWrap(%d) = %d", n, got)
		}
	}
}

func TestP1WrapAtTheEdges(t *testing.T) {
	for _, c := range [][2]int{{-16, -16}, {-17, 15}, {15, 15}, {16, -16}, {31, -1}, {32, 0}, {-32, 0}, {-33, -1}, {-48, -16}, {-49, 15}, {47, 15}, {48, -16}, {math.MinInt, 0}, {math.MaxInt, -1}} {
		if got := impl.NumWrap(c[0]); got != c[1] {
			t.Errorf("NumWrap(%d) = %d, not %d", c[0], got, c[1])
		}
	}
}

func TestNumDoOfAllWords(t *testing.T) {
	for _, op := range allOps() {
		for a := lowWord; a <= highWord; a++ {
			for b := lowWord; b <= highWord; b++ {
				plain, can := plainDo(op, a, b)
				got, ok := impl.NumDo(op, a, b)
				if ok != can || got != wrapped(plain) {
					t.Fatalf("NumDo(%d, %d, %d) = %d, %v, not %d, %v", op, a, b, got, ok, wrapped(plain), can)
				}
			}
		}
	}
}

func TestNumDoOfKnownWords(t *testing.T) {
	for _, c := range [][4]int{
		{1, 15, 1, -16}, {1, -16, -1, 15}, {1, -16, -16, 0}, {1, 7, 8, 15},
		{2, -16, 1, 15}, {2, 15, -1, -16}, {2, 0, -16, -16}, {2, 3, 5, -2},
		{3, -16, -16, 0}, {3, -16, -1, -16}, {3, 15, 15, 1}, {3, 4, 4, -16}, {3, 3, -5, -15},
		{4, -16, -1, -16}, {4, 7, -2, -3}, {4, -7, 2, -3}, {4, -7, -2, 3}, {4, 1, 15, 0}, {4, -15, -16, 0}, {4, 0, 5, 0},
		{5, -16, 15, 1}, {5, 15, -16, 0}, {5, 4, 4, 0}, {6, 4, 4, 1}, {6, -16, 15, 0},
	} {
		if got := do(t, c[0], c[1], c[2]); got != c[3] {
			t.Errorf("NumDo(%d, %d, %d) = %d, not %d", c[0], c[1], c[2], got, c[3])
		}
	}
}

func TestNumDoOfNoWordsAndNoOps(t *testing.T) {
	refuse := func(op int, a int, b int) {
		if n, ok := impl.NumDo(op, a, b); n != 0 || ok {
			t.Errorf("NumDo(%d, %d, %d) = %d, %v, not 0, false", op, a, b, n, ok)
		}
	}
	for _, bad := range noWords() {
		for _, op := range append(allOps(), noOps()...) {
			refuse(op, bad, bad)
			for w := lowWord; w <= highWord; w++ {
				refuse(op, bad, w)
				refuse(op, w, bad)
			}
		}
	}
	for _, op := range noOps() {
		for a := lowWord; a <= highWord; a++ {
			refuse(op, a, a)
			refuse(op, a, 1)
		}
	}
}

func TestP2SumsAndProductsInAnyOrder(t *testing.T) {
	for a := lowWord; a <= highWord; a++ {
		for b := lowWord; b <= highWord; b++ {
			sum, product := do(t, impl.OpAdd, a, b), do(t, impl.OpMul, a, b)
			if sum != wrapped(a+b) || product != wrapped(a*b) {
				t.Fatalf("%d and %d: sum %d, product %d", a, b, sum, product)
			}
			if sum != do(t, impl.OpAdd, b, a) || product != do(t, impl.OpMul, b, a) {
				t.Fatalf("%d and %d: the order changes something", a, b)
			}
			if do(t, impl.OpSub, sum, b) != a {
				t.Fatalf("%d and %d: OpSub does not take back OpAdd", a, b)
			}
		}
	}
}

func TestP2SumsAndProductsWithBracketsAnywhere(t *testing.T) {
	for a := lowWord; a <= highWord; a++ {
		for b := lowWord; b <= highWord; b++ {
			for c := lowWord; c <= highWord; c++ {
				for _, op := range []int{impl.OpAdd, impl.OpMul} {
					left, right := do(t, op, do(t, op, a, b), c), do(t, op, a, do(t, op, b, c))
					if left != right {
						t.Fatalf("op %d of %d, %d, %d: %d or %d", op, a, b, c, left, right)
					}
				}
				out := do(t, impl.OpMul, a, do(t, impl.OpAdd, b, c))
				in := do(t, impl.OpAdd, do(t, impl.OpMul, a, b), do(t, impl.OpMul, a, c))
				if out != in || out != wrapped(a*(b+c)) {
					t.Fatalf("%d * (%d + %d): %d or %d", a, b, c, out, in)
				}
			}
		}
	}
}

func TestP3DivisionLeavesLess(t *testing.T) {
	for a := lowWord; a <= highWord; a++ {
		for b := lowWord; b <= highWord; b++ {
			if b == 0 {
				continue
			}
			rest := do(t, impl.OpSub, a, do(t, impl.OpMul, do(t, impl.OpDiv, a, b), b))
			if max(rest, -rest) >= max(b, -b) {
				t.Fatalf("%d by %d leaves %d, which is not nearer to 0", a, b, rest)
			}
			if rest != 0 && (rest < 0) != (a < 0) {
				t.Fatalf("%d by %d leaves %d, on the other side", a, b, rest)
			}
		}
	}
}

func TestP3DivisionByNoughtCannotBe(t *testing.T) {
	for a := lowWord; a <= highWord; a++ {
		if n, ok := impl.NumDo(impl.OpDiv, a, 0); n != 0 || ok {
			t.Errorf("%d by 0 = %d, %v", a, n, ok)
		}
	}
}
