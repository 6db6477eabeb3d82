package impl

// Limits of words, and what is done with two of them.
const (
	NumLow  = -16
	NumHigh = 15
	OpAdd   = 1
	OpSub   = 2
	OpMul   = 3
	OpDiv   = 4
	OpLess  = 5
	OpSame  = 6
)

// Kinds of words.
const (
	KindLess = 0
	KindZero = 1
	KindMore = 2
)

// Where SpanWide lets an end rest on its way to the last word.
const (
	restLow  = -4
	restHigh = 4
)

// Span is all words from Lo to Hi, or none, if not Any.
type Span struct {
	Any bool
	Lo  int
	Hi  int
}

// word is a number in NumLow..NumHigh. Its methods answer ahead of being
// wrapped, as SpanDo must see what is no word any more.
type word int

// deed is what an operation does; false, if it cannot be done.
type deed func(a word, b word) (int, bool)

func (a word) add(b word) (int, bool) {
	return int(a) + int(b), true
}

func (a word) sub(b word) (int, bool) {
	return int(a) - int(b), true
}

func (a word) mul(b word) (int, bool) {
	return int(a) * int(b), true
}

func (a word) div(b word) (int, bool) {
	if b == 0 {
		return 0, false
	}
	return int(a) / int(b), true
}

func (a word) less(b word) (int, bool) {
	return oneIf(a < b), true
}

func (a word) same(b word) (int, bool) {
	return oneIf(a == b), true
}

// never stands for whatever is no operation, so that callers need not ask.
func (a word) never(b word) (int, bool) {
	return 0, false
}

func oneIf(yes bool) int {
	if yes {
		return 1
	}
	return 0
}

func deedOf(op int) deed {
	deeds := [...]deed{
		OpAdd:  word.add,
		OpSub:  word.sub,
		OpMul:  word.mul,
		OpDiv:  word.div,
		OpLess: word.less,
		OpSame: word.same,
	}
	if op < OpAdd || op >= len(deeds) {
		return word.never
	}
	return deeds[op]
}

func isWord(n int) bool {
	return NumLow <= n && n <= NumHigh
}

// NumWrap is the word that a number is.
func NumWrap(n int) int {
	const words = NumHigh - NumLow + 1
	// The remainder comes first: a number at the end of int has no room to be moved.
	rest := n % words
	if rest < NumLow {
		return rest + words
	}
	if rest > NumHigh {
		return rest - words
	}
	return rest
}

// NumDo does an operation with two words; false, if it cannot be done.
func NumDo(op int, a int, b int) (int, bool) {
	if !isWord(a) || !isWord(b) {
		return 0, false
	}
	n, ok := deedOf(op)(word(a), word(b))
	return NumWrap(n), ok
}

// stretch is the least span with all that a span has, and with more words.
// They may be plain numbers or of type word.
func stretch[N ~int](s Span, more ...N) Span {
	for _, n := range more {
		if !s.Any {
			s = Span{Any: true, Lo: int(n), Hi: int(n)}
		}
		s.Lo, s.Hi = min(s.Lo, int(n)), max(s.Hi, int(n))
	}
	return s
}

func allWords() Span {
	return Span{Any: true, Lo: NumLow, Hi: NumHigh}
}

// SpanOk says whether a span is ok.
func SpanOk(s Span) bool {
	if !s.Any {
		return s == Span{}
	}
	return isWord(s.Lo) && isWord(s.Hi) && s.Lo <= s.Hi
}

// SpanOf is the span of one word.
func SpanOf(n int) Span {
	if !isWord(n) {
		return Span{}
	}
	return stretch(Span{}, n)
}

// SpanHas says whether a number is in a span.
func SpanHas(s Span, n int) bool {
	return SpanOk(s) && s.Any && s.Lo <= n && n <= s.Hi
}

// SpanIn says whether all of a span is in another one.
func SpanIn(a Span, b Span) bool {
	if !SpanOk(a) || !SpanOk(b) {
		return false
	}
	return !a.Any || b.Any && b.Lo <= a.Lo && a.Hi <= b.Hi
}

// SpanJoin is the least span with all of two.
func SpanJoin(a Span, b Span) Span {
	if !SpanOk(a) || !SpanOk(b) {
		return Span{}
	}
	if !b.Any {
		return a
	}
	return stretch(a, b.Lo, b.Hi)
}

// SpanMeet is what is in both.
func SpanMeet(a Span, b Span) Span {
	if !havePairs(a, b) {
		return Span{}
	}
	both := Span{Any: true, Lo: max(a.Lo, b.Lo), Hi: min(a.Hi, b.Hi)}
	if both.Lo > both.Hi {
		return Span{}
	}
	return both
}

// SpanWide is a span with all of two, in which what grows grows far.
func SpanWide(a Span, b Span) Span {
	wide := SpanJoin(a, b)
	if !havePairs(a, b) {
		return wide
	}
	if wide.Lo < a.Lo {
		wide.Lo = restBelow(wide.Lo)
	}
	if wide.Hi > a.Hi {
		wide.Hi = restAbove(wide.Hi)
	}
	return wide
}

func restBelow(n int) int {
	if n >= 0 {
		return 0
	}
	if n >= restLow {
		return restLow
	}
	return NumLow
}

func restAbove(n int) int {
	if n <= 0 {
		return 0
	}
	if n <= restHigh {
		return restHigh
	}
	return NumHigh
}

// havePairs says whether there is a pair of a word of a and one of b.
func havePairs(a Span, b Span) bool {
	return SpanOk(a) && SpanOk(b) && a.Any && b.Any
}

// SpanDo is what an operation may give.
func SpanDo(op int, a Span, b Span) Span {
	if !havePairs(a, b) {
		return Span{}
	}
	do := deedOf(op)
	given := Span{}
	for x := a.Lo; x <= a.Hi; x++ {
		for y := b.Lo; y <= b.Hi; y++ {
			n, ok := do(word(x), word(y))
			if !ok {
				continue
			}
			if !isWord(n) {
				return allWords()
			}
			given = stretch(given, n)
		}
	}
	return given
}

// SpanWhen is what two may be, when something is so of them, or not.
func SpanWhen(op int, a Span, b Span, yes bool) (Span, Span) {
	first, second := Span{}, Span{}
	if !havePairs(a, b) || op != OpLess && op != OpSame {
		return first, second
	}
	do := deedOf(op)
	for x := word(a.Lo); x <= word(a.Hi); x++ {
		for y := word(b.Lo); y <= word(b.Hi); y++ {
			if n, _ := do(x, y); n == oneIf(yes) {
				first, second = stretch(first, x), stretch(second, y)
			}
		}
	}
	return first, second
}

// SpanKinds is the kinds of words of a span.
func SpanKinds(s Span) []int {
	var kinds []int
	for kind := KindLess; kind <= KindMore; kind++ {
		if SpanMeet(s, KindSpan(kind)).Any {
			kinds = append(kinds, kind)
		}
	}
	return kinds
}

// KindSpan is all words of a kind.
func KindSpan(kind int) Span {
	switch kind {
	case KindLess:
		return Span{Any: true, Lo: NumLow, Hi: -1}
	case KindZero:
		return SpanOf(0)
	case KindMore:
		return Span{Any: true, Lo: 1, Hi: NumHigh}
	}
	return Span{}
}
