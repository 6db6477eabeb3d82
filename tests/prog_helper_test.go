package tests

import (
	"math"
	"math/rand"
	"regexp"
	"slices"
	"strconv"
	"strings"

	"loop.example/gauger/impl"
)

// The limits of programs, written down anew.
const (
	procsMost = 4
	codeMost  = 8
	regsAll   = 3
	kindsAll  = 12
)

// kindRow is a row of the document's table of instructions. Of A, B and C it
// says what each must be: r a register, w a word, m a word from 0 on, o an op,
// p a place, k a procedure, 0 is not named.
type kindRow struct {
	word string
	abc  string
}

// kindRows has the kinds at their places; there is no kind 0.
func kindRows() []kindRow {
	return []kindRow{
		{},
		{"set", "rw0"},
		{"move", "rr0"},
		{"ask", "rm0"},
		{"do", "rro"},
		{"go", "00p"},
		{"less", "rrp"},
		{"same", "rrp"},
		{"call", "rkr"},
		{"back", "r00"},
		{"hold", "r00"},
		{"put", "rr0"},
		{"get", "rr0"},
	}
}

// limitsOf is the least and the greatest number that may stand for a letter.
func limitsOf(letter byte, procs int, size int) (int, int) {
	switch letter {
	case 'r':
		return 0, regsAll - 1
	case 'w':
		return lowWord, highWord
	case 'm':
		return 0, highWord
	case 'o':
		return 1, 6
	case 'p':
		return 0, size
	case 'k':
		return 0, procs - 1
	}
	return 0, 0
}

func numbersABC(i impl.Ins) [3]int {
	return [3]int{i.A, i.B, i.C}
}

func ins(kind int, a int, b int, c int) impl.Ins {
	return impl.Ins{Kind: kind, A: a, B: b, C: c}
}

func insFine(i impl.Ins, procs int, size int) bool {
	if i.Kind < 1 || i.Kind > kindsAll {
		return false
	}
	for at, n := range numbersABC(i) {
		least, most := limitsOf(kindRows()[i.Kind].abc[at], procs, size)
		if n < least || n > most {
			return false
		}
	}
	return true
}

// progFine is what ProgOk must say.
func progFine(p []impl.Proc) bool {
	fine := 1 <= len(p) && len(p) <= procsMost
	for _, proc := range p {
		fine = fine && len(proc.Code) <= codeMost
		for _, i := range proc.Code {
			fine = fine && insFine(i, len(p), len(proc.Code))
		}
	}
	return fine
}

// progLines is what ProgText must say of an ok program.
func progLines(p []impl.Proc) string {
	var lines strings.Builder
	for _, proc := range p {
		lines.WriteString("proc\n")
		for _, i := range proc.Code {
			row := kindRows()[i.Kind]
			lines.WriteString(row.word)
			for at, n := range numbersABC(i) {
				if row.abc[at] != '0' {
					lines.WriteString(" " + strconv.Itoa(n))
				}
			}
			lines.WriteString("\n")
		}
	}
	return lines.String()
}

var (
	progShape = regexp.MustCompile(`\A(?:proc\n(?:[a-z]+(?: (?:0|-?[1-9][0-9]{0,3}))+\n)*)+\z`)
	lineShape = regexp.MustCompile(`[^\n]+`)
)

// progOfLines is what ProgRead must say.
func progOfLines(text string) ([]impl.Proc, bool) {
	if !progShape.MatchString(text) {
		return nil, false
	}
	var p []impl.Proc
	for _, line := range lineShape.FindAllString(text, -1) {
		if line == "proc" {
			p = append(p, impl.Proc{})
			continue
		}
		i, ok := insOfLine(line)
		if !ok {
			return nil, false
		}
		p[len(p)-1].Code = append(p[len(p)-1].Code, i)
	}
	return p, progFine(p)
}

func insOfLine(line string) (impl.Ins, bool) {
	parts := strings.Fields(line)
	kind := slices.IndexFunc(kindRows(), func(r kindRow) bool { return r.word == parts[0] })
	if kind < 1 {
		return impl.Ins{}, false
	}
	var abc [3]int
	parts = parts[1:]
	for at, letter := range kindRows()[kind].abc {
		if letter == '0' {
			continue
		}
		if len(parts) == 0 {
			return impl.Ins{}, false
		}
		abc[at], _ = strconv.Atoi(parts[0])
		parts = parts[1:]
	}
	return ins(kind, abc[0], abc[1], abc[2]), len(parts) == 0
}

func prog(codes ...[]impl.Ins) []impl.Proc {
	var p []impl.Proc
	for _, code := range codes {
		p = append(p, impl.Proc{Code: code})
	}
	return p
}

func code(list ...impl.Ins) []impl.Ins {
	return list
}

// sameProg holds two programs against each other; no code is an empty one.
func sameProg(a []impl.Proc, b []impl.Proc) bool {
	return slices.EqualFunc(a, b, func(x impl.Proc, y impl.Proc) bool { return slices.Equal(x.Code, y.Code) })
}

// copyProg shares no memory with p.
func copyProg(p []impl.Proc) []impl.Proc {
	var other []impl.Proc
	for _, proc := range p {
		other = append(other, impl.Proc{Code: slices.Clone(proc.Code)})
	}
	return other
}

// someProgs is many ok programs, the same ones each time.
func someProgs(many int) []([]impl.Proc) {
	from := rand.New(rand.NewSource(2))
	all := edgeProgs()
	for len(all) < many {
		p := make([]impl.Proc, 1+from.Intn(procsMost))
		for k := range p {
			size := from.Intn(codeMost + 1)
			for range size {
				p[k].Code = append(p[k].Code, someIns(from, len(p), size))
			}
		}
		all = append(all, p)
	}
	return all
}

func someIns(from *rand.Rand, procs int, size int) impl.Ins {
	kind := 1 + from.Intn(kindsAll)
	var abc [3]int
	for at := range abc {
		least, most := limitsOf(kindRows()[kind].abc[at], procs, size)
		abc[at] = least + from.Intn(most-least+1)
	}
	return ins(kind, abc[0], abc[1], abc[2])
}

// edgeProgs is ok programs at the limits: as little, and as much, as may be.
func edgeProgs() []([]impl.Proc) {
	full := []impl.Ins{
		ins(impl.InsSet, 2, -16, 0), ins(impl.InsSet, 0, 15, 0), ins(impl.InsAsk, 2, 15, 0), ins(impl.InsAsk, 0, 0, 0),
		ins(impl.InsDo, 2, 2, 6), ins(impl.InsGo, 0, 0, 8), ins(impl.InsLess, 2, 2, 8), ins(impl.InsCall, 2, 3, 2),
	}
	return []([]impl.Proc){
		prog(nil),
		prog(nil, nil, nil, nil),
		prog(full, full, full, full),
		prog(code(ins(impl.InsGo, 0, 0, 0))),
		prog(code(ins(impl.InsGo, 0, 0, 1))),
		prog(code(ins(impl.InsCall, 0, 0, 0))),
		prog(nil, code(ins(impl.InsSame, 0, 1, 0), ins(impl.InsMove, 1, 2, 0), ins(impl.InsBack, 2, 0, 0), ins(impl.InsHold, 1, 0, 0))),
		prog(code(ins(impl.InsPut, 2, 1, 0), ins(impl.InsGet, 1, 2, 0)), nil),
		prog(code(ins(impl.InsDo, 0, 1, 1)), code(ins(impl.InsCall, 1, 0, 2), ins(impl.InsCall, 2, 1, 0))),
	}
}

// badProgs is programs that are not ok, each by one thing alone.
func badProgs() []([]impl.Proc) {
	back := ins(impl.InsBack, 0, 0, 0)
	call := ins(impl.InsCall, 0, 1, 0)
	return []([]impl.Proc){
		nil,
		{},
		prog(nil, nil, nil, nil, nil),
		prog(code(call), nil, nil, nil, nil),
		prog(slices.Repeat(code(back), codeMost+1)),
		prog(code(call), slices.Repeat(code(back), codeMost+1)),
		prog(code(call), code(ins(0, 0, 0, 0))),
		prog(code(call), code(ins(13, 0, 0, 0))),
		prog(code(call), code(ins(-1, 0, 0, 0))),
		prog(code(call), code(ins(math.MinInt, 0, 0, 0))),
		prog(code(call), code(ins(impl.InsSet, 3, 0, 0))),
		prog(code(call), code(ins(impl.InsSet, 0, 16, 0))),
		prog(code(call), code(ins(impl.InsSet, 0, -17, 0))),
		prog(code(call), code(ins(impl.InsSet, 0, 0, 1))),
		prog(code(call), code(ins(impl.InsAsk, 0, -1, 0))),
		prog(code(call), code(ins(impl.InsDo, 0, 0, 0))),
		prog(code(call), code(ins(impl.InsDo, 0, 0, 7))),
		prog(code(call), code(ins(impl.InsGo, 0, 0, 2))),
		prog(code(call), code(ins(impl.InsGo, 0, 0, -1))),
		prog(code(call), code(ins(impl.InsCall, 0, 2, 0))),
		prog(code(call), code(ins(impl.InsCall, 0, -1, 0))),
		prog(code(call), code(ins(impl.InsCall, 0, 0, 3))),
		prog(code(call, ins(impl.InsBack, 0, 0, math.MaxInt)), nil),
	}
}
