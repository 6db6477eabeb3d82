package tests

import (
	"math"
	"strings"
	"testing"

	"loop.example/gauger/impl"
)

func TestConstantsOfPrograms(t *testing.T) {
	got := []int{
		impl.ProcMax, impl.CodeMax, impl.RegMax, impl.CellMax,
		impl.InsSet, impl.InsMove, impl.InsAsk, impl.InsDo, impl.InsGo, impl.InsLess,
		impl.InsSame, impl.InsCall, impl.InsBack, impl.InsHold, impl.InsPut, impl.InsGet,
	}
	for i, want := range []int{4, 8, 3, 3, 1, 2, 3, 4, 5, 6, 7, 8, 9, 10, 11, 12} {
		if got[i] != want {
			t.Errorf("constant %d is %d, not %d", i, got[i], want)
		}
	}
}

// filled is a program of so many procedures, each with so many instructions,
// all of which are ok, but for the given one, the last of the last.
func filled(procs int, size int, last impl.Ins) []impl.Proc {
	p := make([]impl.Proc, procs)
	for k := range p {
		for range size {
			p[k].Code = append(p[k].Code, ins(impl.InsHold, 1, 0, 0))
		}
	}
	p[procs-1].Code[size-1] = last
	return p
}

func TestOkOfEachInstructionWithEachNumber(t *testing.T) {
	numbers := []int{math.MinInt, -17, -16, -1, 0, 1, 2, 3, 4, 5, 6, 7, 8, 9, 15, 16, 64, math.MaxInt}
	for kind := -1; kind <= kindsAll+1; kind++ {
		for _, a := range numbers {
			for _, b := range numbers {
				for _, c := range numbers {
					i := ins(kind, a, b, c)
					for _, size := range [][2]int{{1, 1}, {2, 3}, {4, 8}} {
						want := insFine(i, size[0], size[1])
						if got := impl.ProgOk(filled(size[0], size[1], i)); got != want {
							t.Fatalf("ProgOk with %v, of %v, is %t", i, size, got)
						}
					}
				}
			}
		}
	}
}

func TestOkOfOtherKinds(t *testing.T) {
	for _, kind := range []int{math.MinInt, -12, -1, 0, 13, 14, 256 + 9, math.MaxInt} {
		if impl.ProgOk(prog(code(ins(kind, 0, 0, 0)))) {
			t.Errorf("kind %d is ok", kind)
		}
	}
}

func TestOkOfSizes(t *testing.T) {
	back := ins(impl.InsBack, 0, 0, 0)
	for procs := range 8 {
		for size := range 12 {
			p := make([]impl.Proc, procs)
			if procs > 0 {
				for range size {
					p[procs-1].Code = append(p[procs-1].Code, back)
				}
			}
			want := procs >= 1 && procs <= 4 && size <= 8
			if got := impl.ProgOk(p); got != want {
				t.Errorf("ProgOk of %d procedures, the last of %d, is %t", procs, size, got)
			}
		}
	}
	if impl.ProgOk(nil) {
		t.Error("no program is ok")
	}
}

func TestOkOfGivenPrograms(t *testing.T) {
	for _, p := range someProgs(500) {
		if !impl.ProgOk(p) {
			t.Errorf("not ok: %v", p)
		}
	}
	for _, p := range badProgs() {
		if impl.ProgOk(p) || progFine(p) {
			t.Errorf("ok: %v", p)
		}
	}
}

func TestTextOfEachKind(t *testing.T) {
	p := prog(
		code(ins(1, 2, -16, 0), ins(2, 0, 1, 0), ins(3, 1, 15, 0), ins(4, 0, 1, 4), ins(5, 0, 0, 8), ins(6, 0, 1, 7), ins(7, 2, 1, 0), ins(8, 2, 1, 0)),
		code(ins(9, 1, 0, 0), ins(10, 2, 0, 0), ins(11, 0, 2, 0), ins(12, 1, 0, 0)),
		nil,
	)
	want := "proc\nset 2 -16\nmove 0 1\nask 1 15\ndo 0 1 4\ngo 8\nless 0 1 7\nsame 2 1 0\ncall 2 1 0\n" +
		"proc\nback 1\nhold 2\nput 0 2\nget 1 0\nproc\n"
	if got := impl.ProgText(p); got != want {
		t.Errorf("text %q", got)
	}
	if got, ok := impl.ProgRead(want); !ok || !sameProg(got, p) {
		t.Errorf("read %v, %t", got, ok)
	}
}

func TestTextOfWhatIsNotOk(t *testing.T) {
	for _, p := range badProgs() {
		if got := impl.ProgText(p); got != "" {
			t.Errorf("text of %v: %q", p, got)
		}
	}
}

func TestP16ReadBack(t *testing.T) {
	for _, p := range someProgs(3000) {
		text := impl.ProgText(p)
		if want := progLines(p); text != want {
			t.Fatalf("text of %v: %q, not %q", p, text, want)
		}
		back, ok := impl.ProgRead(text)
		if !ok || !sameProg(back, p) {
			t.Fatalf("%q is read as %v, %t", text, back, ok)
		}
	}
}

// readsRight holds what is read of a text against what must be.
func readsRight(t *testing.T, text string) {
	t.Helper()
	p, ok := impl.ProgRead(text)
	want, fine := progOfLines(text)
	if ok != fine {
		t.Fatalf("ProgRead(%q) is %t", text, ok)
	}
	if !ok && len(p) != 0 {
		t.Fatalf("ProgRead(%q) is false, and %v", text, p)
	}
	if ok && (!impl.ProgOk(p) || impl.ProgText(p) != text || !sameProg(p, want)) {
		t.Fatalf("ProgRead(%q) is %v, whose text is %q", text, p, impl.ProgText(p))
	}
}

func TestP17OneByteOther(t *testing.T) {
	bytes := []byte(" \n\r\t0123456789-+_.aceglopstx\x00\x7f\xff")
	for _, p := range someProgs(40) {
		text := impl.ProgText(p)
		for at := 0; at <= len(text); at++ {
			for _, b := range bytes {
				readsRight(t, text[:at]+string([]byte{b})+text[at:])
				if at < len(text) {
					readsRight(t, text[:at]+string([]byte{b})+text[at+1:])
				}
			}
			if at < len(text) {
				readsRight(t, text[:at]+text[at+1:])
			}
		}
	}
}

func TestP17LinesTakenAndDoubled(t *testing.T) {
	for _, p := range someProgs(400) {
		lines := strings.SplitAfter(impl.ProgText(p), "\n")
		for at := range lines {
			ahead, behind := strings.Join(lines[:at], ""), strings.Join(lines[at+1:], "")
			readsRight(t, ahead+behind)
			readsRight(t, ahead+lines[at]+lines[at]+behind)
			readsRight(t, ahead+"proc\n"+behind)
			readsRight(t, behind+ahead)
		}
	}
}

func TestP17AnyLineOfNumbers(t *testing.T) {
	words := []string{"proc", "set", "move", "ask", "do", "go", "less", "same", "call", "back", "hold", "put", "get", "none", "Set", "SET", "s", "sett", ""}
	numbers := []string{"", " 0", " 1", " 2", " 3", " -1", " 15", " 16", " -16", " -17"}
	for _, word := range words {
		for _, a := range numbers {
			for _, b := range numbers {
				for _, c := range numbers {
					readsRight(t, "proc\n"+word+a+b+c+"\n")
				}
			}
		}
		readsRight(t, "proc\n"+word+" 0 0 0 0\n")
		readsRight(t, "proc\n"+word+" 0 1 1 1 1 1 1\n")
	}
}

func TestP17WrongTexts(t *testing.T) {
	full := "proc\n" + strings.Repeat("back 0\n", codeMost)
	wrong := []string{
		"", "\n", " ", "\x00", "\xff\xfe", "proc", "proc\n\n", "\nproc\n", "proc \n", " proc\n", "proc\r\n", "Proc\n", "PROC\n", "proc 0\n", "procproc\n", "proc proc\n",
		"back 0\n", "back 0\nproc\n", "set 0 0\nproc\n",
		"proc\nset 1  5\n", "proc\nset  1 5\n", "proc\nset 1 5 \n", "proc\n set 1 5\n", "proc\nset\t1 5\n", "proc\nset 1\t5\n", "proc\nset 1 5\t\n",
		"proc\nset 1 05\n", "proc\nset 01 5\n", "proc\nset 1 +5\n", "proc\nset 1 -0\n", "proc\nset 1 --5\n", "proc\nset 1 -05\n", "proc\nset 1 00\n", "proc\nset 1 - 5\n",
		"proc\nset 1 5.0\n", "proc\nset 1 0x5\n", "proc\nset 1 5e0\n", "proc\nset 1 1_0\n", "proc\nset 1 x\n", "proc\nset 1 \xff\n", "proc\nset 1 ٥\n", "proc\nset 1 5\u00a0\n", "proc\nset\u00a01 5\n",
		"proc\nset 1 16\n", "proc\nset 1 -17\n", "proc\nset 1 99999999999999999999\n", "proc\nset 1 -99999999999999999999\n", "proc\nset 1 9223372036854775807\n", "proc\nset 1 -9223372036854775808\n", "proc\nset 18446744073709551617 0\n", "proc\nset 1 4294967297\n",
		"proc\nset 3 0\n", "proc\nset -1 0\n", "proc\nset 1\n", "proc\nset\n", "proc\nset 1 5 0\n", "proc\nset 1 5", "proc\nset 1 5\nproc", "proc\nset 1 5\n\n", "proc\nset 1 5\n\nback 0\n", "proc\n\nset 1 5\n",
		"proc\nask 0 -1\n", "proc\nask 0 16\n", "proc\ndo 0 0 0\n", "proc\ndo 0 0 7\n", "proc\ndo 0 0\n", "proc\ndo 0 3 1\n",
		"proc\ngo 2\n", "proc\ngo -1\n", "proc\ngo\n", "proc\ngo 0 0\n", "proc\ngo 0 0 0\n", "proc\nless 0 0 2\n", "proc\nsame 0 0 2\n", "proc\nless 0 0\n",
		"proc\ncall 0 1 0\n", "proc\ncall 0 -1 0\n", "proc\ncall 0 0 3\n", "proc\ncall 3 0 0\n", "proc\ncall 0 0\n",
		"proc\nback 3\n", "proc\nback\n", "proc\nback 0 0\n", "proc\nhold 3\n", "proc\nhold 0 0\n", "proc\nput 0 3\n", "proc\nget 0\n", "proc\nget 0 0 0\n",
		"proc\nnone 0\n", "proc\nback0\n", "proc\nbackk 0\n", "proc\nback 0;\n", "proc\nback 0 proc\n", "proc\nbäck 0\n", "proc\n0\n", "proc\nback 0\rback 0\n", "proc\nback 0\x00\n",
		full + "back 0\n", full + full + full + full + full, strings.Repeat("proc\n", 5), strings.Repeat("proc\n", 100000), "proc\n" + strings.Repeat("back 0\n", 100000),
		"proc\nback" + strings.Repeat(" ", 100000) + "0\n", "proc\nback " + strings.Repeat("0", 100000) + "\n", "proc\nback" + strings.Repeat(" 0", 100000) + "\n",
	}
	for _, text := range wrong {
		if p, ok := impl.ProgRead(text); ok || len(p) != 0 {
			t.Errorf("ProgRead(%.60q) is %v, %t", text, p, ok)
		}
		readsRight(t, text)
	}
}

func TestP17AtTheLimits(t *testing.T) {
	full := "proc\n" + strings.Repeat("go 8\n", codeMost)
	for _, text := range []string{
		"proc\n", strings.Repeat("proc\n", procsMost), full, strings.Repeat(full, procsMost),
		"proc\nset 2 -16\nset 0 15\n", "proc\nask 2 15\nask 0 0\n", "proc\ngo 1\n", "proc\nless 2 2 1\n", "proc\nproc\ncall 2 1 2\n",
	} {
		p, ok := impl.ProgRead(text)
		if !ok || impl.ProgText(p) != text {
			t.Errorf("ProgRead(%q) is %v, %t", text, p, ok)
		}
	}
}

// oneOther is the ok programs that differ from p by one number of one
// instruction, by an instruction, or by a procedure.
func oneOther(p []impl.Proc) []([]impl.Proc) {
	all := []([]impl.Proc){append(copyProg(p), impl.Proc{}), copyProg(p)[:len(p)-1]}
	for k, proc := range p {
		for at := range proc.Code {
			for _, change := range []impl.Ins{ins(1, 0, 0, 0), ins(-1, 0, 0, 0), ins(0, 1, 0, 0), ins(0, -1, 0, 0), ins(0, 0, 1, 0), ins(0, 0, -1, 0), ins(0, 0, 0, 1), ins(0, 0, 0, -1)} {
				other := copyProg(p)
				i := &other[k].Code[at]
				*i = ins(i.Kind+change.Kind, i.A+change.A, i.B+change.B, i.C+change.C)
				all = append(all, other)
			}
		}
		other := copyProg(p)
		other[k].Code = append(other[k].Code, ins(impl.InsBack, 0, 0, 0))
		all = append(all, other)
	}
	var fine []([]impl.Proc)
	for _, other := range all {
		if progFine(other) {
			fine = append(fine, other)
		}
	}
	return fine
}

func TestP18SameJustIfTextsAre(t *testing.T) {
	for _, p := range someProgs(60) {
		all := append(oneOther(p), p, copyProg(p))
		for _, a := range all {
			for _, b := range all {
				if sameProg(a, b) != (impl.ProgText(a) == impl.ProgText(b)) {
					t.Fatalf("texts of %v and %v: %q, %q", a, b, impl.ProgText(a), impl.ProgText(b))
				}
			}
		}
	}
}

func TestP18NoCodeIsAnEmptyOne(t *testing.T) {
	a, b := []impl.Proc{{Code: nil}}, []impl.Proc{{Code: []impl.Ins{}}}
	if !impl.ProgOk(a) || !impl.ProgOk(b) || impl.ProgText(a) != "proc\n" || impl.ProgText(b) != "proc\n" {
		t.Errorf("%q, %q", impl.ProgText(a), impl.ProgText(b))
	}
}

func TestP19CutWithinALine(t *testing.T) {
	for _, p := range someProgs(300) {
		text := impl.ProgText(p)
		for at := range len(text) {
			cut := text[:at]
			if got, ok := impl.ProgRead(cut); ok && !strings.HasSuffix(cut, "\n") {
				t.Fatalf("ProgRead(%q) is %v", cut, got)
			}
			readsRight(t, cut)
			readsRight(t, text[at:])
		}
	}
}

func TestP19BlankLine(t *testing.T) {
	for _, p := range someProgs(300) {
		lines := strings.SplitAfter(impl.ProgText(p), "\n")
		for at := range lines {
			text := strings.Join(lines[:at], "") + "\n" + strings.Join(lines[at:], "")
			if got, ok := impl.ProgRead(text); ok || len(got) != 0 {
				t.Fatalf("ProgRead(%q) is %v, %t", text, got, ok)
			}
		}
	}
}
