package tests

import (
	"math"
	"slices"
	"strings"
	"testing"

	"loop.example/g00286/impl"
)

const (
	lastReg   = 5
	frameReg  = 6
	mostFrame = 60
)

// opForm says of an op which fields it names, which of them it sets and which it reads.
type opForm struct {
	op     int
	names  string
	sets   string
	reads  string
	framed bool
	number int
}

// opForms are the ops in the document's order, with the numbers that it gives them.
var opForms = []opForm{
	{impl.MLi, "RN", "R", "", false, 1},
	{impl.MMov, "RA", "R", "A", false, 2},
	{impl.MAdd, "RAB", "R", "AB", false, 3},
	{impl.MSub, "RAB", "R", "AB", false, 4},
	{impl.MMul, "RAB", "R", "AB", false, 5},
	{impl.MLt, "RAB", "R", "AB", false, 6},
	{impl.MEq, "RAB", "R", "AB", false, 7},
	{impl.MLd, "RAN", "R", "A", true, 8},
	{impl.MSt, "ABN", "", "AB", true, 9},
	{impl.MCas, "RAB", "R", "RAB", false, 10},
	{impl.MJmp, "N", "", "", false, 11},
	{impl.MJz, "AN", "", "A", false, 12},
	{impl.MCall, "NM", "", "", false, 13},
	{impl.MRet, "", "", "", false, 14},
	{impl.MOut, "A", "", "A", false, 15},
	{impl.MNote, "AB", "", "AB", false, 16},
	{impl.MSwap, "AB", "", "AB", false, 17},
	{impl.MCore, "R", "R", "", false, 18},
	{impl.MHalt, "A", "", "A", false, 19},
}

func formOf(op int) (opForm, bool) {
	for _, f := range opForms {
		if f.op == op {
			return f, true
		}
	}
	return opForm{}, false
}

func fieldOf(x *impl.Ins, name rune) *int {
	switch name {
	case 'R':
		return &x.R
	case 'A':
		return &x.A
	case 'B':
		return &x.B
	case 'N':
		return &x.N
	}
	return &x.M
}

// highest and lowest are the limits of a named field.
func highest(f opForm, name rune) int {
	switch {
	case name == 'N':
		return greatest
	case name == 'M':
		return mostFrame
	case name == 'A' && f.framed:
		return frameReg
	}
	return lastReg
}

func lowest(name rune) int {
	if name == 'N' {
		return least
	}
	return 0
}

func wantOk(x impl.Ins) bool {
	f, ok := formOf(x.Op)
	if !ok {
		return false
	}
	for _, name := range "RABNM" {
		n := *fieldOf(&x, name)
		if !strings.ContainsRune(f.names, name) {
			if n != 0 {
				return false
			}
		} else if n < lowest(name) || n > highest(f, name) {
			return false
		}
	}
	return true
}

func wantWrites(x impl.Ins) int {
	f, _ := formOf(x.Op)
	if !wantOk(x) || f.sets == "" {
		return -1
	}
	return x.R
}

func wantReads(x impl.Ins) []int {
	var out []int
	f, _ := formOf(x.Op)
	for reg := 0; reg <= lastReg && wantOk(x); reg++ {
		for _, name := range f.reads {
			if *fieldOf(&x, name) == reg {
				out = append(out, reg)
				break
			}
		}
	}
	return out
}

func checkIns(t *testing.T, x impl.Ins) {
	t.Helper()
	if got, want := impl.InsOk(x), wantOk(x); got != want {
		t.Errorf("InsOk(%+v) = %v", x, got)
	}
	if got, want := impl.Writes(x), wantWrites(x); got != want {
		t.Errorf("Writes(%+v) = %d, not %d", x, got, want)
	}
	if got, want := impl.Reads(x), wantReads(x); !slices.Equal(got, want) {
		t.Errorf("Reads(%+v) = %v, not %v", x, got, want)
	}
}

// ordinary is a right place of that op, whose fields differ from each other and from 0.
func ordinary(f opForm) impl.Ins {
	x := impl.Ins{Op: f.op}
	for i, n := range []int{5, 3, 1, -70, 9} {
		if name := rune("RABNM"[i]); strings.ContainsRune(f.names, name) {
			*fieldOf(&x, name) = n
		}
	}
	return x
}

func TestOpsAreNumberedAsTheDocumentSays(t *testing.T) {
	for _, f := range opForms {
		if f.op != f.number {
			t.Errorf("the op at %d is %d", f.number, f.op)
		}
	}
	if len(opForms) != 19 || impl.Regs != lastReg+1 || impl.MaxFrame != mostFrame {
		t.Errorf("Regs is %d, MaxFrame %d", impl.Regs, impl.MaxFrame)
	}
}

func TestOrdinaryPlaces(t *testing.T) {
	for _, c := range []struct {
		x     impl.Ins
		sets  int
		reads []int
	}{
		{impl.Ins{Op: impl.MLi, R: 2, N: -7}, 2, nil},
		{impl.Ins{Op: impl.MMov, R: 2, A: 4}, 2, []int{4}},
		{impl.Ins{Op: impl.MAdd, R: 1, A: 5, B: 3}, 1, []int{3, 5}},
		{impl.Ins{Op: impl.MSub, R: 0, A: 0, B: 5}, 0, []int{0, 5}},
		{impl.Ins{Op: impl.MMul, R: 5, A: 2, B: 2}, 5, []int{2}},
		{impl.Ins{Op: impl.MLt, R: 3, A: 1, B: 0}, 3, []int{0, 1}},
		{impl.Ins{Op: impl.MEq, R: 4, A: 4, B: 4}, 4, []int{4}},
		{impl.Ins{Op: impl.MLd, R: 1, A: 2, N: 100}, 1, []int{2}},
		{impl.Ins{Op: impl.MLd, R: 1, A: 6, N: 3}, 1, nil},
		{impl.Ins{Op: impl.MSt, A: 4, B: 2, N: -1}, -1, []int{2, 4}},
		{impl.Ins{Op: impl.MSt, A: 6, B: 2}, -1, []int{2}},
		{impl.Ins{Op: impl.MCas, R: 5, A: 4, B: 3}, 5, []int{3, 4, 5}},
		{impl.Ins{Op: impl.MCas, R: 1, A: 3, B: 1}, 1, []int{1, 3}},
		{impl.Ins{Op: impl.MCas, R: 2, A: 2, B: 2}, 2, []int{2}},
		{impl.Ins{Op: impl.MJmp, N: 12}, -1, nil},
		{impl.Ins{Op: impl.MJz, A: 3, N: 12}, -1, []int{3}},
		{impl.Ins{Op: impl.MCall, N: 40, M: 7}, -1, nil},
		{impl.Ins{Op: impl.MRet}, -1, nil},
		{impl.Ins{Op: impl.MOut, A: 1}, -1, []int{1}},
		{impl.Ins{Op: impl.MNote, A: 5, B: 1}, -1, []int{1, 5}},
		{impl.Ins{Op: impl.MSwap, A: 2, B: 0}, -1, []int{0, 2}},
		{impl.Ins{Op: impl.MSwap, A: 2, B: 2}, -1, []int{2}},
		{impl.Ins{Op: impl.MCore, R: 3}, 3, nil},
		{impl.Ins{Op: impl.MHalt, A: 4}, -1, []int{4}},
	} {
		if !impl.InsOk(c.x) {
			t.Errorf("InsOk(%+v) is false", c.x)
		}
		if got := impl.Writes(c.x); got != c.sets {
			t.Errorf("Writes(%+v) = %d, not %d", c.x, got, c.sets)
		}
		if got := impl.Reads(c.x); !slices.Equal(got, c.reads) {
			t.Errorf("Reads(%+v) = %v, not %v", c.x, got, c.reads)
		}
	}
}

// Each named field at its limits and one beyond each of them, the others ordinary.
func TestFieldsAtTheirLimits(t *testing.T) {
	for _, f := range opForms {
		for _, name := range f.names {
			low, high := lowest(name), highest(f, name)
			for n, want := range map[int]bool{low - 1: false, low: true, low + 1: true, high - 1: true, high: true, high + 1: false} {
				x := ordinary(f)
				*fieldOf(&x, name) = n
				if impl.InsOk(x) != want {
					t.Errorf("InsOk(%+v) is not %v: %c is %d", x, want, name, n)
				}
				checkIns(t, x)
			}
		}
	}
}

func TestFieldsThatAreNotNamed(t *testing.T) {
	for _, f := range opForms {
		for _, name := range "RABNM" {
			if strings.ContainsRune(f.names, name) {
				continue
			}
			for _, n := range []int{1, -1, lastReg, frameReg, mostFrame, least, greatest, turn, -turn, math.MinInt, math.MaxInt} {
				x := ordinary(f)
				*fieldOf(&x, name) = n
				if impl.InsOk(x) {
					t.Errorf("InsOk(%+v): %c is not named, and not 0", x, name)
				}
				checkIns(t, x)
			}
		}
	}
}

func TestTheFramesPlace(t *testing.T) {
	for _, f := range opForms {
		for _, name := range f.names {
			if name == 'N' || name == 'M' {
				continue
			}
			x := ordinary(f)
			*fieldOf(&x, name) = impl.Regs
			framed := name == 'A' && (f.op == impl.MLd || f.op == impl.MSt)
			if impl.InsOk(x) != framed {
				t.Errorf("InsOk(%+v) is not %v", x, framed)
			}
			if slices.Contains(impl.Reads(x), impl.Regs) || impl.Writes(x) == impl.Regs {
				t.Errorf("the frame's place is told as a register of %+v", x)
			}
		}
	}
	for _, x := range []impl.Ins{{Op: impl.MLd, R: 1, A: impl.Regs + 1}, {Op: impl.MSt, A: impl.Regs + 1, B: 1}, {Op: impl.MSt, A: impl.Regs, B: impl.Regs}} {
		if impl.InsOk(x) {
			t.Errorf("InsOk(%+v)", x)
		}
	}
}

func TestOpsThatAreNone(t *testing.T) {
	for _, op := range []int{0, -1, impl.MLi - 1, impl.MHalt + 1, impl.MHalt + 2, -impl.MLi, -impl.MHalt, 1 << 8, 1<<8 + 1, 1<<16 + 1, 1<<32 + 1, 1<<62 + 1, least, greatest, math.MinInt, math.MinInt + 1, math.MaxInt} {
		for _, x := range []impl.Ins{{Op: op}, {Op: op, R: 1}, {Op: op, R: 1, A: 2, B: 3}, {Op: op, A: 2, N: 5}, {Op: op, N: 5, M: 6}} {
			if impl.InsOk(x) || impl.Writes(x) != -1 || len(impl.Reads(x)) != 0 {
				t.Errorf("%+v is a place that sets %d and reads %v", x, impl.Writes(x), impl.Reads(x))
			}
		}
	}
}

func TestTheZeroPlace(t *testing.T) {
	if x := (impl.Ins{}); impl.InsOk(x) || impl.Writes(x) != -1 || len(impl.Reads(x)) != 0 {
		t.Error("the zero value is a place")
	}
	for _, f := range opForms {
		x := impl.Ins{Op: f.op}
		if !impl.InsOk(x) {
			t.Errorf("InsOk(%+v) is false", x)
		}
		checkIns(t, x)
	}
}

// Every op with all registers from one below to two beyond, and numbers about the limits.
func TestAllPlacesAboutTheLimits(t *testing.T) {
	for op := impl.MLi - 2; op <= impl.MHalt+2; op++ {
		for r := -1; r <= impl.Regs+1; r++ {
			for a := -1; a <= impl.Regs+1; a++ {
				for b := -1; b <= impl.Regs+1; b++ {
					for _, n := range []int{0, 1, least, least - 1, greatest, greatest + 1} {
						for _, m := range []int{0, 1, mostFrame, mostFrame + 1, -1} {
							checkIns(t, impl.Ins{Op: op, R: r, A: a, B: b, N: n, M: m})
						}
					}
				}
			}
		}
	}
}

// Numbers from all of int, in one field and in all of them.
func TestFieldsFarBeyond(t *testing.T) {
	far := append(edges(), math.MinInt, math.MaxInt)
	for _, f := range opForms {
		for _, n := range far {
			checkIns(t, impl.Ins{Op: f.op, R: n, A: n, B: n, N: n, M: n})
			for _, name := range "RABNM" {
				x := ordinary(f)
				*fieldOf(&x, name) = n
				checkIns(t, x)
			}
		}
	}
	many := manyNumbers(30000)
	for i := 0; i+5 < len(many); i += 6 {
		x := impl.Ins{Op: many[i], R: many[i+1], A: many[i+2], B: many[i+3], N: many[i+4], M: many[i+5]}
		checkIns(t, x)
		x.Op = (many[i] & math.MaxInt) % 21
		checkIns(t, x)
	}
}

// What a place that is right sets and reads are registers, ascending, and each of them is a field of the place.
func TestWhatIsReadAndSetIsNamed(t *testing.T) {
	for _, f := range opForms {
		for r := range 6 {
			for a := range 7 {
				for b := range 6 {
					x := impl.Ins{Op: f.op, R: r, A: a, B: b}
					for _, name := range "RAB" {
						if !strings.ContainsRune(f.names, name) {
							*fieldOf(&x, name) = 0
						}
					}
					if !impl.InsOk(x) {
						continue
					}
					var named []int
					for _, name := range "RAB" {
						if strings.ContainsRune(f.names, name) {
							named = append(named, *fieldOf(&x, name))
						}
					}
					if w := impl.Writes(x); w != -1 && (w < 0 || w >= impl.Regs || !slices.Contains(named, w)) {
						t.Errorf("%+v sets %d", x, w)
					}
					was := -1
					for _, n := range impl.Reads(x) {
						if n <= was || n >= impl.Regs || !slices.Contains(named, n) {
							t.Errorf("%+v reads %v", x, impl.Reads(x))
						}
						was = n
					}
				}
			}
		}
	}
}

// What is written into an answer, or into the room behind it, is not seen in the next one.
func TestReadsIsNewMemory(t *testing.T) {
	for _, f := range opForms {
		x := ordinary(f)
		same := x
		same.A, same.B = min(x.A, 1), min(x.B, 1)
		for _, x := range []impl.Ins{x, same} {
			first := impl.Reads(x)
			kept := slices.Clone(first)
			second := impl.Reads(x)
			for i := range first[:cap(first)] {
				first[:cap(first)][i] = -9
			}
			if !slices.Equal(second, kept) || !slices.Equal(impl.Reads(x), kept) {
				t.Errorf("Reads(%+v) = %v, then %v", x, kept, impl.Reads(x))
			}
		}
	}
}
