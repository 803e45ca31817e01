package tests

import (
	"fmt"
	"math"
	"math/big"
	"slices"
	"testing"

	"loop.example/g00286/impl"
)

func wordsOk(list ...int) bool {
	for _, n := range list {
		if n < least || n > greatest {
			return false
		}
	}
	return true
}

func wantCoreOk(c impl.Core) bool {
	return wordsOk(c.Pc, c.Fp) && len(c.Regs) == lastReg+1 && wordsOk(c.Regs...)
}

func wrap(n int) int { return roundByBig(big.NewInt(int64(n))) }

func flag(so bool) int {
	if so {
		return 1
	}
	return 0
}

func cloneCore(c impl.Core) impl.Core {
	return impl.Core{Pc: c.Pc, Fp: c.Fp, Regs: slices.Clone(c.Regs)}
}

func sameCore(a, b impl.Core) bool {
	return a.Pc == b.Pc && a.Fp == b.Fp && slices.Equal(a.Regs, b.Regs)
}

// wantNeeds are the addresses that a right place needs.
func wantNeeds(x impl.Ins, regs []int, fp int) []int {
	a, b := regs[x.A], regs[x.B]
	switch x.Op {
	case impl.MLd, impl.MSt:
		return []int{wrap(a + x.N)}
	case impl.MCas:
		return []int{a}
	case impl.MCall:
		return []int{wrap(fp + x.M), wrap(fp+x.M) + 1}
	case impl.MRet:
		return []int{fp, fp + 1}
	case impl.MSwap:
		return []int{a, a + 1, b, b + 1}
	}
	return nil
}

// wantRight is what a right place does, whose addresses are some: it reads from was and mem alone, and writes into copies alone.
func wantRight(x impl.Ins, mem []int, was impl.Core, number int) (impl.Core, []int, impl.Effect) {
	read := append(slices.Clone(was.Regs), was.Fp)
	r, a, b := read[x.R], read[x.A], read[x.B]
	c, now, effect := cloneCore(was), slices.Clone(mem), impl.Effect{}
	next := was.Pc + 1
	c.Pc = next
	switch x.Op {
	case impl.MLi:
		c.Regs[x.R] = x.N
	case impl.MMov:
		c.Regs[x.R] = a
	case impl.MAdd:
		c.Regs[x.R] = wrap(a + b)
	case impl.MSub:
		c.Regs[x.R] = wrap(a - b)
	case impl.MMul:
		c.Regs[x.R] = wrap(a * b)
	case impl.MLt:
		c.Regs[x.R] = flag(a < b)
	case impl.MEq:
		c.Regs[x.R] = flag(a == b)
	case impl.MLd:
		c.Regs[x.R] = mem[wrap(a+x.N)]
	case impl.MSt:
		now[wrap(a+x.N)] = b
	case impl.MCas:
		if c.Regs[x.R] = flag(mem[a] == r); mem[a] == r {
			now[a] = b
		}
	case impl.MJmp:
		c.Pc = x.N
	case impl.MJz:
		if a == 0 {
			c.Pc = x.N
		}
	case impl.MCall:
		c.Pc, c.Fp = x.N, wrap(was.Fp+x.M)
		now[c.Fp], now[c.Fp+1] = next, was.Fp
	case impl.MRet:
		c.Pc, c.Fp = mem[was.Fp], mem[was.Fp+1]
	case impl.MOut:
		effect = impl.Effect{Kind: 1, A: a}
	case impl.MNote:
		effect = impl.Effect{Kind: 2, A: a, B: b}
	case impl.MHalt:
		effect = impl.Effect{Kind: 3, A: a}
	case impl.MSwap:
		now[a], now[a+1] = next, was.Fp
		c.Pc, c.Fp = mem[b], mem[b+1]
	case impl.MCore:
		c.Regs[x.R] = wrap(number)
	}
	return c, now, effect
}

func wantExec(image []impl.Ins, mem []int, c impl.Core, number int) (impl.Core, []int, impl.Effect) {
	if wantCoreOk(c) && c.Pc >= 0 && c.Pc < len(image) && wantOk(image[c.Pc]) {
		x := image[c.Pc]
		ok := true
		for _, n := range wantNeeds(x, append(slices.Clone(c.Regs), c.Fp), c.Fp) {
			ok = ok && n >= 0 && n < len(mem)
		}
		if ok {
			return wantRight(x, mem, c, number)
		}
	}
	return cloneCore(c), slices.Clone(mem), impl.Effect{Kind: 4}
}

// clip is the beginning of what a long list is shown as.
func clip(x any) string {
	text := fmt.Sprintf("%+v", x)
	return text[:min(len(text), 200)]
}

// checkExec tells the kind of the effect, so that a test can say which of them it met.
func checkExec(t *testing.T, image []impl.Ins, mem []int, c impl.Core, number int) int {
	t.Helper()
	image0, mem0, c0 := slices.Clone(image), slices.Clone(mem), cloneCore(c)
	d, m, e := impl.Exec(image, mem, c, number)
	wantD, wantM, wantE := wantExec(image0, mem0, c0, number)
	if !sameCore(d, wantD) || e != wantE || !slices.Equal(m, wantM) {
		t.Errorf("Exec of %s, memory %s, core %+v, number %d:\n got %+v %s %+v\nwant %+v %s %+v", clip(image0), clip(mem0), c0, number, d, clip(m), e, wantD, clip(wantM), wantE)
	}
	if !slices.Equal(image, image0) || !slices.Equal(mem, mem0) || !sameCore(c, c0) {
		t.Errorf("Exec of %s, memory %s, core %+v writes into what it was given", clip(image0), clip(mem0), c0)
	}
	return e.Kind
}

func at(pc, fp int, regs ...int) impl.Core {
	return impl.Core{Pc: pc, Fp: fp, Regs: regs}
}

func ramp(count int) []int {
	out := make([]int, count)
	for i := range out {
		out[i] = 100 + i
	}
	return out
}

// put is a copy of the list with these numbers at these places: place, number, place, number ..
func put(list []int, pairs ...int) []int {
	out := slices.Clone(list)
	for i := 0; i+1 < len(pairs); i += 2 {
		out[pairs[i]] = pairs[i+1]
	}
	return out
}

func TestCoreConstants(t *testing.T) {
	if impl.MaxMem != 4000 || impl.EfNone != 0 || impl.EfOut != 1 || impl.EfNote != 2 || impl.EfHalt != 3 || impl.EfTrap != 4 {
		t.Error(impl.MaxMem, impl.EfNone, impl.EfOut, impl.EfNote, impl.EfHalt, impl.EfTrap)
	}
}

func TestCoreOk(t *testing.T) {
	for _, c := range []struct {
		c    impl.Core
		want bool
	}{
		{at(0, 0, 0, 0, 0, 0, 0, 0), true},
		{at(3, 9, 1, -2, 3, -4, 5, -6), true},
		{at(least, least, least, least, least, least, least, least), true},
		{at(greatest, greatest, greatest, greatest, greatest, greatest, greatest, greatest), true},
		{impl.Core{}, false},
		{impl.Core{Regs: []int{}}, false},
		{at(0, 0, 1), false},
		{at(0, 0, 1, 2, 3, 4, 5), false},
		{at(0, 0, 1, 2, 3, 4, 5, 6, 7), false},
		{at(0, 0, make([]int, 1000)...), false},
	} {
		if impl.CoreOk(c.c) != c.want {
			t.Errorf("CoreOk(%+v) is not %v", c.c, c.want)
		}
	}
	for _, n := range append(append(edges(), math.MinInt, math.MaxInt), manyNumbers(1000)...) {
		want := n >= least && n <= greatest
		all := []impl.Core{at(n, 0, 0, 0, 0, 0, 0, 0), at(0, n, 0, 0, 0, 0, 0, 0)}
		for reg := range 6 {
			all = append(all, at(1, 2, put([]int{1, 2, 3, 4, 5, 6}, reg, n)...))
		}
		for _, c := range all {
			kept := cloneCore(c)
			if impl.CoreOk(c) != want {
				t.Errorf("CoreOk(%+v) is not %v", c, want)
			}
			if !sameCore(c, kept) {
				t.Errorf("CoreOk writes into %+v", kept)
			}
		}
	}
}

// The room behind the registers does not count, nor is it written into.
func TestCoreOkAndTheRoomBehind(t *testing.T) {
	room := []int{1, 2, 3, 4, 5, 6, greatest + 1, 8}
	for n, want := range map[int]bool{0: false, 5: false, 6: true, 7: false, 8: false} {
		if impl.CoreOk(impl.Core{Regs: room[:n]}) != want {
			t.Errorf("CoreOk with %d registers is not %v", n, want)
		}
	}
	if !slices.Equal(room, []int{1, 2, 3, 4, 5, 6, greatest + 1, 8}) {
		t.Error("CoreOk writes into the registers", room)
	}
}

// One place of each op, its core, its memory and its effect said field by field.
func TestAPlaceOfEachOp(t *testing.T) {
	mem := ramp(12)
	regs := []int{2, 7, 5, 0, -3, 102}
	for _, k := range []struct {
		x      impl.Ins
		pc, fp int
		regs   []int
		mem    []int
		effect impl.Effect
	}{
		{impl.Ins{Op: impl.MLi, R: 3, N: -77}, 2, 4, put(regs, 3, -77), mem, impl.Effect{}},
		{impl.Ins{Op: impl.MMov, R: 3, A: 4}, 2, 4, put(regs, 3, -3), mem, impl.Effect{}},
		{impl.Ins{Op: impl.MAdd, R: 0, A: 1, B: 4}, 2, 4, put(regs, 0, 4), mem, impl.Effect{}},
		{impl.Ins{Op: impl.MSub, R: 3, A: 4, B: 1}, 2, 4, put(regs, 3, -10), mem, impl.Effect{}},
		{impl.Ins{Op: impl.MMul, R: 1, A: 1, B: 4}, 2, 4, put(regs, 1, -21), mem, impl.Effect{}},
		{impl.Ins{Op: impl.MLt, R: 3, A: 4, B: 0}, 2, 4, put(regs, 3, 1), mem, impl.Effect{}},
		{impl.Ins{Op: impl.MLt, R: 5, A: 0, B: 4}, 2, 4, put(regs, 5, 0), mem, impl.Effect{}},
		{impl.Ins{Op: impl.MLt, R: 5, A: 0, B: 0}, 2, 4, put(regs, 5, 0), mem, impl.Effect{}},
		{impl.Ins{Op: impl.MEq, R: 3, A: 4, B: 4}, 2, 4, put(regs, 3, 1), mem, impl.Effect{}},
		{impl.Ins{Op: impl.MEq, R: 2, A: 4, B: 1}, 2, 4, put(regs, 2, 0), mem, impl.Effect{}},
		{impl.Ins{Op: impl.MLd, R: 3, A: 0, N: 6}, 2, 4, put(regs, 3, 108), mem, impl.Effect{}},
		{impl.Ins{Op: impl.MLd, R: 3, A: 6, N: 6}, 2, 4, put(regs, 3, 110), mem, impl.Effect{}},
		{impl.Ins{Op: impl.MSt, A: 2, B: 4, N: -5}, 2, 4, regs, put(mem, 0, -3), impl.Effect{}},
		{impl.Ins{Op: impl.MSt, A: 6, B: 5, N: -1}, 2, 4, regs, put(mem, 3, 102), impl.Effect{}},
		{impl.Ins{Op: impl.MCas, R: 5, A: 0, B: 4}, 2, 4, put(regs, 5, 1), put(mem, 2, -3), impl.Effect{}},
		{impl.Ins{Op: impl.MCas, R: 4, A: 0, B: 5}, 2, 4, put(regs, 4, 0), mem, impl.Effect{}},
		{impl.Ins{Op: impl.MJmp, N: 90}, 90, 4, regs, mem, impl.Effect{}},
		{impl.Ins{Op: impl.MJz, A: 3, N: 90}, 90, 4, regs, mem, impl.Effect{}},
		{impl.Ins{Op: impl.MJz, A: 4, N: 90}, 2, 4, regs, mem, impl.Effect{}},
		{impl.Ins{Op: impl.MCall, N: 90, M: 5}, 90, 9, regs, put(mem, 9, 2, 10, 4), impl.Effect{}},
		{impl.Ins{Op: impl.MCall, N: 90}, 90, 4, regs, put(mem, 4, 2, 5, 4), impl.Effect{}},
		{impl.Ins{Op: impl.MRet}, 104, 105, regs, mem, impl.Effect{}},
		{impl.Ins{Op: impl.MOut, A: 4}, 2, 4, regs, mem, impl.Effect{Kind: impl.EfOut, A: -3}},
		{impl.Ins{Op: impl.MNote, A: 4, B: 1}, 2, 4, regs, mem, impl.Effect{Kind: impl.EfNote, A: -3, B: 7}},
		{impl.Ins{Op: impl.MHalt, A: 5}, 2, 4, regs, mem, impl.Effect{Kind: impl.EfHalt, A: 102}},
		{impl.Ins{Op: impl.MSwap, A: 1, B: 0}, 102, 103, regs, put(mem, 7, 2, 8, 4), impl.Effect{}},
		{impl.Ins{Op: impl.MCore, R: 4}, 2, 4, put(regs, 4, 6), mem, impl.Effect{}},
	} {
		image := []impl.Ins{{Op: impl.MHalt}, k.x, {Op: impl.MHalt}}
		d, m, e := impl.Exec(image, mem, at(1, 4, regs...), 6)
		if want := at(k.pc, k.fp, k.regs...); !sameCore(d, want) {
			t.Errorf("%+v: the core is %+v, not %+v", k.x, d, want)
		}
		if !slices.Equal(m, k.mem) {
			t.Errorf("%+v: the memory is %v, not %v", k.x, m, k.mem)
		}
		if e != k.effect {
			t.Errorf("%+v: the effect is %+v, not %+v", k.x, e, k.effect)
		}
		checkExec(t, image, mem, at(1, 4, regs...), 6)
	}
}

func TestPcAndTheImage(t *testing.T) {
	image := []impl.Ins{{Op: impl.MLi, R: 0, N: 10}, {Op: impl.MLi, R: 0, N: 11}, {Op: impl.MLi, R: 0, N: 12}}
	for pc := -2; pc <= 4; pc++ {
		d, m, e := impl.Exec(image, []int{7}, at(pc, 0, 1, 2, 3, 4, 5, 6), 0)
		want, kind := at(pc, 0, 1, 2, 3, 4, 5, 6), impl.EfTrap
		if pc >= 0 && pc < 3 {
			want, kind = at(pc+1, 0, 10+pc, 2, 3, 4, 5, 6), impl.EfNone
		}
		if !sameCore(d, want) || e != (impl.Effect{Kind: kind}) || !slices.Equal(m, []int{7}) {
			t.Errorf("at %d: %+v %v %+v", pc, d, m, e)
		}
	}
	// A place that could be met by what lies in the room behind the image.
	if _, _, e := impl.Exec(image[:2], nil, at(2, 0, 1, 2, 3, 4, 5, 6), 0); e.Kind != impl.EfTrap {
		t.Error("a place behind the image is done")
	}
	for _, pc := range append(edges(), math.MinInt, math.MaxInt) {
		checkExec(t, image, []int{7}, at(pc, 0, 1, 2, 3, 4, 5, 6), 0)
	}
}

// Each place that reaches for memory, by every way to an address: the first and the last and those beyond them.
func TestAddressesAtTheEnds(t *testing.T) {
	for _, size := range []int{0, 1, 2, 3, 5, impl.MaxMem - 1, impl.MaxMem, impl.MaxMem + 1} {
		mem := ramp(size)
		var near []int
		for d := -3; d <= 3; d++ {
			near = append(near, d, size+d)
		}
		near = append(near, least, least+1, greatest, greatest-1)
		for _, n := range near {
			for _, k := range []struct {
				x     impl.Ins
				c     impl.Core
				words int
			}{
				{impl.Ins{Op: impl.MLd, R: 1, A: 2}, at(0, 0, 0, 0, n, 0, 0, 0), 1},
				{impl.Ins{Op: impl.MLd, R: 1, A: 2, N: n}, at(0, 0, 0, 0, 0, 0, 0, 0), 1},
				{impl.Ins{Op: impl.MLd, R: 1, A: 6}, at(0, n, 0, 0, 0, 0, 0, 0), 1},
				{impl.Ins{Op: impl.MSt, A: 2, B: 1}, at(0, 0, 0, 9, n, 0, 0, 0), 1},
				{impl.Ins{Op: impl.MSt, A: 2, B: 1, N: n}, at(0, 0, 0, 9, 0, 0, 0, 0), 1},
				{impl.Ins{Op: impl.MSt, A: 6, B: 1}, at(0, n, 0, 9, 0, 0, 0, 0), 1},
				{impl.Ins{Op: impl.MCas, R: 1, A: 2, B: 3}, at(0, 0, 0, 100+n&1023, n, 8, 0, 0), 1},
				{impl.Ins{Op: impl.MCall, N: 3}, at(0, n, 1, 2, 3, 4, 5, 6), 2},
				{impl.Ins{Op: impl.MRet}, at(0, n, 1, 2, 3, 4, 5, 6), 2},
				{impl.Ins{Op: impl.MSwap, A: 2, B: 2}, at(0, 1, 0, 0, n, 0, 0, 0), 2},
			} {
				kind := impl.EfTrap
				if n >= 0 && n+k.words <= size {
					kind = impl.EfNone
				}
				if got := checkExec(t, []impl.Ins{k.x}, mem, k.c, 0); got != kind {
					t.Errorf("%+v at %d of %d words: the effect is %d, not %d", k.x, n, size, got, kind)
				}
			}
		}
	}
}

// Of the two of MSwap, each alone may be the one that is none.
func TestSwapNeedsAllFourAddresses(t *testing.T) {
	mem := ramp(6)
	for a := -2; a <= 7; a++ {
		for b := -2; b <= 7; b++ {
			kind := impl.EfTrap
			if a >= 0 && a+1 < 6 && b >= 0 && b+1 < 6 {
				kind = impl.EfNone
			}
			if got := checkExec(t, []impl.Ins{{Op: impl.MSwap, A: 3, B: 1}}, mem, at(0, 77, 0, b, 0, a, 0, 0), 0); got != kind {
				t.Errorf("MSwap at %d and %d of 6 words: the effect is %d, not %d", a, b, got, kind)
			}
		}
	}
}

func TestSwapReadsFirst(t *testing.T) {
	mem := []int{100, 101, 102, 103, 104, 105}
	for _, k := range []struct {
		a, b   int
		pc, fp int
		mem    []int
	}{
		{2, 2, 102, 103, []int{100, 101, 1, 44, 104, 105}},
		{2, 1, 101, 102, []int{100, 101, 1, 44, 104, 105}},
		{2, 3, 103, 104, []int{100, 101, 1, 44, 104, 105}},
		{0, 4, 104, 105, []int{1, 44, 102, 103, 104, 105}},
		{4, 0, 100, 101, []int{100, 101, 102, 103, 1, 44}},
	} {
		d, m, e := impl.Exec([]impl.Ins{{Op: impl.MSwap, A: 5, B: 0}}, mem, at(0, 44, k.b, 0, 0, 0, 0, k.a), 0)
		if !sameCore(d, at(k.pc, k.fp, k.b, 0, 0, 0, 0, k.a)) || !slices.Equal(m, k.mem) || e != (impl.Effect{}) {
			t.Errorf("MSwap at %d and %d: %+v %v %+v", k.a, k.b, d, m, e)
		}
	}
	// One register for both.
	d, m, _ := impl.Exec([]impl.Ins{{Op: impl.MSwap, A: 4, B: 4}}, mem, at(0, 44, 0, 0, 0, 0, 1, 0), 0)
	if d.Pc != 101 || d.Fp != 102 || !slices.Equal(m, []int{100, 1, 44, 103, 104, 105}) {
		t.Error("MSwap of one register", d, m)
	}
}

func TestCasWhereRIsReadToo(t *testing.T) {
	for _, k := range []struct {
		name string
		x    impl.Ins
		regs []int
		mem  []int
		want []int
		then []int
	}{
		{"R is A, the same", impl.Ins{Op: impl.MCas, R: 2, A: 2, B: 1}, []int{0, 9, 3, 0, 0, 0}, []int{5, 5, 5, 3}, []int{0, 9, 1, 0, 0, 0}, []int{5, 5, 5, 9}},
		{"R is A, another", impl.Ins{Op: impl.MCas, R: 2, A: 2, B: 1}, []int{0, 9, 3, 0, 0, 0}, []int{5, 5, 5, 5}, []int{0, 9, 0, 0, 0, 0}, []int{5, 5, 5, 5}},
		{"R is A, at 1", impl.Ins{Op: impl.MCas, R: 2, A: 2, B: 1}, []int{0, 9, 1, 0, 0, 0}, []int{0, 1, 5, 5}, []int{0, 9, 1, 0, 0, 0}, []int{0, 9, 5, 5}},
		{"R is B, the same", impl.Ins{Op: impl.MCas, R: 1, A: 2, B: 1}, []int{0, 9, 3, 0, 0, 0}, []int{5, 5, 5, 9}, []int{0, 1, 3, 0, 0, 0}, []int{5, 5, 5, 9}},
		{"R is B, another", impl.Ins{Op: impl.MCas, R: 1, A: 2, B: 1}, []int{0, 9, 3, 0, 0, 0}, []int{5, 5, 5, 8}, []int{0, 0, 3, 0, 0, 0}, []int{5, 5, 5, 8}},
		{"A is B", impl.Ins{Op: impl.MCas, R: 0, A: 2, B: 2}, []int{7, 0, 3, 0, 0, 0}, []int{5, 5, 5, 7}, []int{1, 0, 3, 0, 0, 0}, []int{5, 5, 5, 3}},
		{"all one", impl.Ins{Op: impl.MCas, R: 2, A: 2, B: 2}, []int{0, 0, 3, 0, 0, 0}, []int{5, 5, 5, 3}, []int{0, 0, 1, 0, 0, 0}, []int{5, 5, 5, 3}},
		{"R is 0, at 0", impl.Ins{Op: impl.MCas, R: 3, A: 4, B: 5}, []int{0, 0, 0, 0, 0, 6}, []int{0, 5, 5, 5}, []int{0, 0, 0, 1, 0, 6}, []int{6, 5, 5, 5}},
	} {
		d, m, e := impl.Exec([]impl.Ins{k.x}, k.mem, at(0, 2, k.regs...), 0)
		if !sameCore(d, at(1, 2, k.want...)) || !slices.Equal(m, k.then) || e != (impl.Effect{}) {
			t.Errorf("%s: %+v %v %+v", k.name, d, m, e)
		}
	}
}

// The registers that are read are those of before, whichever of them is set.
func TestRegistersAreReadFirst(t *testing.T) {
	mem := ramp(8)
	for _, op := range []int{impl.MMov, impl.MAdd, impl.MSub, impl.MMul, impl.MLt, impl.MEq, impl.MLd, impl.MCas} {
		f, _ := formOf(op)
		for r := range 6 {
			for a := range highest(f, 'A') + 1 {
				for b := range 6 {
					x := impl.Ins{Op: op, R: r, A: a, B: b}
					if op == impl.MMov || op == impl.MLd {
						x.B = 0
					}
					if !impl.InsOk(x) {
						t.Fatalf("%+v is no place", x)
					}
					for _, regs := range [][]int{{1, 2, 3, 4, 5, 6}, {6, 5, 4, 3, 2, 1}, {0, 0, 1, 1, 2, 2}} {
						checkExec(t, []impl.Ins{x}, mem, at(0, 7, regs...), 0)
					}
				}
			}
		}
	}
}

func TestReturnReadsAtTheFrameOfBefore(t *testing.T) {
	// What lies at the frame is another frame's place: both are read at 2.
	mem := []int{50, 51, 6, 4, 54, 55, 56, 57}
	d, m, e := impl.Exec([]impl.Ins{{Op: impl.MRet}}, mem, at(0, 2, 1, 2, 3, 4, 5, 6), 0)
	if !sameCore(d, at(6, 4, 1, 2, 3, 4, 5, 6)) || !slices.Equal(m, mem) || e != (impl.Effect{}) {
		t.Error(d, m, e)
	}
	// A call and its return.
	image := []impl.Ins{{Op: impl.MHalt}, {Op: impl.MCall, N: 2, M: 3}, {Op: impl.MRet}}
	c, m, _ := impl.Exec(image, mem, at(1, 2, 1, 2, 3, 4, 5, 6), 0)
	if !sameCore(c, at(2, 5, 1, 2, 3, 4, 5, 6)) || !slices.Equal(m, put(mem, 5, 2, 6, 2)) {
		t.Error(c, m)
	}
	c, m, _ = impl.Exec(image, m, c, 0)
	if !sameCore(c, at(2, 2, 1, 2, 3, 4, 5, 6)) || !slices.Equal(m, put(mem, 5, 2, 6, 2)) {
		t.Error(c, m)
	}
}

// What lies in memory are words; Pc and Fp take them as they are, and the core traps at the place that is none.
func TestReturnToAnyWord(t *testing.T) {
	for _, pc := range []int{0, 5, -1, least, greatest} {
		for _, fp := range []int{0, 5, -1, least, greatest} {
			d, _, e := impl.Exec([]impl.Ins{{Op: impl.MRet}}, []int{pc, fp}, at(0, 0, 1, 2, 3, 4, 5, 6), 0)
			if !sameCore(d, at(pc, fp, 1, 2, 3, 4, 5, 6)) || e.Kind != impl.EfNone || !impl.CoreOk(d) {
				t.Errorf("MRet to %d and %d: %+v %+v", pc, fp, d, e)
			}
		}
	}
}

// Pc is the next one ahead of all else: so it is the next place that MCall and MSwap put, and a jump to the place itself stays there.
func TestPcIsTheNextOneFirst(t *testing.T) {
	for _, pc := range []int{0, 1, 2} {
		for _, f := range opForms {
			image := make([]impl.Ins, pc+1)
			x := impl.Ins{Op: f.op}
			if f.op == impl.MJmp || f.op == impl.MJz || f.op == impl.MCall {
				x.N = pc
			}
			image[pc] = x
			mem := ramp(4)
			d, m, e := impl.Exec(image, mem, at(pc, 1, 0, 0, 0, 0, 0, 0), 0)
			switch f.op {
			case impl.MJmp, impl.MJz:
				if d.Pc != pc {
					t.Errorf("%+v at %d: Pc is %d", x, pc, d.Pc)
				}
			case impl.MCall:
				if d.Pc != pc || m[1] != pc+1 || m[2] != 1 {
					t.Errorf("%+v at %d: %+v %v", x, pc, d, m)
				}
			case impl.MRet:
				if d.Pc != 101 || d.Fp != 102 {
					t.Errorf("%+v at %d: %+v", x, pc, d)
				}
			case impl.MSwap:
				if d.Pc != 100 || d.Fp != 101 || m[0] != pc+1 || m[1] != 1 {
					t.Errorf("%+v at %d: %+v %v", x, pc, d, m)
				}
			default:
				if d.Pc != pc+1 {
					t.Errorf("%+v at %d: Pc is %d", x, pc, d.Pc)
				}
			}
			if e.Kind == impl.EfTrap {
				t.Errorf("%+v at %d is a trap", x, pc)
			}
		}
	}
}

func TestJumpsGoToAnyWord(t *testing.T) {
	for _, n := range []int{0, 1, -1, 70, least, greatest} {
		for _, a := range []int{0, 1, -1, least, greatest} {
			checkExec(t, []impl.Ins{{Op: impl.MJmp, N: n}}, nil, at(0, 3, a, a, a, a, a, a), 0)
			for reg := range 6 {
				d, _, _ := impl.Exec([]impl.Ins{{Op: impl.MJz, A: reg, N: n}}, nil, at(0, 3, put([]int{5, 5, 5, 5, 5, 5}, reg, a)...), 0)
				want := 1
				if a == 0 {
					want = n
				}
				if d.Pc != want {
					t.Errorf("MJz to %d, where register %d is %d: Pc is %d", n, reg, a, d.Pc)
				}
			}
			checkExec(t, []impl.Ins{{Op: impl.MCall, N: n}}, ramp(6), at(0, 3, a, a, a, a, a, a), 0)
		}
	}
}

func TestReckonedWordsGoRound(t *testing.T) {
	words := []int{0, 1, -1, 2, -2, 46341, -46341, 65536, -65536, least, least + 1, greatest, greatest - 1}
	for _, a := range words {
		for _, b := range words {
			for op := impl.MAdd; op <= impl.MEq; op++ {
				checkExec(t, []impl.Ins{{Op: op, R: 0, A: 1, B: 2}}, nil, at(0, 0, 5, a, b, 5, 5, 5), 0)
			}
		}
	}
	for _, k := range []struct{ op, a, b, want int }{
		{impl.MAdd, greatest, 1, least},
		{impl.MAdd, least, -1, greatest},
		{impl.MAdd, least, least, 0},
		{impl.MSub, least, 1, greatest},
		{impl.MSub, greatest, -1, least},
		{impl.MSub, 0, least, least},
		{impl.MMul, 65536, 65536, 0},
		{impl.MMul, least, -1, least},
		{impl.MMul, least, least, 0},
		{impl.MMul, greatest, greatest, 1},
		{impl.MLt, least, greatest, 1},
		{impl.MLt, greatest, least, 0},
		{impl.MEq, least, least, 1},
		{impl.MEq, least, greatest, 0},
	} {
		d, _, _ := impl.Exec([]impl.Ins{{Op: k.op, R: 3, A: 1, B: 2}}, nil, at(0, 0, 0, k.a, k.b, 0, 0, 0), 0)
		if d.Regs[3] != k.want || !impl.CoreOk(d) {
			t.Errorf("op %d of %d and %d: %d, not %d", k.op, k.a, k.b, d.Regs[3], k.want)
		}
	}
}

// An address is a sum of words, so it goes round, too: the least word twice is 0.
func TestAddressesGoRound(t *testing.T) {
	mem := ramp(4)
	for _, k := range []struct{ a, n, address int }{
		{least, least, 0},
		{least, least + 1, 1},
		{least + 1, least + 2, 3},
		{least + 2, least + 2, 4},
		{least, least - least, least},
		{greatest, 1, least},
		{greatest, greatest, -2},
		{-1, 1, 0},
		{1, -2, -1},
		{5, -2, 3},
		{5, -1, 4},
	} {
		if wrap(k.a+k.n) != k.address {
			t.Fatalf("%d and %d together are %d", k.a, k.n, wrap(k.a+k.n))
		}
		kind := impl.EfTrap
		if k.address >= 0 && k.address < 4 {
			kind = impl.EfNone
		}
		for _, x := range []impl.Ins{{Op: impl.MLd, R: 0, A: 1, N: k.n}, {Op: impl.MLd, R: 0, A: 6, N: k.n}, {Op: impl.MSt, A: 1, B: 2, N: k.n}, {Op: impl.MSt, A: 6, B: 2, N: k.n}} {
			d, m, e := impl.Exec([]impl.Ins{x}, mem, at(0, k.a, 8, k.a, 9, 0, 0, 0), 0)
			if e.Kind != kind {
				t.Errorf("%+v, base %d: the effect is %+v", x, k.a, e)
			}
			if kind == impl.EfNone && (x.Op == impl.MLd && d.Regs[0] != 100+k.address || x.Op == impl.MSt && m[k.address] != 9) {
				t.Errorf("%+v, base %d: %+v %v", x, k.a, d, m)
			}
		}
	}
	for _, fp := range []int{greatest, greatest - 1, greatest - 59, greatest - 60, least, -60, -59, -61, -1} {
		for _, m := range []int{0, 1, 59, 60} {
			checkExec(t, []impl.Ins{{Op: impl.MCall, N: 1, M: m}}, mem, at(0, fp, 1, 2, 3, 4, 5, 6), 0)
		}
	}
}

// A frame below 0 is a word, too, and what is put behind it.
func TestCallFromAFrameThatIsNoAddress(t *testing.T) {
	d, m, e := impl.Exec([]impl.Ins{{Op: impl.MCall, N: 8, M: 60}}, ramp(4), at(0, -60, 1, 2, 3, 4, 5, 6), 0)
	if !sameCore(d, at(8, 0, 1, 2, 3, 4, 5, 6)) || !slices.Equal(m, []int{1, -60, 102, 103}) || e != (impl.Effect{}) {
		t.Error(d, m, e)
	}
}

func TestNumberOfACore(t *testing.T) {
	for n, want := range map[int]int{
		0: 0, 1: 1, 7: 7, -1: -1, least: least, greatest: greatest,
		greatest + 1: least, least - 1: greatest, turn: 0, turn + 3: 3, -turn - 3: -3, math.MinInt: 0, math.MaxInt: -1,
	} {
		for reg := range 6 {
			d, _, e := impl.Exec([]impl.Ins{{Op: impl.MCore, R: reg}}, nil, at(0, 0, 9, 9, 9, 9, 9, 9), n)
			if !sameCore(d, at(1, 0, put([]int{9, 9, 9, 9, 9, 9}, reg, want)...)) || e != (impl.Effect{}) || !impl.CoreOk(d) {
				t.Errorf("MCore of %d: %+v %+v", n, d, e)
			}
		}
	}
	for _, n := range append(edges(), manyNumbers(500)...) {
		checkExec(t, []impl.Ins{{Op: impl.MCore, R: 2}}, nil, at(0, 0, 9, 9, 9, 9, 9, 9), n)
		checkExec(t, []impl.Ins{{Op: impl.MLi, R: 2, N: 4}}, nil, at(0, 0, 9, 9, 9, 9, 9, 9), n)
	}
}

func TestTheFrameStandsForA(t *testing.T) {
	mem := ramp(10)
	for fp := range 10 {
		d, _, _ := impl.Exec([]impl.Ins{{Op: impl.MLd, R: 0, A: impl.Regs}}, mem, at(0, fp, -9, -9, -9, -9, -9, -9), 0)
		if d.Regs[0] != 100+fp || d.Fp != fp {
			t.Errorf("MLd at the frame %d: %+v", fp, d)
		}
		_, m, _ := impl.Exec([]impl.Ins{{Op: impl.MSt, A: impl.Regs, B: 5}}, mem, at(0, fp, -9, -9, -9, -9, -9, 33), 0)
		if !slices.Equal(m, put(mem, fp, 33)) {
			t.Errorf("MSt at the frame %d: %v", fp, m)
		}
	}
}

func TestWordsAtTheirEnds(t *testing.T) {
	image := []impl.Ins{{Op: impl.MMov, R: 0, A: 5}}
	for n, ok := range map[int]bool{least - 1: false, least: true, greatest: true, greatest + 1: false} {
		all := []impl.Core{at(0, n, 1, 2, 3, 4, 5, 6)}
		for reg := range 6 {
			all = append(all, at(0, 7, put([]int{1, 2, 3, 4, 5, 6}, reg, n)...))
		}
		for _, c := range all {
			d, m, e := impl.Exec(image, []int{4}, c, 0)
			want, kind := cloneCore(c), impl.EfTrap
			if ok {
				want, kind = at(1, c.Fp, put(c.Regs, 0, c.Regs[5])...), impl.EfNone
			}
			if !sameCore(d, want) || e != (impl.Effect{Kind: kind}) || !slices.Equal(m, []int{4}) {
				t.Errorf("core %+v: %+v %v %+v", c, d, m, e)
			}
		}
		// Pc at either end of the words, or beyond, is no place of this image.
		if d, _, e := impl.Exec(image, []int{4}, at(n, 7, 1, 2, 3, 4, 5, 6), 0); e != (impl.Effect{Kind: impl.EfTrap}) || d.Pc != n {
			t.Errorf("Pc %d: %+v %+v", n, d, e)
		}
	}
}

// Whatever the reason: the core and the memory are as they were, and A and B of the effect are 0.
func TestTraps(t *testing.T) {
	regs := []int{3, 40, -1, 2, 5, 6}
	halt := []impl.Ins{{Op: impl.MHalt, A: 1}}
	for _, k := range []struct {
		name  string
		image []impl.Ins
		mem   []int
		c     impl.Core
	}{
		{"no image", nil, ramp(4), at(0, 0, regs...)},
		{"an empty image", []impl.Ins{}, ramp(4), at(0, 0, regs...)},
		{"Pc below", halt, ramp(4), at(-1, 0, regs...)},
		{"Pc beyond", halt, ramp(4), at(1, 0, regs...)},
		{"Pc no word", halt, ramp(4), at(turn, 0, regs...)},
		{"Fp no word", halt, ramp(4), at(0, turn, regs...)},
		{"no registers", halt, ramp(4), impl.Core{}},
		{"an empty list of registers", halt, ramp(4), impl.Core{Regs: []int{}}},
		{"too few registers", halt, ramp(4), at(0, 0, 1, 2, 3, 4, 5)},
		{"too many registers", halt, ramp(4), at(0, 0, 1, 2, 3, 4, 5, 6, 7)},
		{"a register no word", halt, ramp(4), at(0, 0, 1, 2, 3, 4, 5, turn)},
		{"the zero place", []impl.Ins{{}}, ramp(4), at(0, 0, regs...)},
		{"no op", []impl.Ins{{Op: 20}}, ramp(4), at(0, 0, regs...)},
		{"no register", []impl.Ins{{Op: impl.MLi, R: 6}}, ramp(4), at(0, 0, regs...)},
		{"N no word", []impl.Ins{{Op: impl.MJmp, N: turn}}, ramp(4), at(0, 0, regs...)},
		{"M too large", []impl.Ins{{Op: impl.MCall, M: 61}}, ramp(100), at(0, 0, regs...)},
		{"not named and not 0", []impl.Ins{{Op: impl.MOut, A: 1, R: 1}}, ramp(4), at(0, 0, regs...)},
		{"MLd beyond", []impl.Ins{{Op: impl.MLd, R: 0, A: 1}}, ramp(4), at(0, 0, regs...)},
		{"MSt beyond", []impl.Ins{{Op: impl.MSt, A: 1, B: 0}}, ramp(4), at(0, 0, regs...)},
		{"MCas beyond", []impl.Ins{{Op: impl.MCas, R: 0, A: 1, B: 2}}, ramp(4), at(0, 0, regs...)},
		{"MCas below", []impl.Ins{{Op: impl.MCas, R: 0, A: 2, B: 2}}, ramp(4), at(0, 0, regs...)},
		{"MCall beyond", []impl.Ins{{Op: impl.MCall, N: 9, M: 4}}, ramp(4), at(0, 0, regs...)},
		{"MCall half beyond", []impl.Ins{{Op: impl.MCall, N: 9, M: 3}}, ramp(4), at(0, 0, regs...)},
		{"MRet half beyond", []impl.Ins{{Op: impl.MRet}}, ramp(4), at(0, 3, regs...)},
		{"MSwap A half beyond", []impl.Ins{{Op: impl.MSwap, A: 0, B: 3}}, ramp(4), at(0, 0, regs...)},
		{"MSwap B half beyond", []impl.Ins{{Op: impl.MSwap, A: 3, B: 0}}, ramp(4), at(0, 0, regs...)},
		{"no memory", []impl.Ins{{Op: impl.MLd, R: 0, A: 3}}, nil, at(0, 0, regs...)},
		{"an empty memory", []impl.Ins{{Op: impl.MSt, A: 6, B: 3}}, []int{}, at(0, 0, regs...)},
	} {
		d, m, e := impl.Exec(k.image, k.mem, k.c, 5)
		if e != (impl.Effect{Kind: impl.EfTrap}) || !sameCore(d, k.c) || !slices.Equal(m, k.mem) {
			t.Errorf("%s: %+v %v %+v", k.name, d, m, e)
		}
		checkExec(t, k.image, k.mem, k.c, 5)
	}
}

// Only the place at Pc counts: wrong ones about it are no trap.
func TestOtherPlacesDoNotCount(t *testing.T) {
	image := []impl.Ins{{Op: -1}, {Op: impl.MLi, R: 1, N: 4}, {Op: impl.MLi, R: 9}}
	for pc, kind := range []int{impl.EfTrap, impl.EfNone, impl.EfTrap} {
		if _, _, e := impl.Exec(image, nil, at(pc, 0, 0, 0, 0, 0, 0, 0), 0); e.Kind != kind {
			t.Errorf("at %d: %+v", pc, e)
		}
	}
}

// small is a number near addresses, at the ends of words, or anything at all, by what is drawn.
func small(draw *int, numbers []int) int {
	*draw++
	n := numbers[*draw%len(numbers)]
	switch n & 15 {
	case 0:
		return least + n>>4&3
	case 1:
		return greatest - n>>4&3
	case 2:
		return n
	}
	return n>>4&15 - 2
}

func drawnPlace(draw *int, numbers []int) impl.Ins {
	*draw++
	f := opForms[numbers[*draw%len(numbers)]&math.MaxInt%len(opForms)]
	x := impl.Ins{Op: f.op}
	for _, name := range f.names {
		n := small(draw, numbers)
		if name != 'N' && n&63 != 9 {
			n = n & math.MaxInt % (highest(f, name) + 1)
		}
		*fieldOf(&x, name) = n
	}
	return x
}

// Many drawn places, cores and memories against what the document asks. What is turned is two words of memory at most, none of them by a place that does not store, and of the registers none but the one that the place names.
func TestDrawnPlaces(t *testing.T) {
	numbers := manyNumbers(100003)
	draw := 0
	kinds := map[int]int{}
	done := map[int]int{}
	for range 60000 {
		x := drawnPlace(&draw, numbers)
		c := at(small(&draw, numbers)&1, small(&draw, numbers))
		for range 6 {
			c.Regs = append(c.Regs, small(&draw, numbers))
		}
		mem := make([]int, small(&draw, numbers)&15)
		for i := range mem {
			mem[i] = wrap(small(&draw, numbers))
		}
		image := []impl.Ins{x, x}
		kind := checkExec(t, image, mem, c, small(&draw, numbers))
		kinds[kind]++
		if kind != impl.EfTrap {
			done[x.Op]++
		}
		d, m, _ := impl.Exec(image, mem, c, 3)
		if turned := differ(mem, m); len(m) != len(mem) || turned > mostTurned(x.Op) {
			t.Fatalf("%+v of %v and %v turns %d words", x, c, mem, turned)
		}
		for reg := range min(len(c.Regs), len(d.Regs)) {
			if c.Regs[reg] != d.Regs[reg] && reg != impl.Writes(x) {
				t.Fatalf("%+v of %v turns register %d", x, c, reg)
			}
		}
	}
	for kind := impl.EfNone; kind <= impl.EfTrap; kind++ {
		if kinds[kind] < 100 {
			t.Errorf("the effect %d was met %d times", kind, kinds[kind])
		}
	}
	for _, f := range opForms {
		if done[f.op] < 100 {
			t.Errorf("the op %d was done %d times", f.op, done[f.op])
		}
	}
}

func differ(a, b []int) int {
	n := 0
	for i := range min(len(a), len(b)) {
		n += flag(a[i] != b[i])
	}
	return n
}

func mostTurned(op int) int {
	switch op {
	case impl.MSt, impl.MCas:
		return 1
	case impl.MCall, impl.MSwap:
		return 2
	}
	return 0
}

// What a place does is the same, whatever the registers hold that it does not read.
func TestRegistersThatAreNotRead(t *testing.T) {
	mem := ramp(14)
	for _, f := range opForms {
		x := ordinary(f)
		if f.op == impl.MLd || f.op == impl.MSt {
			x.N = 1
		}
		read, sets := impl.Reads(x), impl.Writes(x)
		one, other := at(0, 2, 4, 4, 4, 4, 4, 4), at(0, 2, -8, -8, -8, -8, -8, -8)
		for _, reg := range read {
			other.Regs[reg] = one.Regs[reg]
		}
		c1, m1, e1 := impl.Exec([]impl.Ins{x}, mem, one, 0)
		c2, m2, e2 := impl.Exec([]impl.Ins{x}, mem, other, 0)
		if e1.Kind == impl.EfTrap || e1 != e2 || c1.Pc != c2.Pc || c1.Fp != c2.Fp || !slices.Equal(m1, m2) || sets >= 0 && c1.Regs[sets] != c2.Regs[sets] {
			t.Errorf("%+v: %+v %v %+v and %+v %v %+v", x, c1, m1, e1, c2, m2, e2)
		}
	}
}

func TestNumbersFarBeyond(t *testing.T) {
	far := []int{math.MinInt, math.MinInt + 1, math.MaxInt, math.MaxInt - 1, turn, -turn, turn + 1, 1 << 62, -1 << 62}
	for _, n := range far {
		for _, f := range opForms {
			x := ordinary(f)
			checkExec(t, []impl.Ins{x}, ramp(4), at(n, 0, 1, 2, 3, 4, 5, 6), n)
			checkExec(t, []impl.Ins{x}, ramp(4), at(0, n, 1, 2, 3, 4, 5, 6), n)
			checkExec(t, []impl.Ins{x}, ramp(4), at(0, 0, n, n, n, n, n, n), n)
			checkExec(t, []impl.Ins{x}, nil, impl.Core{Pc: n, Fp: n, Regs: []int{n}}, n)
			for _, name := range "RABNM" {
				y := x
				*fieldOf(&y, name) = n
				checkExec(t, []impl.Ins{y}, ramp(4), at(0, 0, 1, 2, 3, 4, 5, 6), n)
			}
			x.Op = n
			checkExec(t, []impl.Ins{x}, ramp(4), at(0, 0, 1, 2, 3, 4, 5, 6), n)
		}
	}
}

func TestAMemoryOfAnySize(t *testing.T) {
	mem := ramp(3 * impl.MaxMem)
	for _, address := range []int{0, impl.MaxMem - 1, impl.MaxMem, 3*impl.MaxMem - 1} {
		d, m, e := impl.Exec([]impl.Ins{{Op: impl.MLd, R: 0, A: 1}}, mem, at(0, 0, 0, address, 0, 0, 0, 0), 0)
		if d.Regs[0] != 100+address || e.Kind != impl.EfNone || !slices.Equal(m, mem) {
			t.Errorf("MLd at %d of %d words: %+v %+v", address, len(mem), d, e)
		}
	}
}

// newMemoryCases are a place of each op that is done, the same far beyond memory, and cores and a place that are wrong.
func newMemoryCases() ([]impl.Ins, []impl.Core) {
	var image []impl.Ins
	var cores []impl.Core
	for _, f := range opForms {
		x := ordinary(f)
		if f.op == impl.MLd || f.op == impl.MSt {
			x.N = 1
		}
		for _, n := range []int{3, 999} {
			image = append(image, x)
			cores = append(cores, at(len(image)-1, n, n, n, n, n, n, n))
		}
	}
	image = append(image, impl.Ins{Op: 99})
	for _, regs := range [][]int{{1, 2, 3, 4, 5, 6}, {1, 2, 3, 4, 5, turn}, {1, 2, 3}, {1, 2, 3, 4, 5, 6, 7}, {}, nil} {
		cores = append(cores, at(len(image)-1, 3, regs...))
	}
	return image, cores
}

// withRoom is the list with spare room behind it, and that room.
func withRoom(list []int) ([]int, []int) {
	whole := append(slices.Clone(list), 71, 72, 73, 74, 75, 76, 77, 78)
	return whole[:len(list)], whole
}

func TestNothingIsWrittenIntoWhatIsGiven(t *testing.T) {
	image, cores := newMemoryCases()
	wholeImage := append(slices.Clone(image), impl.Ins{Op: 7}, impl.Ins{Op: 8})
	keptImage := slices.Clone(wholeImage)
	for _, c := range cores {
		mem, wholeMem := withRoom(ramp(14))
		regs, wholeRegs := withRoom(c.Regs)
		keptMem, keptRegs := slices.Clone(wholeMem), slices.Clone(wholeRegs)
		given := impl.Core{Pc: c.Pc, Fp: c.Fp, Regs: regs}
		d, m, _ := impl.Exec(wholeImage[:len(image)], mem, given, 5)
		spoil(m)
		spoil(d.Regs)
		impl.CoreOk(given)
		if !slices.Equal(wholeMem, keptMem) || !slices.Equal(wholeRegs, keptRegs) || !slices.Equal(wholeImage, keptImage) {
			t.Errorf("core %+v: what was given is written into: %v %v", c, wholeMem, wholeRegs)
		}
	}
}

// spoil writes over a list and the room behind it.
func spoil(list []int) {
	list = list[:cap(list)]
	for i := range list {
		list[i] = -99
	}
}

func TestEachAnswerIsNewMemory(t *testing.T) {
	image, cores := newMemoryCases()
	for _, c := range cores {
		mem := ramp(14)
		c1, m1, e1 := impl.Exec(image, mem, c, 5)
		keptC, keptM := cloneCore(c1), slices.Clone(m1)
		c2, m2, _ := impl.Exec(image, mem, c, 5)
		spoil(m2)
		if !sameCore(c1, keptC) || !slices.Equal(m1, keptM) || !sameCore(c2, keptC) {
			t.Errorf("core %+v: the memory of one answer is that of another", c)
		}
		spoil(c2.Regs)
		if !sameCore(c1, keptC) || !slices.Equal(m1, keptM) {
			t.Errorf("core %+v: the registers of one answer are those of another", c)
		}
		c3, m3, e3 := impl.Exec(image, mem, c, 5)
		if !sameCore(c3, keptC) || !slices.Equal(m3, keptM) || e3 != e1 {
			t.Errorf("core %+v: asked again it answers otherwise", c)
		}
		spoil(c3.Regs)
		if !slices.Equal(m3, keptM) {
			t.Errorf("core %+v: the registers and the memory of an answer are one", c)
		}
	}
}

// The registers may be handed in as a piece of the memory: the answer's are none of it.
func TestRegistersThatAreAPieceOfMemory(t *testing.T) {
	for _, x := range []impl.Ins{{Op: impl.MSt, A: 0, B: 5}, {Op: impl.MLi, R: 2, N: 50}, {Op: impl.MLd, R: 2, A: 1}, {Op: impl.MCas, R: 3, A: 3, B: 1}, {Op: impl.MSwap, A: 0, B: 1}, {Op: impl.MSt, A: 9}} {
		mem := []int{2, 3, 4, 5, 6, 7, 8, 9}
		d, m, e := impl.Exec([]impl.Ins{x}, mem, impl.Core{Fp: 1, Regs: mem[:6]}, 0)
		wantD, wantM, wantE := wantExec([]impl.Ins{x}, []int{2, 3, 4, 5, 6, 7, 8, 9}, at(0, 1, 2, 3, 4, 5, 6, 7), 0)
		if !sameCore(d, wantD) || !slices.Equal(m, wantM) || e != wantE {
			t.Errorf("%+v: %+v %v %+v", x, d, m, e)
		}
		spoil(d.Regs)
		if !slices.Equal(m, wantM) || !slices.Equal(mem, []int{2, 3, 4, 5, 6, 7, 8, 9}) {
			t.Errorf("%+v: the registers of the answer are a piece of a memory", x)
		}
	}
}

// A few places, one after the other: 5 times 4 by adding, told and then the end.
func TestOnePlaceAfterTheOther(t *testing.T) {
	image := []impl.Ins{
		{Op: impl.MLi, R: 1, N: 4},
		{Op: impl.MLi, R: 2, N: 1},
		{Op: impl.MJz, A: 1, N: 9},
		{Op: impl.MLd, R: 0, A: 6, N: 2},
		{Op: impl.MLi, R: 3, N: 5},
		{Op: impl.MAdd, R: 0, A: 0, B: 3},
		{Op: impl.MSt, A: 6, B: 0, N: 2},
		{Op: impl.MSub, R: 1, A: 1, B: 2},
		{Op: impl.MJmp, N: 2},
		{Op: impl.MOut, A: 0},
		{Op: impl.MHalt, A: 2},
	}
	c, mem := at(0, 1, 0, 0, 0, 0, 0, 0), make([]int, 4)
	var out []int
	for range 100 {
		var e impl.Effect
		c, mem, e = impl.Exec(image, mem, c, 0)
		if e.Kind == impl.EfOut {
			out = append(out, e.A)
		} else if e.Kind != impl.EfNone {
			if e != (impl.Effect{Kind: impl.EfHalt, A: 1}) {
				t.Error(e)
			}
			break
		}
	}
	if !slices.Equal(out, []int{20}) || !slices.Equal(mem, []int{0, 0, 0, 20}) || c.Pc != 11 {
		t.Error(out, mem, c)
	}
}
