package tests

import (
	"math"
	"slices"
	"strings"
	"sync"
	"testing"

	"loop.example/g00286/impl"
)

func checkTac(t *testing.T, x impl.Tac) {
	t.Helper()
	if got, want := impl.Sets(x), wantSets(x); !slices.Equal(got, want) {
		t.Errorf("Sets(%s) = %s, not %s", clip(x), clip(got), clip(want))
	}
	if got, want := impl.Uses(x), wantUses(x); !slices.Equal(got, want) {
		t.Errorf("Uses(%s) = %s, not %s", clip(x), clip(got), clip(want))
	}
}

func checkUnit(t *testing.T, u impl.Unit) bool {
	t.Helper()
	faults := unitFaults(u)
	if got := impl.UnitOk(u); got != (len(faults) == 0) {
		t.Errorf("UnitOk(%s) = %v: what is amiss is %v", clip(u), got, faults)
	}
	if one := []impl.Unit{u}; impl.UnitsOk(one) != wantUnitsOk(one) {
		t.Errorf("UnitsOk of %s alone is %v: what is amiss is %v", clip(u), impl.UnitsOk(one), unitsFaults(one))
	}
	return len(faults) == 0
}

func wantUnit(t *testing.T, u impl.Unit) {
	t.Helper()
	if !checkUnit(t, u) || !impl.UnitOk(u) {
		t.Errorf("%s is not right, but for %v", clip(u), unitFaults(u))
	}
}

// wantAmiss is of a unit with which just that is amiss.
func wantAmiss(t *testing.T, u impl.Unit, alone string) {
	t.Helper()
	if faults := unitFaults(u); !slices.Equal(faults, []string{alone}) {
		t.Errorf("of %s there is amiss %v, not just %q", clip(u), faults, alone)
	}
	if checkUnit(t, u) || impl.UnitOk(u) {
		t.Errorf("UnitOk(%s), though there is amiss: %s", clip(u), alone)
	}
}

// wantEither is of a unit that is right, or with which just that is amiss.
func wantEither(t *testing.T, u impl.Unit, ok bool, alone string) {
	t.Helper()
	if ok {
		wantUnit(t, u)
	} else {
		wantAmiss(t, u, alone)
	}
}

func ret(a int) impl.Tac                   { return impl.Tac{Op: impl.TcRet, A: a} }
func label(n int) impl.Tac                 { return impl.Tac{Op: impl.TcLabel, N: n} }
func jump(n int) impl.Tac                  { return impl.Tac{Op: impl.TcJump, N: n} }
func unless(a, n int) impl.Tac             { return impl.Tac{Op: impl.TcZero, A: a, N: n} }
func call(s string, args ...int) impl.Tac  { return impl.Tac{Op: impl.TcCall, S: s, Args: args} }
func begin(s string, args ...int) impl.Tac { return impl.Tac{Op: impl.TcGo, S: s, Args: args} }
func addr(s string) impl.Tac               { return impl.Tac{Op: impl.TcAddr, S: s} }
func choose(d, b, n int, args ...int) impl.Tac {
	return impl.Tac{Op: impl.TcSelect, D: d, B: b, N: n, Args: args}
}

func unit(params, regs int, code ...impl.Tac) impl.Unit {
	return impl.Unit{Name: "u", Params: params, Regs: regs, Code: code}
}

const (
	aroundRegs  = 12
	aroundLabel = 7
)

// around is a unit that is right where that place is, with a label to which it may go.
func around(x impl.Tac) impl.Unit {
	u := unit(2, aroundRegs, impl.Tac{Op: impl.TcNum, D: 1, N: 5}, x, label(aroundLabel), ret(0))
	if x.Op == impl.TcLabel && x.N == aroundLabel {
		u.Code[2] = label(aroundLabel + 1)
	}
	return u
}

// ordinaryTac is a right place of that op, whose named fields differ from each other and from 0.
func ordinaryTac(f tacForm) impl.Tac {
	x := impl.Tac{Op: f.op}
	for i, name := range "DABN" {
		if strings.ContainsRune(f.names, name) {
			*tacField(&x, name) = []int{1, 2, 3, aroundLabel}[i]
		}
	}
	if strings.Contains(f.names, "S") {
		x.S = "f"
	}
	switch f.op {
	case impl.TcCall, impl.TcGo:
		x.Args = []int{4, 5, 6}
	case impl.TcCas:
		x.Args = []int{4}
	case impl.TcSelect:
		x.N = 1
		x.Args = []int{2, 4, 5, 1, 6, 0, 2, 8, 9}
	}
	return x
}

// registerFields are ways to put a number where the op names a register: the fields, and those of Args.
func registerFields(f tacForm) []func(x *impl.Tac, n int) {
	var out []func(x *impl.Tac, n int)
	for _, name := range strings.NewReplacer("N", "", "S", "", "V", "").Replace(f.names) {
		out = append(out, func(x *impl.Tac, n int) { *tacField(x, name) = n })
	}
	for i := range ordinaryTac(f).Args {
		// Of the cases of the ordinary select the kinds, and the value of the take, are no registers.
		if f.op != impl.TcSelect || i%3 != 0 && i != 5 {
			out = append(out, func(x *impl.Tac, n int) { x.Args[i] = n })
		}
	}
	return out
}

// opsThatAreNone are numbers that are no op, some of which are one when they are cut short.
func opsThatAreNone() []int {
	return []int{0, -1, 29, 30, 255, -12, -28, 1<<8 + 12, 1<<16 + 9, 1<<32 + 12, 1<<62 + 28, least, greatest, math.MinInt, math.MinInt + 12, math.MaxInt}
}

func TestTacConstants(t *testing.T) {
	if impl.MaxRegs != mostRegs || impl.MaxCode != mostPlaces || impl.MaxUnits != mostUnits || impl.MaxArgs != mostParams {
		t.Error(impl.MaxRegs, impl.MaxCode, impl.MaxUnits, impl.MaxArgs)
	}
	for i, f := range tacForms {
		if f.op != f.number || f.op != i+1 {
			t.Errorf("the op at %d is %d", f.number, f.op)
		}
	}
	if len(tacForms) != 28 {
		t.Errorf("there are %d ops", len(tacForms))
	}
}

func TestWhatEachOpSetsAndReads(t *testing.T) {
	for _, c := range []struct {
		x    impl.Tac
		sets []int
		uses []int
	}{
		{impl.Tac{Op: impl.TcNum, D: 5, N: 9}, []int{5}, nil},
		{impl.Tac{Op: impl.TcNum, D: 0, N: -9}, []int{0}, nil},
		{impl.Tac{Op: impl.TcCopy, D: 5, A: 3}, []int{5}, []int{3}},
		{impl.Tac{Op: impl.TcCopy, D: 3, A: 3}, []int{3}, []int{3}},
		{impl.Tac{Op: impl.TcAdd, D: 1, A: 9, B: 2}, []int{1}, []int{9, 2}},
		{impl.Tac{Op: impl.TcSub, D: 1, A: 2, B: 9}, []int{1}, []int{2, 9}},
		{impl.Tac{Op: impl.TcMul, D: 1, A: 4, B: 4}, []int{1}, []int{4, 4}},
		{impl.Tac{Op: impl.TcLess, D: 7, A: 7, B: 7}, []int{7}, []int{7, 7}},
		{impl.Tac{Op: impl.TcSame, D: 0, A: 0, B: 1}, []int{0}, []int{0, 1}},
		{impl.Tac{Op: impl.TcLabel, N: 3}, nil, nil},
		{impl.Tac{Op: impl.TcJump, N: 3}, nil, nil},
		{impl.Tac{Op: impl.TcZero, A: 6, N: 3}, nil, []int{6}},
		{impl.Tac{Op: impl.TcCall, D: 2, S: "f", Args: []int{9, 1, 5}}, []int{2}, []int{9, 1, 5}},
		{impl.Tac{Op: impl.TcCall, D: 2, S: "f"}, []int{2}, nil},
		{impl.Tac{Op: impl.TcRet, A: 8}, nil, []int{8}},
		{impl.Tac{Op: impl.TcPrint, A: 8}, nil, []int{8}},
		{impl.Tac{Op: impl.TcGo, S: "f", Args: []int{3, 0}}, nil, []int{3, 0}},
		{impl.Tac{Op: impl.TcGo, S: "f"}, nil, nil},
		{impl.Tac{Op: impl.TcMake, D: 4, A: 2}, []int{4}, []int{2}},
		{impl.Tac{Op: impl.TcSend, A: 5, B: 1}, nil, []int{5, 1}},
		{impl.Tac{Op: impl.TcRecv, D: 1, A: 5}, []int{1}, []int{5}},
		{impl.Tac{Op: impl.TcClose, A: 5}, nil, []int{5}},
		{impl.Tac{Op: impl.TcSelect, D: 7, B: 6, N: 1, Args: []int{1, 3, 0, 2, 4, 5}}, []int{7, 6}, []int{3, 4, 5}},
		{impl.Tac{Op: impl.TcPeek, D: 1, A: 5}, []int{1}, []int{5}},
		{impl.Tac{Op: impl.TcPoke, A: 5, B: 1}, nil, []int{5, 1}},
		{impl.Tac{Op: impl.TcCas, D: 9, A: 8, B: 7, Args: []int{6}}, []int{9}, []int{8, 7, 6}},
		{impl.Tac{Op: impl.TcCas, D: 1, A: 2, B: 1, Args: []int{2}}, []int{1}, []int{2, 1, 2}},
		{impl.Tac{Op: impl.TcCore, D: 3}, []int{3}, nil},
		{impl.Tac{Op: impl.TcAddr, D: 3, S: "f"}, []int{3}, nil},
		{impl.Tac{Op: impl.TcOut, A: 1}, nil, []int{1}},
		{impl.Tac{Op: impl.TcNote, A: 9, B: 2}, nil, []int{9, 2}},
		{impl.Tac{Op: impl.TcSwap, A: 9, B: 2}, nil, []int{9, 2}},
		{impl.Tac{Op: impl.TcSwap, A: 2, B: 2}, nil, []int{2, 2}},
		{impl.Tac{Op: impl.TcHalt, A: 4}, nil, []int{4}},
	} {
		if got := impl.Sets(c.x); !slices.Equal(got, c.sets) {
			t.Errorf("Sets(%+v) = %v, not %v", c.x, got, c.sets)
		}
		if got := impl.Uses(c.x); !slices.Equal(got, c.uses) {
			t.Errorf("Uses(%+v) = %v, not %v", c.x, got, c.uses)
		}
		checkTac(t, c.x)
	}
}

// Registers in each order, and the same one at several fields: nothing is sorted, and nothing left out.
func TestRegistersAreToldAsTheyStand(t *testing.T) {
	for _, f := range tacForms {
		for d := range 4 {
			for a := range 4 {
				for b := range 4 {
					x := ordinaryTac(f)
					x.D, x.A, x.B = d, a, b
					checkTac(t, x)
				}
			}
		}
	}
}

func TestWhatASelectSets(t *testing.T) {
	for d := range 5 {
		for b := range 5 {
			for n := range 2 {
				for _, args := range [][]int{{1, 3, 0}, {2, 3, 4}, {2, d, b}, {1, b, 0, 2, d, b}, nil} {
					x := choose(d, b, n, args...)
					if got := impl.Sets(x); !slices.Equal(got, []int{d, b}) {
						t.Errorf("Sets(%+v) = %v", x, got)
					}
				}
			}
		}
	}
}

func TestWhatASelectReads(t *testing.T) {
	for _, c := range []struct{ args, want []int }{
		{[]int{1, 3, 0}, []int{3}},
		{[]int{1, 0, 0}, []int{0}},
		{[]int{2, 3, 4}, []int{3, 4}},
		{[]int{2, 4, 3}, []int{4, 3}},
		{[]int{2, 4, 0}, []int{4, 0}},
		{[]int{2, 4, 4}, []int{4, 4}},
		{[]int{1, 3, 0, 2, 4, 5}, []int{3, 4, 5}},
		{[]int{2, 4, 5, 1, 3, 0}, []int{4, 5, 3}},
		{[]int{1, 3, 0, 1, 3, 0}, []int{3, 3}},
		{[]int{2, 9, 8, 2, 7, 6}, []int{9, 8, 7, 6}},
		{[]int{2, 1, 2, 2, 1, 2}, []int{1, 2, 1, 2}},
		{[]int{1, 2, 0, 1, 1, 0, 1, 2, 0}, []int{2, 1, 2}},
		{[]int{2, 1, 2, 1, 3, 0, 2, 4, 5}, []int{1, 2, 3, 4, 5}},
		{[]int{1, 5, 0, 2, 4, 3, 1, 2, 0}, []int{5, 4, 3, 2}},
		{[]int{2, 9, 8, 2, 7, 6, 2, 5, 4}, []int{9, 8, 7, 6, 5, 4}},
	} {
		for n := range 2 {
			x := choose(10, 11, n, c.args...)
			if got := impl.Uses(x); !slices.Equal(got, c.want) {
				t.Errorf("Uses(%+v) = %v, not %v", x, got, c.want)
			}
			checkTac(t, x)
			wantUnit(t, around(x))
		}
	}
}

// One to three cases, takes and gives in each order, with a default and without: all registers differ, so that each is seen in its place.
func TestSelectsOfEachOrder(t *testing.T) {
	met := 0
	for count := 1; count <= 3; count++ {
		for kinds := range 1 << count {
			for n := range 2 {
				var args, want []int
				for i := range count {
					channel, value := 40-2*i, 41-2*i
					if kinds>>i&1 == 1 {
						args, want = append(args, 2, channel, value), append(want, channel, value)
					} else {
						args, want = append(args, 1, channel, 0), append(want, channel)
					}
				}
				x := choose(50, 51, n, args...)
				if got := impl.Uses(x); !slices.Equal(got, want) {
					t.Errorf("Uses(%+v) = %v, not %v", x, got, want)
				}
				u := around(x)
				u.Regs = 52
				wantUnit(t, u)
				met++
			}
		}
	}
	if met != 28 {
		t.Errorf("%d selects", met)
	}
}

func TestArgsThatAreRead(t *testing.T) {
	for _, args := range [][]int{nil, {}, {0}, {7}, {7, 7}, {3, 1}, {1, 2, 1}, {4, 3, 2, 1}, {5, 5, 5, 5}, {0, 0, 0, 0}, {9, 1, 9, 1}} {
		for _, x := range []impl.Tac{call("f", args...), begin("f", args...)} {
			if got := impl.Uses(x); !slices.Equal(got, args) {
				t.Errorf("Uses(%+v) = %v", x, got)
			}
			checkTac(t, x)
			wantUnit(t, around(x))
		}
	}
	for _, n := range []int{0, 3, 8, 9} {
		x := impl.Tac{Op: impl.TcCas, D: 1, A: 9, B: 8, Args: []int{n}}
		if got := impl.Uses(x); !slices.Equal(got, []int{9, 8, n}) {
			t.Errorf("Uses(%+v) = %v", x, got)
		}
	}
}

// Fields that the op does not name are not told, whatever stands there.
func TestWhatIsNotNamedIsNotTold(t *testing.T) {
	for _, f := range tacForms {
		right := ordinaryTac(f)
		x := right
		for _, name := range "DABN" {
			if !strings.ContainsRune(f.names, name) {
				*tacField(&x, name) = 70
			}
		}
		if !strings.Contains(f.names, "S") {
			x.S = "f"
		}
		if !strings.Contains(f.names, "V") {
			x.Args = []int{2, 71, 72}
		}
		if !slices.Equal(impl.Sets(x), impl.Sets(right)) || !slices.Equal(impl.Uses(x), impl.Uses(right)) {
			t.Errorf("%+v sets %v and reads %v", x, impl.Sets(x), impl.Uses(x))
		}
	}
}

func TestOpsThatAreNoneTellNothing(t *testing.T) {
	for _, op := range opsThatAreNone() {
		for _, x := range []impl.Tac{{Op: op}, {Op: op, D: 1}, {Op: op, D: 1, A: 2, B: 3, N: 4, S: "f", Args: []int{5}}, {Op: op, Args: []int{2, 4, 5}}} {
			if len(impl.Sets(x)) != 0 || len(impl.Uses(x)) != 0 {
				t.Errorf("%+v sets %v and reads %v", x, impl.Sets(x), impl.Uses(x))
			}
		}
	}
}

// Numbers that are no registers are told as they stand: which ones are registers, only the unit tells.
func TestNumbersThatAreNoRegisters(t *testing.T) {
	far := append(edges(), mostRegs, mostRegs+1)
	for _, n := range far {
		for _, f := range tacForms {
			checkTac(t, impl.Tac{Op: f.op, D: n, A: n, B: n, N: n})
			for _, put := range registerFields(f) {
				x := ordinaryTac(f)
				put(&x, n)
				checkTac(t, x)
			}
		}
		// Kinds that are none name their channel, and no value.
		checkTac(t, choose(1, 2, n, n, 3, 4))
		if n != 2 {
			if x := choose(1, 2, 0, n, 3, 4); !slices.Equal(impl.Uses(x), []int{3}) {
				t.Errorf("Uses(%+v) = %v", x, impl.Uses(x))
			}
		}
	}
	for count := range 14 {
		for _, kind := range []int{0, 1, 2, 3} {
			checkTac(t, choose(1, 2, 0, slices.Repeat([]int{kind, 2, 2}, 5)[:count]...))
		}
		checkTac(t, call("f", ramp(count)...))
		checkTac(t, begin("f", ramp(count)...))
		checkTac(t, impl.Tac{Op: impl.TcCas, Args: ramp(count)})
	}
	for count, want := range [][]int{nil, nil, nil, {3, 4}, {3, 4}, {3, 4}, {3, 4, 5, 6}} {
		if x := choose(1, 2, 0, []int{2, 3, 4, 2, 5, 6}[:count]...); !slices.Equal(impl.Uses(x), want) {
			t.Errorf("Uses(%+v) = %v, not %v", x, impl.Uses(x), want)
		}
	}
}

func TestTheZeroUnit(t *testing.T) {
	if impl.UnitOk(impl.Unit{}) {
		t.Error("the zero unit is right")
	}
	wantAmiss(t, impl.Unit{}, "none")
	wantUnit(t, impl.Unit{Regs: 1, Code: []impl.Tac{ret(0)}})
	wantUnit(t, impl.Unit{Code: []impl.Tac{label(0), jump(0)}})
	for _, f := range tacForms {
		wantUnit(t, around(ordinaryTac(f)))
	}
}

func TestHowManyRegistersAUnitHas(t *testing.T) {
	for n, ok := range map[int]bool{0: true, 1: true, 249: true, 250: true, 251: false, 252: false, 500: false, greatest: false, turn + 1: false, math.MaxInt: false} {
		wantEither(t, unit(0, n, label(3), jump(3)), ok, "regs")
	}
	// Of too few registers even no Params are more.
	for _, n := range []int{-1, -2, -250, least, -turn, math.MinInt} {
		for _, params := range []int{0, n} {
			u := unit(params, n, label(3), jump(3))
			if checkUnit(t, u) || impl.UnitOk(u) {
				t.Errorf("UnitOk(%+v)", u)
			}
		}
	}
	for n := range 251 {
		wantUnit(t, unit(0, n, label(3), jump(3)))
	}
	wantUnit(t, unit(0, 250, ret(249)))
	wantAmiss(t, unit(0, 251, ret(249)), "regs")
	wantAmiss(t, unit(0, 251, ret(250)), "regs")
}

func TestHowManyParamsAUnitHas(t *testing.T) {
	for n, ok := range map[int]bool{math.MinInt: false, least: false, -2: false, -1: false, 0: true, 1: true, 2: true, 3: true, 4: true, 5: false, 6: false, 250: false} {
		wantEither(t, unit(n, 250, ret(0)), ok, "params")
	}
	for _, n := range []int{251, greatest, turn + 1, math.MaxInt} {
		checkUnit(t, unit(n, 250, ret(0)))
	}
	for regs := range 8 {
		for params := range 5 {
			wantEither(t, unit(params, regs, label(3), jump(3)), params <= regs, "both")
		}
	}
}

func TestHowManyPlacesAUnitHas(t *testing.T) {
	for _, count := range []int{1, 2, 3, 450, 899, 900} {
		wantUnit(t, unit(0, 1, slices.Repeat([]impl.Tac{ret(0)}, count)...))
		wantUnit(t, unit(0, 1, append(slices.Repeat([]impl.Tac{{Op: impl.TcCore}}, count-1), ret(0))...))
	}
	for _, count := range []int{901, 902, 1800, 50000} {
		wantAmiss(t, unit(0, 1, slices.Repeat([]impl.Tac{ret(0)}, count)...), "many")
	}
	for _, none := range [][]impl.Tac{nil, {}, make([]impl.Tac, 0, 4), make([]impl.Tac, 4)[4:]} {
		wantAmiss(t, unit(0, 1, none...), "none")
	}
}

func TestOpsOfAUnit(t *testing.T) {
	for _, op := range opsThatAreNone() {
		for at := range 3 {
			code := []impl.Tac{ret(0), ret(0), ret(0), ret(0)}
			code[at] = impl.Tac{Op: op}
			wantAmiss(t, unit(0, 1, code...), "op")
		}
		checkUnit(t, unit(0, 1, impl.Tac{Op: op}))
		checkUnit(t, unit(0, 1, ret(0), impl.Tac{Op: op}))
	}
	for op := -3; op <= 32; op++ {
		if f, ok := tacFormOf(op); ok {
			wantUnit(t, around(ordinaryTac(f)))
		} else {
			wantAmiss(t, around(impl.Tac{Op: op}), "op")
		}
	}
}

func TestRegistersOfAUnit(t *testing.T) {
	met := 0
	for _, f := range tacForms {
		for _, put := range registerFields(f) {
			for _, regs := range []int{10, aroundRegs, 249, 250} {
				for n, ok := range map[int]bool{-1: false, 0: true, 1: true, regs - 1: true, regs: false, regs + 1: false, regs - turn: false, regs - 1 + turn: false, 251: false, math.MinInt: false, math.MaxInt: false} {
					x := ordinaryTac(f)
					put(&x, n)
					u := around(x)
					u.Regs = regs
					wantEither(t, u, ok, "register")
				}
			}
			met++
		}
	}
	if met != 58 {
		t.Errorf("%d fields are registers", met)
	}
}

// A unit without registers has only places that name none.
func TestUnitsWithoutRegisters(t *testing.T) {
	for _, f := range tacForms {
		x := ordinaryTac(f)
		x.D, x.A, x.B = 0, 0, 0
		for i := range x.Args {
			if f.op != impl.TcSelect || i%3 != 0 {
				x.Args[i] = 0
			}
		}
		code := []impl.Tac{x, label(aroundLabel + 1), jump(aroundLabel + 1)}
		if goesTo(x) {
			code[1].N, code[2].N = aroundLabel, aroundLabel
		}
		wantEither(t, unit(0, 0, code...), f.op == impl.TcLabel || f.op == impl.TcJump, "register")
		wantUnit(t, unit(0, 1, code...))
	}
	for _, x := range []impl.Tac{call("f"), begin("f"), addr("f")} {
		wantEither(t, unit(0, 0, x, label(1), jump(1)), x.Op == impl.TcGo, "register")
	}
}

func TestNumbersOfAUnit(t *testing.T) {
	for _, n := range edges() {
		wantEither(t, around(impl.Tac{Op: impl.TcNum, D: 1, N: n}), n >= least && n <= greatest, "word")
	}
	for n, ok := range map[int]bool{least - 1: false, least: true, least + 1: true, -1: true, 0: true, 1: true, greatest - 1: true, greatest: true, greatest + 1: false, turn: false, math.MinInt: false, math.MaxInt: false} {
		if impl.UnitOk(around(impl.Tac{Op: impl.TcNum, N: n})) != ok {
			t.Errorf("a TcNum of %d is not %v", n, ok)
		}
	}
}

func TestWhatIsNotNamedInAUnit(t *testing.T) {
	met := 0
	for _, f := range tacForms {
		for _, name := range "DABN" {
			if strings.ContainsRune(f.names, name) {
				continue
			}
			met++
			for _, n := range []int{1, -1, 2, aroundRegs - 1, aroundRegs, 250, least, greatest, 1 << 8, 1 << 31} {
				x := ordinaryTac(f)
				*tacField(&x, name) = n
				if !wordsOk(n) && name == 'N' {
					checkUnit(t, around(x))
					continue
				}
				wantAmiss(t, around(x), "unnamed")
			}
			for _, n := range []int{turn, -turn, 1 << 62, math.MinInt, math.MaxInt} {
				x := ordinaryTac(f)
				*tacField(&x, name) = n
				if impl.UnitOk(around(x)) {
					t.Errorf("UnitOk with %+v", x)
				}
				checkUnit(t, around(x))
			}
		}
		if !strings.Contains(f.names, "S") {
			met++
			for _, s := range []string{"f", "u", " ", "\x00", "main", strings.Repeat("x", 1000)} {
				x := ordinaryTac(f)
				x.S = s
				wantAmiss(t, around(x), "unnamed")
			}
		}
		if !strings.Contains(f.names, "V") {
			met++
			for _, args := range [][]int{{0}, {1}, {-1}, {0, 0}, {1, 2, 0}, {1, 2, 3, 4}, {0, 0, 0, 0, 0}, make([]int, 9), make([]int, 1000)} {
				x := ordinaryTac(f)
				x.Args = args
				wantAmiss(t, around(x), "unnamed")
			}
			for _, args := range [][]int{nil, {}, make([]int, 0, 3), []int{1, 2}[:0]} {
				x := ordinaryTac(f)
				x.Args = args
				wantUnit(t, around(x))
			}
		}
	}
	if met != 28*6-countNamed() {
		t.Errorf("%d fields are not named", met)
	}
}

func countNamed() int {
	count := 0
	for _, f := range tacForms {
		count += len(f.names)
	}
	return count
}

func TestHowManyCasesASelectHas(t *testing.T) {
	for _, one := range [][]int{{1, 3, 0}, {2, 3, 4}} {
		for count := range 8 {
			for n := range 2 {
				x := choose(1, 2, n, slices.Repeat(one, count)...)
				wantEither(t, around(x), count >= 1 && count <= 3, "threes")
			}
		}
	}
	for count := range 40 {
		x := choose(1, 2, 0, slices.Repeat([]int{2, 2, 2}, 14)[:count]...)
		wantEither(t, around(x), count == 3 || count == 6 || count == 9, "threes")
	}
}

func TestKindsOfCases(t *testing.T) {
	for _, count := range []int{1, 2, 3} {
		for at := range count {
			for _, n := range []int{math.MinInt, -turn + 1, -2, -1, 0, 1, 2, 3, 4, 257, turn + 1, turn + 2, math.MaxInt} {
				args := slices.Repeat([]int{2, 3, 4}, count)
				args[at*3], args[at*3+2] = n, 0
				wantEither(t, around(choose(1, 2, 0, args...)), n == 1 || n == 2, "kind")
			}
		}
	}
}

func TestTheValueOfATake(t *testing.T) {
	for _, count := range []int{1, 2, 3} {
		for at := range count {
			for _, other := range [][]int{{1, 3, 0}, {2, 3, 4}} {
				for _, n := range []int{math.MinInt, -1, 0, 1, 3, aroundRegs - 1, aroundRegs, 250, turn, math.MaxInt} {
					args := slices.Repeat(other, count)
					copy(args[at*3:], []int{1, 5, n})
					wantEither(t, around(choose(1, 2, 1, args...)), n == 0, "take")
				}
			}
		}
	}
}

func TestTheDefaultOfASelect(t *testing.T) {
	for _, args := range [][]int{{1, 3, 0}, {2, 3, 4}, {1, 3, 0, 2, 4, 5, 1, 6, 0}} {
		for n, ok := range map[int]bool{-2: false, -1: false, 0: true, 1: true, 2: false, 3: false, 7: false, 256: false, least: false, greatest: false} {
			wantEither(t, around(choose(1, 2, n, args...)), ok, "default")
		}
		for _, n := range []int{turn, turn + 1, math.MinInt, math.MaxInt} {
			checkUnit(t, around(choose(1, 2, n, args...)))
		}
	}
}

func TestHowManyArgsAPlaceHas(t *testing.T) {
	for count := range 12 {
		args := make([]int, count)
		for i := range args {
			args[i] = i % 3
		}
		wantEither(t, around(call("f", args...)), count <= 4, "args")
		wantEither(t, around(begin("f", args...)), count <= 4, "args")
		wantEither(t, around(impl.Tac{Op: impl.TcCas, D: 1, A: 2, B: 3, Args: args}), count == 1, "cas")
	}
}

func TestLabelsOfAUnit(t *testing.T) {
	for n, ok := range map[int]bool{least: false, -900: false, -2: false, -1: false, 0: true, 1: true, 899: true, 900: true, 901: false, 902: false, 1 << 16: false, greatest: false} {
		wantEither(t, unit(0, 1, label(n), ret(0)), ok, "label")
		wantEither(t, unit(0, 1, label(n), unless(0, n), jump(n)), ok, "label")
	}
	for _, n := range []int{least - 1, greatest + 1, turn, turn + 3, -turn, math.MinInt, math.MaxInt} {
		checkUnit(t, unit(0, 1, label(n), ret(0)))
	}
	for _, n := range []int{0, 1, 450, 899, 900} {
		wantAmiss(t, unit(0, 1, label(n), label(n), ret(0)), "twice")
		wantAmiss(t, unit(0, 1, label(n), ret(0), label(n), ret(0)), "twice")
		wantAmiss(t, unit(0, 1, jump(n), label(n), label(n), label(n), ret(0)), "twice")
		wantUnit(t, unit(0, 1, label(n), label((n+1)%901), ret(0)))
		wantUnit(t, unit(0, 1, label(n), jump(n), unless(0, n), jump(n)))
	}
	code := make([]impl.Tac, 900)
	for i := range code {
		code[i] = label(900 - i)
	}
	code[899] = jump(900)
	wantUnit(t, unit(0, 0, code...))
	code[898].N = 900
	wantAmiss(t, unit(0, 0, code...), "twice")
	code[898].N = 0
	wantUnit(t, unit(0, 0, code...))
	code[899].N = 1
	wantAmiss(t, unit(0, 0, code...), "nowhere")
}

func TestLabelsToWhichOneGoes(t *testing.T) {
	for _, n := range []int{0, 1, 5, 899, 900} {
		for _, x := range []impl.Tac{jump(n), unless(0, n)} {
			other := (n + 1) % 901
			wantUnit(t, unit(0, 1, label(n), x, ret(0)))
			wantUnit(t, unit(0, 1, x, label(n), ret(0)))
			wantUnit(t, unit(0, 1, label(n), ret(0), ret(0), x, ret(0)))
			wantUnit(t, unit(0, 1, x, x, ret(0), label(n), x, ret(0)))
			wantAmiss(t, unit(0, 1, x, ret(0)), "nowhere")
			wantAmiss(t, unit(0, 1, label(other), x, ret(0)), "nowhere")
			wantAmiss(t, unit(0, 1, x, label(other), ret(0)), "nowhere")
			wantAmiss(t, unit(0, 1, label(n), jump(n), unless(0, other), ret(0)), "nowhere")
			wantAmiss(t, unit(0, 1, impl.Tac{Op: impl.TcNum, N: n}, x, ret(0)), "nowhere")
		}
		wantUnit(t, unit(0, 0, label(n), jump(n)))
		wantAmiss(t, unit(0, 0, jump(n)), "nowhere")
	}
	for _, n := range []int{least, -901, -1, 901, 902, greatest} {
		for _, x := range []impl.Tac{jump(n), unless(0, n)} {
			wantAmiss(t, unit(0, 1, label(0), x, label(900), ret(0)), "nowhere")
		}
	}
	for _, n := range []int{least - 1, greatest + 1, turn, -turn, math.MinInt, math.MaxInt} {
		for _, x := range []impl.Tac{jump(n), unless(0, n)} {
			checkUnit(t, unit(0, 1, label(0), x, ret(0)))
			checkUnit(t, unit(0, 1, label(n), x, ret(0)))
		}
	}
}

func TestTheLastPlaceOfAUnit(t *testing.T) {
	for _, f := range tacForms {
		x := ordinaryTac(f)
		ends := f.op == impl.TcRet || f.op == impl.TcJump || f.op == impl.TcHalt
		first := label(aroundLabel)
		if f.op == impl.TcLabel {
			first = label(1)
		}
		wantEither(t, unit(0, aroundRegs, first, x), ends, "last")
		wantEither(t, unit(0, aroundRegs, first, ret(0), x), ends, "last")
		wantUnit(t, unit(0, aroundRegs, first, x, ret(0)))
		wantUnit(t, unit(0, aroundRegs, first, x, impl.Tac{Op: impl.TcHalt}))
		if !goesTo(x) {
			wantEither(t, unit(0, aroundRegs, x), ends, "last")
		}
	}
}

// Which name a unit has, and which ones it names, is nothing to a unit by itself.
func TestNamesOfAUnit(t *testing.T) {
	for _, s := range []string{"", "f", "rtgo", "let", "a b", "\x00", "\xff", strings.Repeat("long", 3000)} {
		for _, x := range []impl.Tac{call(s), begin(s), addr(s), call(s, 1, 2, 3, 4)} {
			u := around(x)
			wantUnit(t, u)
			u.Name = s
			wantUnit(t, u)
		}
	}
}

// The place that is amiss is the first, one in the middle, or the last but one.
func TestOnePlaceIsAmiss(t *testing.T) {
	wrong := map[string]impl.Tac{
		"op": {}, "register": {Op: impl.TcCore, D: 3}, "word": {Op: impl.TcNum, N: greatest + 1}, "label": label(-1), "nowhere": jump(4),
		"unnamed": {Op: impl.TcCore, A: 1}, "args": call("f", 0, 0, 0, 0, 0), "cas": {Op: impl.TcCas}, "threes": choose(0, 0, 0),
		"kind": choose(0, 0, 0, 3, 0, 0), "take": choose(0, 0, 0, 1, 0, 1), "default": choose(0, 0, 2, 1, 0, 0),
	}
	for alone, x := range wrong {
		for _, count := range []int{2, 3, 900} {
			for _, at := range []int{0, count / 2, count - 2} {
				code := slices.Repeat([]impl.Tac{ret(2)}, count)
				if at < count-1 {
					code[at] = x
					wantAmiss(t, unit(2, 3, code...), alone)
				}
			}
		}
	}
}

func wantUnits(t *testing.T, ok bool, alone string, list ...impl.Unit) {
	t.Helper()
	faults := unitsFaults(list)
	if ok && len(faults) > 0 || !ok && !slices.Equal(faults, []string{alone}) {
		t.Errorf("of %s there is amiss %v, and should %q", clip(list), faults, alone)
	}
	if got := impl.UnitsOk(list); got != ok {
		t.Errorf("UnitsOk(%s) is %v: %q", clip(list), got, alone)
	}
}

func namedUnit(name string, params int, code ...impl.Tac) impl.Unit {
	return impl.Unit{Name: name, Params: params, Regs: 5, Code: append(slices.Clone(code), ret(0))}
}

func manyUnits(count int) []impl.Unit {
	var list []impl.Unit
	for i := range count {
		list = append(list, namedUnit("u"+impl.Digits(i), i%5))
	}
	return list
}

func TestHowManyUnits(t *testing.T) {
	for _, none := range [][]impl.Unit{nil, {}, make([]impl.Unit, 0, 3), make([]impl.Unit, 3)[:0]} {
		wantUnits(t, true, "", none...)
		if !impl.UnitsOk(none) {
			t.Error("no unit at all is amiss")
		}
	}
	for _, count := range []int{1, 2, 40, 79, 80} {
		wantUnits(t, true, "", manyUnits(count)...)
	}
	for _, count := range []int{81, 82, 160, 1000} {
		wantUnits(t, false, "many", manyUnits(count)...)
	}
}

func TestOneUnitIsAmiss(t *testing.T) {
	for _, count := range []int{1, 3, 80} {
		for _, at := range []int{0, count / 2, count - 1} {
			for _, wrong := range []impl.Unit{{}, unit(5, 5, ret(0)), unit(0, 251, ret(0)), unit(0, 1, ret(1)), unit(0, 1, label(0)), unit(0, 1, jump(0)), unit(0, 1, impl.Tac{}, ret(0))} {
				list := manyUnits(count)
				list[at] = wrong
				wantUnits(t, false, "unit", list...)
			}
		}
	}
}

func TestTwoUnitsOfOneName(t *testing.T) {
	for _, count := range []int{2, 3, 80} {
		for _, pair := range [][2]int{{0, 1}, {0, count - 1}, {count - 2, count - 1}, {count / 2, 0}} {
			for _, name := range []string{"", "f", "main", "u0", strings.Repeat("n", 5000)} {
				list := manyUnits(count)
				list[pair[0]].Name = name
				if !slices.ContainsFunc(list[1:], func(u impl.Unit) bool { return u.Name == list[0].Name }) && name != "u0" {
					wantUnits(t, true, "", list...)
				}
				list[pair[1]].Name = name
				if pair[0] != pair[1] {
					wantUnits(t, false, "twice", list...)
				}
			}
		}
	}
	// Names that are nearly the same.
	wantUnits(t, true, "", namedUnit("f", 0), namedUnit("F", 0), namedUnit("f ", 0), namedUnit("", 0), namedUnit(" f", 0), namedUnit("ff", 0), namedUnit("f\x00", 0))
	// The same unit twice, and two that are the same but for their names.
	wantUnits(t, false, "twice", namedUnit("f", 1), namedUnit("f", 1))
	wantUnits(t, true, "", namedUnit("f", 1), namedUnit("g", 1))
}

func TestUnitsThatAreNamed(t *testing.T) {
	for _, x := range []impl.Tac{call("f", 1, 2), begin("f", 1, 2), addr("f")} {
		f, self := namedUnit("f", 2), namedUnit("f", 2, x)
		other := namedUnit("g", 0, x)
		wantUnits(t, true, "", f, other)
		wantUnits(t, true, "", other, f)
		wantUnits(t, true, "", self)
		wantUnits(t, true, "", namedUnit("a", 1), other, namedUnit("b", 3), f, namedUnit("c", 2, x))
		wantUnits(t, false, "nowhere", other)
		for _, near := range []string{"", "F", "ff", "f ", "g2", "f\x00"} {
			wantUnits(t, false, "nowhere", other, namedUnit(near, 2))
			wantUnits(t, false, "nowhere", namedUnit(near, 2), other)
		}
		x.S = ""
		wantUnits(t, true, "", namedUnit("", 2), namedUnit("g", 0, x))
		wantUnits(t, false, "nowhere", f, namedUnit("g", 0, x))
		x.S = strings.Repeat("f", 5000)
		wantUnits(t, true, "", namedUnit(strings.Repeat("f", 5000), 2), namedUnit("g", 0, x))
		wantUnits(t, false, "nowhere", namedUnit(strings.Repeat("f", 4999), 2), namedUnit("g", 0, x))
	}
	// What names nothing asks for nothing: the S of others is empty, and need be no unit.
	wantUnits(t, true, "", namedUnit("f", 0, label(1), impl.Tac{Op: impl.TcCore}))
}

func TestArgsAreAsManyAsParams(t *testing.T) {
	for params := range 5 {
		for count := range 5 {
			args := make([]int, count)
			f := namedUnit("f", params)
			for _, x := range []impl.Tac{call("f", args...), begin("f", args...)} {
				g := namedUnit("g", 1, x)
				wantUnits(t, params == count, "args", f, g)
				wantUnits(t, params == count, "args", g, f)
				wantUnits(t, params == count, "args", namedUnit("f", params, x))
				// It is the named unit that is asked, not the one ahead, behind, or where it stands.
				wantUnits(t, params == count, "args", namedUnit("a", (params+1)%5), f, namedUnit("b", (params+2)%5, x), namedUnit("c", (params+3)%5))
			}
		}
		wantUnits(t, true, "", namedUnit("f", params), namedUnit("g", 0, addr("f")))
		wantUnits(t, true, "", namedUnit("f", params, addr("f")))
	}
}

// The one place that names what is not there stands in any unit, at any place.
func TestOneNameIsAmiss(t *testing.T) {
	for _, at := range []int{0, 1, 40, 79} {
		for _, place := range []int{0, 450, 898} {
			for _, c := range []struct {
				x     impl.Tac
				alone string
			}{{call("v"), "nowhere"}, {begin("v"), "nowhere"}, {addr("v"), "nowhere"}, {call("u4", 0, 0, 0), "args"}, {begin("u1"), "args"}, {begin("u1", 0, 0), "args"}, {call("u0", 0), "args"}} {
				list := manyUnits(80)
				code := slices.Repeat([]impl.Tac{call("u1", 2), begin("u2", 0, 1), addr("u3")}, 300)
				code[899] = ret(0)
				list[at].Code = code
				wantUnits(t, true, "", list...)
				code[place] = c.x
				wantUnits(t, false, c.alone, list...)
			}
		}
	}
}

// unitDrawer draws units that are right.
type unitDrawer struct {
	*drawer
	regs   int
	labels int
}

func newUnitDrawer(seed uint64) *unitDrawer { return &unitDrawer{drawer: newDrawer(seed)} }

func (d *unitDrawer) register() int { return d.IntN(d.regs) }

func (d *unitDrawer) place() impl.Tac {
	f := tacForms[d.IntN(len(tacForms))]
	for f.op == impl.TcLabel {
		f = tacForms[d.IntN(len(tacForms))]
	}
	x := impl.Tac{Op: f.op}
	for _, name := range f.names {
		switch name {
		case 'S':
			x.S = d.pick("f", "g", "h", "main")
		case 'N':
			x.N = d.IntN(d.labels)
		case 'V':
			x.Args = d.argsOf(f.op)
		default:
			*tacField(&x, name) = d.register()
		}
	}
	switch f.op {
	case impl.TcNum:
		x.N = []int{least, -1, 0, 1, 7, 901, greatest}[d.IntN(7)]
	case impl.TcSelect:
		x.N = d.IntN(2)
	}
	return x
}

func (d *unitDrawer) argsOf(op int) []int {
	var args []int
	if op == impl.TcSelect {
		for range 1 + d.IntN(3) {
			if d.IntN(2) == 0 {
				args = append(args, 1, d.register(), 0)
			} else {
				args = append(args, 2, d.register(), d.register())
			}
		}
		return args
	}
	count := 1
	if op != impl.TcCas {
		count = d.IntN(5)
	}
	for range count {
		args = append(args, d.register())
	}
	return args
}

func (d *unitDrawer) unit() impl.Unit {
	d.regs = 1 + d.IntN([]int{2, 9, 250}[d.IntN(3)])
	d.labels = 1 + d.IntN(4)
	u := impl.Unit{Name: d.name(), Params: d.IntN(min(d.regs, 4) + 1), Regs: d.regs}
	for range d.IntN([]int{4, 20, 60}[d.IntN(3)]) {
		u.Code = append(u.Code, d.place())
	}
	u.Code = d.ended(u.Code)
	return u
}

// ended puts all labels somewhere among places, and one behind them that ends them.
func (d *unitDrawer) ended(code []impl.Tac) []impl.Tac {
	for n := range d.labels {
		code = slices.Insert(code, d.IntN(len(code)+1), label(n))
	}
	return append(code, []impl.Tac{ret(d.register()), jump(d.IntN(d.labels)), halts(d.register())}[d.IntN(3)])
}

// Promise 10: what is told of each place of a unit that is right are registers of it, each of which is a field of the place or one of its Args.
func TestWhatAUnitSetsAndReadsIsNamed(t *testing.T) {
	d := newUnitDrawer(101)
	met := map[int]int{}
	for range 3000 {
		u := d.unit()
		if !impl.UnitOk(u) || !wantUnitOk(u) {
			t.Fatalf("%s is not right: %v", clip(u), unitFaults(u))
		}
		for _, x := range u.Code {
			met[x.Op]++
			checkTac(t, x)
			for _, r := range append(impl.Sets(x), impl.Uses(x)...) {
				if r < 0 || r >= u.Regs {
					t.Errorf("%+v tells %d, of %d registers", x, r, u.Regs)
				}
				if !slices.Contains(append([]int{x.D, x.A, x.B}, x.Args...), r) {
					t.Errorf("%+v tells %d, which is not there", x, r)
				}
			}
			if set := impl.Sets(x); len(set) > 0 && set[0] != x.D || len(set) > 2 {
				t.Errorf("%+v sets %v", x, set)
			}
		}
	}
	for _, f := range tacForms {
		if met[f.op] < 100 {
			t.Errorf("op %d is drawn %d times", f.op, met[f.op])
		}
	}
}

// turnUnit turns one thing of a unit, so that it may be amiss, or right otherwise.
func (d *unitDrawer) turnUnit(u impl.Unit) impl.Unit {
	u = cloneUnit(u)
	numbers := []int{-1, 0, 1, 2, 3, 4, 5, 7, u.Regs - 1, u.Regs, u.Regs + 1, 249, 250, 251, 899, 900, 901, least - 1, least, greatest, greatest + 1, math.MinInt, math.MaxInt}
	n := numbers[d.IntN(len(numbers))]
	at := d.IntN(len(u.Code))
	x := &u.Code[at]
	switch d.IntN(12) {
	case 0:
		u.Regs = n
	case 1:
		u.Params = n
	case 2:
		x.Op = d.IntN(32) - 1
	case 3, 4, 5:
		*tacField(x, rune("DABN"[d.IntN(4)])) = n
	case 6:
		x.S = d.pick("", "f", "nowhere")
	case 7:
		x.Args = append(x.Args, n)
	case 8:
		x.Args = x.Args[:d.IntN(len(x.Args)+1)]
	case 9:
		if len(x.Args) > 0 {
			x.Args[d.IntN(len(x.Args))] = n
		}
	case 10:
		u.Code = slices.Delete(u.Code, at, at+1)
	case 11:
		u.Code = slices.Insert(u.Code, d.IntN(len(u.Code)+1), *x)
	}
	return u
}

func TestDrawnUnitsThatAreTurned(t *testing.T) {
	d := newUnitDrawer(102)
	alone := map[string]int{}
	for range 8000 {
		u := d.unit()
		for range 10 {
			turned := d.turnUnit(u)
			checkUnit(t, turned)
			faults := unitFaults(turned)
			if len(faults) < 2 {
				alone[strings.Join(faults, "")]++
			}
			for _, x := range turned.Code {
				checkTac(t, x)
			}
		}
	}
	for _, name := range []string{"", "regs", "params", "both", "last", "twice", "nowhere", "op", "register", "word", "label", "unnamed", "args", "cas", "threes", "kind", "take", "default"} {
		if alone[name] < 10 {
			t.Errorf("%q alone is drawn %d times", name, alone[name])
		}
	}
}

// units draws a list in which what is named is there, with as many Params, unless it is turned.
func (d *unitDrawer) units() []impl.Unit {
	var list []impl.Unit
	for _, name := range []string{"f", "g", "h", "main"} {
		u := d.unit()
		u.Name = name
		list = append(list, u)
	}
	for _, u := range list {
		for i, x := range u.Code {
			if x.Op == impl.TcCall || x.Op == impl.TcGo {
				at := slices.IndexFunc(list, func(u impl.Unit) bool { return u.Name == x.S })
				u.Code[i].Args = make([]int, list[at].Params)
			}
		}
	}
	d.Shuffle(len(list), func(i, j int) { list[i], list[j] = list[j], list[i] })
	return list
}

func TestDrawnListsOfUnits(t *testing.T) {
	d := newUnitDrawer(103)
	met := map[string]int{}
	for range 3000 {
		list := d.units()
		wantUnits(t, true, "", list...)
		for range 4 {
			turned := slices.Clone(list)
			at := d.IntN(len(list))
			switch d.IntN(4) {
			case 0:
				turned[at] = d.turnUnit(list[at])
			case 1:
				turned[at].Name = d.pick("f", "g", "h", "main", "nowhere", "")
			case 2:
				turned[at].Params = d.IntN(min(list[at].Regs, 4) + 1)
			case 3:
				turned = slices.Delete(turned, at, at+1)
			}
			faults := unitsFaults(turned)
			if got := impl.UnitsOk(turned); got != (len(faults) == 0) {
				t.Errorf("UnitsOk(%s) = %v: what is amiss is %v", clip(turned), got, faults)
			}
			met[strings.Join(faults, " ")]++
		}
	}
	for _, name := range []string{"", "unit", "twice", "nowhere", "args"} {
		if met[name] < 50 {
			t.Errorf("%q is drawn %d times: %v", name, met[name], met)
		}
	}
}

func TestTacsWithListsThatAreEmptyAndNil(t *testing.T) {
	for _, empty := range [][]int{nil, {}, make([]int, 0, 9), []int{1, 2, 3}[3:], []int{2, 3, 4}[:0]} {
		for _, f := range tacForms {
			x := ordinaryTac(f)
			x.Args = empty
			checkTac(t, x)
			if f.op == impl.TcCall || f.op == impl.TcGo || !strings.Contains(f.names, "V") {
				wantUnit(t, around(x))
			} else if impl.UnitOk(around(x)) {
				t.Errorf("UnitOk with %+v", x)
			}
		}
	}
	for _, list := range [][]impl.Unit{{{}}, {{}, {}}, {{Code: []impl.Tac{}}}, {{Code: make([]impl.Tac, 3)}}, make([]impl.Unit, 80), make([]impl.Unit, 81)} {
		if impl.UnitsOk(list) {
			t.Errorf("UnitsOk(%s)", clip(list))
		}
	}
}

func TestVeryLongTacs(t *testing.T) {
	const far = 3000000
	long := make([]int, far)
	for i := range long {
		long[i] = i%2 + 1
	}
	text := strings.Repeat("a long name ", 200000)
	for _, f := range tacForms {
		x := ordinaryTac(f)
		x.Args = long
		x.S = text
		if !slices.Equal(impl.Sets(x), wantSets(x)) || !slices.Equal(impl.Uses(x), wantUses(x)) {
			t.Errorf("op %d with very long lists tells others", f.op)
		}
		if impl.UnitOk(around(x)) {
			t.Errorf("op %d with very long lists is right", f.op)
		}
		if strings.Contains(f.names, "S") {
			x.Args = nil
			u, v := around(x), around(ordinaryTac(f))
			v.Name, v.Params = text, 0
			v.Code[1] = ret(0)
			if !impl.UnitOk(u) || !impl.UnitsOk([]impl.Unit{u, v}) || impl.UnitsOk([]impl.Unit{u}) {
				t.Errorf("op %d with a very long text is amiss", f.op)
			}
		}
	}
	if u := unit(0, 1, slices.Repeat([]impl.Tac{ret(0)}, far/3)...); impl.UnitOk(u) || impl.UnitsOk([]impl.Unit{u}) {
		t.Error("a very long unit is right")
	}
	if impl.UnitsOk(make([]impl.Unit, far/10)) || impl.UnitsOk(slices.Repeat([]impl.Unit{unit(0, 1, ret(0))}, far/10)) {
		t.Error("very many units are right")
	}
	for _, n := range append(edges(), manyNumbers(2000)...) {
		checkUnit(t, impl.Unit{Name: "u", Params: n, Regs: n, Code: []impl.Tac{ret(0)}})
		for _, f := range tacForms {
			checkTac(t, impl.Tac{Op: f.op, D: n, A: n, B: n, N: n, Args: []int{n, n, n, 2, n, n}})
		}
		checkTac(t, impl.Tac{Op: n, D: n, A: n, B: n, N: n, Args: []int{n, n, n}})
	}
}

func cloneUnit(u impl.Unit) impl.Unit {
	u.Code = slices.Clone(u.Code)
	for i, x := range u.Code {
		u.Code[i].Args = slices.Clone(x.Args)
	}
	return u
}

func cloneUnits(list []impl.Unit) []impl.Unit {
	out := slices.Clone(list)
	for i, u := range out {
		out[i] = cloneUnit(u)
	}
	return out
}

func sameTac(a, b impl.Tac) bool {
	return a.Op == b.Op && a.D == b.D && a.A == b.A && a.B == b.B && a.N == b.N && a.S == b.S && slices.Equal(a.Args, b.Args)
}

func sameUnit(a, b impl.Unit) bool {
	return a.Name == b.Name && a.Params == b.Params && a.Regs == b.Regs && slices.EqualFunc(a.Code, b.Code, sameTac)
}

// roomyUnits is the list with spare room behind it, behind each Code and each Args; and all of that whole, so that what is written there is seen.
func roomyUnits(list []impl.Unit) ([]impl.Unit, []impl.Unit) {
	whole := append(cloneUnits(list), unit(1, 2, ret(1)), unit(0, 7, jump(3)))
	for i := range whole {
		code := append(whole[i].Code, label(61), call("room", 62))
		for k := range code {
			code[k].Args = append(code[k].Args, 63, 64, 65)
		}
		whole[i].Code = code
	}
	given := cloneUnits(whole)
	for i, u := range list {
		given[i].Code = given[i].Code[:len(u.Code)]
		for k, x := range u.Code {
			given[i].Code[k].Args = given[i].Code[k].Args[:len(x.Args)]
		}
	}
	return given[:len(list)], whole
}

// roomIsAsItWas is whether all of a roomy list, with its room, is as that whole is.
func roomIsAsItWas(given, whole []impl.Unit) bool {
	all := slices.Clone(given[:len(whole)])
	for i, u := range all {
		all[i].Code = slices.Clone(u.Code[:len(whole[i].Code)])
		for k, x := range all[i].Code {
			all[i].Code[k].Args = x.Args[:len(whole[i].Code[k].Args)]
		}
	}
	return slices.EqualFunc(all, whole, sameUnit)
}

// listsOfUnits are some that are right, and some of which something is amiss.
func listsOfUnits() [][]impl.Unit {
	d := newUnitDrawer(104)
	out := [][]impl.Unit{nil, {}, {{}}, manyUnits(3), manyUnits(80), manyUnits(81)}
	for range 150 {
		list := d.units()
		turned := slices.Clone(list)
		turned[0] = d.turnUnit(turned[0])
		out = append(out, list, turned)
	}
	var each []impl.Unit
	for _, f := range tacForms {
		u := around(ordinaryTac(f))
		u.Name = "u" + impl.Digits(f.op)
		each = append(each, u)
	}
	return append(out, each)
}

func TestTacsAreNotWrittenInto(t *testing.T) {
	for _, list := range listsOfUnits() {
		given, whole := roomyUnits(list)
		if impl.UnitsOk(given) != impl.UnitsOk(list) {
			t.Errorf("%s is answered otherwise with room behind its lists", clip(list))
		}
		for i, u := range given {
			if impl.UnitOk(u) != impl.UnitOk(list[i]) {
				t.Errorf("%s is answered otherwise with room behind its lists", clip(u))
			}
			for k, x := range u.Code {
				for _, told := range [][]int{impl.Sets(x), impl.Uses(x)} {
					spoil(told)
				}
				if !slices.Equal(impl.Sets(x), impl.Sets(list[i].Code[k])) || !slices.Equal(impl.Uses(x), impl.Uses(list[i].Code[k])) {
					t.Errorf("%+v is told otherwise with room behind its lists", x)
				}
			}
		}
		if !roomIsAsItWas(given, whole) {
			t.Errorf("%s is written into", clip(list))
		}
	}
}

func TestTacsAnswerTheSameAgain(t *testing.T) {
	lists := listsOfUnits()
	for i, list := range lists {
		ok := impl.UnitsOk(list)
		for range 3 {
			impl.UnitsOk(lists[(i+1)%len(lists)])
			if impl.UnitsOk(list) != ok {
				t.Errorf("UnitsOk(%s) is not %v again", clip(list), ok)
			}
		}
		for _, u := range list {
			if impl.UnitOk(u) != impl.UnitOk(u) {
				t.Errorf("UnitOk(%s) is not the same again", clip(u))
			}
			for _, x := range u.Code {
				if !slices.Equal(impl.Sets(x), impl.Sets(x)) || !slices.Equal(impl.Uses(x), impl.Uses(x)) {
					t.Errorf("%+v is not told the same again", x)
				}
			}
		}
	}
}

// What one answer holds is its own: what is written into it, or into the room behind it, is seen neither in another one nor in the place, and the other way round.
func TestWhatIsToldOfATacIsItsOwn(t *testing.T) {
	var places []impl.Tac
	for _, f := range tacForms {
		places = append(places, ordinaryTac(f))
	}
	places = append(places, call("f", 1), call("f", 1, 2, 3, 4), begin("f", 4), choose(1, 2, 0, 1, 3, 0), choose(1, 2, 0, 2, 3, 4), choose(1, 2, 1, 2, 3, 4, 2, 5, 6))
	for _, x := range places {
		kept := slices.Clone(x.Args)
		for _, ask := range []func(impl.Tac) []int{impl.Sets, impl.Uses} {
			one, other := ask(x), ask(x)
			want := slices.Clone(other)
			spoil(one)
			if !slices.Equal(other, want) || !slices.Equal(x.Args, kept) || !slices.Equal(ask(x), want) {
				t.Errorf("what is told of %+v is not its own", x)
			}
			spoil(x.Args)
			if !slices.Equal(other, want) {
				t.Errorf("what was told of %+v is turned with its Args", x)
			}
			x.Args = slices.Clone(kept)
		}
		sets, uses := impl.Sets(x), impl.Uses(x)
		want := slices.Clone(uses)
		spoil(sets)
		if !slices.Equal(uses, want) {
			t.Errorf("what is set and what is read of %+v share memory", x)
		}
	}
}

func TestTacsSideBySide(t *testing.T) {
	lists := listsOfUnits()
	var group sync.WaitGroup
	wrong := make([]int, 8)
	for worker := range wrong {
		group.Go(func() {
			for _, list := range lists {
				wrong[worker] += flag(impl.UnitsOk(list) != wantUnitsOk(list))
				for _, u := range list {
					for _, x := range u.Code {
						wrong[worker] += flag(!slices.Equal(impl.Sets(x), wantSets(x)) || !slices.Equal(impl.Uses(x), wantUses(x)))
					}
				}
			}
		})
	}
	group.Wait()
	if !slices.Equal(wrong, make([]int, 8)) {
		t.Errorf("answers side by side are others: %v", wrong)
	}
}
