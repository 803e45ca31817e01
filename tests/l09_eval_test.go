package tests

import (
	"math"
	"slices"
	"strconv"
	"strings"
	"sync"
	"testing"

	"loop.example/g00286/impl"
)

func sameResult(a, b impl.Result) bool {
	return a.Code == b.Code && a.Value == b.Value && slices.Equal(a.Out, b.Out)
}

func parsed(t *testing.T, src string) []impl.Func {
	t.Helper()
	list, bad := impl.Parse(src)
	if bad != -1 {
		t.Fatalf("%q is no program: %d", src, bad)
	}
	return list
}

// fuelsAbout are the fuels at which something may turn: the least ones, those about the number of nodes, and about each limit.
func fuelsAbout(nodes int) []int {
	out := []int{math.MinInt, -20000, -1, nodes / 2, nodes - 1, nodes, nodes + 1, 19999, 20000, 20001, math.MaxInt}
	for fuel := range min(nodes, 60) {
		out = append(out, fuel)
	}
	return out
}

// checkEval holds Eval against the model with each fuel at which something may turn.
func checkEval(t *testing.T, list []impl.Func, name string, args ...int) *trace {
	t.Helper()
	want := wantTrace(list, name, args)
	for _, fuel := range fuelsAbout(len(want.begun)) {
		if got := impl.Eval(list, name, args, fuel); !sameResult(got, want.with(fuel)) {
			t.Errorf("Eval(%.300q, %q, %v, %d) = %s, not %s", impl.Write(list), name, args, fuel, clip(got), clip(want.with(fuel)))
			break
		}
	}
	return want
}

func wantResult(t *testing.T, src, name string, args []int, fuel int, want impl.Result) {
	t.Helper()
	if got := impl.Eval(parsed(t, src), name, args, fuel); !sameResult(got, want) {
		t.Errorf("Eval(%.300q, %q, %v, %d) = %s, not %s", src, name, args, fuel, clip(got), clip(want))
	}
}

// wantEnd is how main of a text ends with all the fuel that there may be, and held against the model with others.
func wantEnd(t *testing.T, src string, want impl.Result) {
	t.Helper()
	wantResult(t, src, "main", nil, 20000, want)
	if checkEval(t, parsed(t, src), "main").refused {
		t.Errorf("%.300q does not run at all", src)
	}
}

func wantDone(t *testing.T, src string, value int, out ...int) {
	t.Helper()
	wantEnd(t, src, impl.Result{Code: impl.EvDone, Value: value, Out: out})
}

func wantStop(t *testing.T, src string, out ...int) {
	t.Helper()
	wantEnd(t, src, impl.Result{Code: impl.EvStop, Out: out})
}

func wantOver(t *testing.T, src string, out ...int) {
	t.Helper()
	wantEnd(t, src, impl.Result{Code: impl.EvFuel, Out: out})
}

// wantRefused is of what may not run at all, whatever the fuel.
func wantRefused(t *testing.T, list []impl.Func, name string, args ...int) {
	t.Helper()
	if w := checkEval(t, list, name, args...); !w.refused {
		t.Errorf("the model runs %q of %.300q with %v", name, impl.Write(list), args)
	}
	for _, fuel := range []int{math.MinInt, -1, 0, 1, 20000, 20001, math.MaxInt} {
		if got := impl.Eval(list, name, args, fuel); got.Code != impl.EvStop || got.Value != 0 || len(got.Out) != 0 {
			t.Errorf("Eval(%s, %q, %v, %d) = %s", clip(list), name, args, fuel, clip(got))
		}
	}
}

// prints is a function that prints its arg and hands it on, so that it is seen when an expr is reckoned.
const prints = "func p(n) { print n; return n; } "

func TestEvalConstants(t *testing.T) {
	got := []int{impl.MaxFuel, impl.EvDone, impl.EvFuel, impl.EvStop}
	if !slices.Equal(got, []int{20000, 0, 1, 2}) {
		t.Errorf("the constants are %v", got)
	}
}

func TestListsThatAreNotCheckedDoNotRun(t *testing.T) {
	met := make([]int, 8)
	refuse := func(list []impl.Func) {
		met[impl.Check(list, false)]++
		for _, name := range []string{"ahead", "f", "main", "nowhere", ""} {
			wantRefused(t, list, name)
			wantRefused(t, list, name, 1)
		}
	}
	for _, a := range faultTexts(false) {
		refuse(parsed(t, "func ahead(a) { print a; return 7; } func f() { print 1; "+a.text+" } func main() { print 2; return 3; }"))
		refuse(parsed(t, "func ahead() { return 7; } func main() { print 2; return 1; "+a.text+" }"))
		refuse(parsed(t, "func ahead() { return 7; } func f(a) { return a; } func main() { if 0 { "+a.text+" } return 1; }"))
	}
	for _, src := range []string{"", "func ahead() { }", "func f() { print 1; return 2; }", "func main(a) { return a; }", "func main() { return 1; } func f() { return main(); }", "func main() { return 1; } func ahead(a) { print a; }",
		"func f() { } func f() { } func main() { }", "func main() { } func main() { }", "func f(a, b, c, d, e) { } func main() { return 1; }", "func ahead() { return core(); } func main() { print 1; }"} {
		refuse(parsed(t, src))
	}
	for _, bad := range []impl.Node{{}, {Op: 99}, {Op: impl.NdReturn}, node(impl.NdReturn, lit(-2147483648)), node(impl.NdReturn, lit(2147483648)), node(impl.NdPrint, lit(1), lit(2)), blk(), named(impl.NdLet, "let", lit(1)), node(impl.NdReturn, deepTrees(19)["left"]), lit(1), node(impl.NdElse, blk())} {
		refuse([]impl.Func{fn("ahead", nil), fn("main", nil, node(impl.NdPrint, lit(1)), node(impl.NdReturn, lit(1)), bad)})
		refuse([]impl.Func{fn("f", nil, bad), fn("main", nil, node(impl.NdReturn, lit(1)))})
	}
	refuse([]impl.Func{{Name: "main", Body: node(impl.NdReturn, lit(1))}})
	refuse([]impl.Func{{}, fn("main", nil)})
	refuse(append(manyFunctions(40), fn("main", nil)))
	for code, count := range met {
		if (count > 0) != (code != impl.CkDone) {
			t.Errorf("code %d is met %d times: %v", code, count, met)
		}
	}
}

// What may run below, and not here.
func TestListsOfTheLowerStoreyDoNotRun(t *testing.T) {
	_, low := doneTexts()
	for _, src := range low {
		list := parsed(t, src)
		for _, f := range list {
			wantRefused(t, list, f.Name, make([]int, len(f.Params))...)
		}
	}
}

func TestNamesThatNoFunctionHas(t *testing.T) {
	list := parsed(t, "func f(a, b) { let c = 1; print c; return a + b; } func g() { return 5; } func main() { let d = 1; return f(d, 2); }")
	for _, name := range append(badNames(), "", "a", "b", "c", "d", "F", "ff", "fg", "Main", "mai", "mains", "main ", " main", "let", "print", "f(a, b)", strings.Repeat("f", 1000000)) {
		for count := range 4 {
			wantRefused(t, list, name, make([]int, count)...)
		}
	}
	for name, value := range map[string]int{"g": 5, "main": 3} {
		if got := impl.Eval(list, name, nil, 100); got.Code != impl.EvDone || got.Value != value {
			t.Errorf("%q is %v", name, got)
		}
	}
	for i := range 40 {
		many := manyFunctions(40)
		many[39].Name = "main"
		for j := range many {
			many[j].Params, many[j].Body = nil, blk(node(impl.NdReturn, lit(j)))
			if j < 39 {
				many[j].Name = letterName(j)
			}
		}
		if got := impl.Eval(many, many[i].Name, nil, 2); got.Code != impl.EvDone || got.Value != i {
			t.Errorf("function %d of 40 is %v", i, got)
		}
	}
}

func TestHowManyArgsThereMustBe(t *testing.T) {
	for params := range 5 {
		body := ") { print 7; return 8; }"
		list := parsed(t, "func f("+paramsText(params)+body+" func main("+body)
		for count := range 8 {
			args := ramp(8)[:count]
			if count != params {
				wantRefused(t, list, "f", args...)
			} else if got := impl.Eval(list, "f", args, 100); !sameResult(got, impl.Result{Value: 8, Out: []int{7}}) {
				t.Errorf("%d args of %d: %v", count, params, got)
			}
			if count > 0 {
				wantRefused(t, list, "main", args...)
			}
		}
		wantRefused(t, list, "f", make([]int, 100000)...)
	}
}

func TestArgsThatAreNoWords(t *testing.T) {
	list := parsed(t, "func f(a, b, c) { print a; print b; print c; return a; } func one(a) { return a; } func main() { }")
	for _, n := range append(edges(), manyNumbers(200)...) {
		ok := n >= -2147483648 && n <= 2147483647
		for at := range 3 {
			args := []int{1, 2, 3}
			args[at] = n
			if !ok {
				wantRefused(t, list, "f", args...)
			} else if got := impl.Eval(list, "f", args, 100); !sameResult(got, impl.Result{Value: args[0], Out: args}) {
				t.Errorf("f of %v is %v", args, got)
			}
		}
		if !ok {
			wantRefused(t, list, "one", n)
			wantRefused(t, list, "f", n, n, n)
		} else if got := impl.Eval(list, "one", []int{n}, 2); got.Code != impl.EvDone || got.Value != n {
			t.Errorf("one of %d is %v", n, got)
		}
	}
	for _, n := range []int{-2147483649, 2147483648, math.MinInt, math.MaxInt} {
		wantRefused(t, list, "one", n)
	}
	for _, n := range []int{-2147483648, 2147483647} {
		wantResult(t, "func one(a) { return a; } func main() { }", "one", []int{n}, 2, impl.Result{Value: n})
	}
}

func TestParamsThatAreChannelsDoNotRun(t *testing.T) {
	for _, params := range []string{"c chan", "c chan, a", "a, c chan", "a, b, c chan", "a, c chan, b", "a chan, b chan, c chan, d chan"} {
		list := parsed(t, "func f("+params+") { print 1; return 2; } func g(x) { return x; } func main() { return g(3); }")
		for _, n := range []int{0, 1, -1, 2147483647, math.MaxInt} {
			wantRefused(t, list, "f", slices.Repeat([]int{n}, 1+strings.Count(params, ","))...)
		}
		wantRefused(t, list, "f")
		// The others of that list do run.
		if got := impl.Eval(list, "main", nil, 100); got.Code != impl.EvDone || got.Value != 3 {
			t.Errorf("main beside f(%s) is %v", params, got)
		}
		checkEval(t, list, "g", 4)
	}
}

func TestSetting(t *testing.T) {
	wantDone(t, inMain("let x = 5; return x;"), 5)
	wantDone(t, inMain("let x = 5; x = 7; return x;"), 7)
	wantDone(t, inMain("let x = 5; x = x + 1; let y = x * 2; x = y - x; return x * 100 + y;"), 612)
	wantDone(t, inMain("let x = 1; let y = 2; let z = x; x = y; y = z; print x; print y; return z;"), 1, 2, 1)
	wantDone(t, inMain("let x = 1; let X = 2; let xx = 3; x = 10; print x; print X; print xx;"), 0, 10, 2, 3)
	wantResult(t, "func f(a, b, c, d) { a = a + b; b = c; c = d; d = a; print a; print b; print c; print d; return a; } func main() { }", "f", []int{1, 20, 300, 4000}, 1000, impl.Result{Value: 21, Out: []int{21, 300, 4000, 21}})
	// A setting does not print, and a printing does not set.
	wantDone(t, inMain("let x = 1; print x + 1; print x; x; x + 9; return x;"), 1, 2, 1)
	wantDone(t, inMain(letsText("v", 8)+"vh = 9; return va + vb + vc + vd + ve + vf + vg + vh;"), 16)
}

func TestChoosing(t *testing.T) {
	for e, first := range map[string]bool{"0": false, "1": true, "-1": true, "2147483647": true, "-2147483647": true, "1 - 1": false, "1 < 2": true, "2 < 1": false, "3 == 3": true, "3 == 4": false, "2147483647 + 1": true, "65536 * 65536": false} {
		out, other, none := []int{1}, []int{1}, []int{1}
		if !first {
			out, other, none = nil, []int{2}, nil
		}
		wantDone(t, inMain("if "+e+" { print 1; }"), 0, out...)
		wantDone(t, inMain("if "+e+" { print 1; } else { print 2; }"), 0, other...)
		wantDone(t, inMain("if "+e+" { print 1; } else { }"), 0, none...)
		wantDone(t, inMain("if "+e+" { print 1; } print 3; return 4;"), 4, append(slices.Clip(out), 3)...)
		wantDone(t, inMain("if "+e+" { print 1; } else { print 2; } print 3; return 4;"), 4, append(slices.Clip(other), 3)...)
		wantDone(t, inMain("if "+e+" { } else { } print 3;"), 0, 3)
		wantDone(t, prints+inMain("if p("+e+") { print 1; } else { print 2; }"), 0, append([]int{valueOf(t, e)}, other...)...)
	}
	wantDone(t, inMain("if 1 { if 0 { print 1; } else { print 2; if 1 { print 3; } } print 4; } else { print 5; }"), 0, 2, 3, 4)
	wantDone(t, inMain("if 0 { if 1 { print 1; } } else { if 0 { print 2; } else { print 3; } }"), 0, 3)
}

// valueOf is an expr by itself.
func valueOf(t *testing.T, e string) int {
	t.Helper()
	got := impl.Eval(parsed(t, inMain("return "+e+";")), "main", nil, 20000)
	if got.Code != impl.EvDone {
		t.Errorf("%q is %v", e, got)
	}
	return got.Value
}

func TestGoingRound(t *testing.T) {
	wantDone(t, inMain("while 0 { print 1; }"), 0)
	wantDone(t, inMain("let x = 1; while x { print x; x = 0; } print 2;"), 0, 1, 2)
	wantDone(t, inMain("let x = -1; while x { print x; x = x + 1; } return x;"), 0, -1)
	wantDone(t, inMain("let x = 3; while x { print x; x = x - 1; }"), 0, 3, 2, 1)
	wantDone(t, inMain("let x = 0; while x < 100 { x = x + 1; } return x;"), 100)
	wantDone(t, inMain("let x = 0; while x == 0 { x = 5; } return x;"), 5)
	wantDone(t, inMain("let x = 0; let s = 0; while x < 4 { let y = 0; while y < x { s = s + 10; y = y + 1; } x = x + 1; s = s + 1; } return s;"), 64)
	wantDone(t, prints+inMain("let x = 2; while p(x) { x = x - 1; print 7; } print 8;"), 0, 2, 7, 1, 7, 0, 8)
	wantDone(t, inMain("let x = 2; while x { x = x - 1; } while x { print 1; } print x;"), 0, 0)
	wantDone(t, inMain("while 0 { while 1 { } } return 1;"), 1)
	// e is asked for ahead of each round, not within one.
	wantDone(t, inMain("let x = 1; while x { x = 0; print 1; x = 0; print 2; }"), 0, 1, 2)
	wantDone(t, inMain("let x = 2; while x { x = 0; print 1; x = 0; x = 0 - 0; }"), 0, 1)
}

func TestReturning(t *testing.T) {
	wantDone(t, inMain(""), 0)
	wantDone(t, inMain("return 0;"), 0)
	wantDone(t, inMain("return 7;"), 7)
	wantDone(t, inMain("return -2147483647 - 1;"), -2147483648)
	wantDone(t, inMain("print 1; return 2; print 3; return 4;"), 2, 1)
	wantDone(t, inMain("if 1 { print 1; return 2; print 3; } print 4; return 5;"), 2, 1)
	wantDone(t, inMain("if 0 { return 1; } else { return 2; } return 3;"), 2)
	wantDone(t, inMain("if 0 { return 1; } return 3;"), 3)
	wantDone(t, inMain("while 1 { print 1; return 2; print 3; } return 4;"), 2, 1)
	wantDone(t, inMain("let x = 0; while 1 { x = x + 1; if x == 5 { return x; } print x; } return 9;"), 5, 1, 2, 3, 4)
	wantDone(t, inMain("while 1 { while 1 { if 1 { while 1 { return 6; } } } }"), 6)
	wantDone(t, prints+inMain("return p(3) + p(4);"), 7, 3, 4)
	wantDone(t, inMain("let x = 5; x; 7; print x;"), 0, 5)
	// At the Body's end it is 0, whatever was reckoned last.
	for _, last := range []string{"5;", "let y = 5;", "x = 5;", "print 5;", "if 5 { 5; }", "if 0 { } else { 5; }", "while x { x = 0; }", "f();"} {
		list := parsed(t, "func f() { return 5; } func main() { let x = 3; "+last+" }")
		if got := impl.Eval(list, "main", nil, 100); got.Code != impl.EvDone || got.Value != 0 {
			t.Errorf("behind %q it is %v", last, got)
		}
		checkEval(t, list, "main")
	}
	wantDone(t, "func f() { 9; } func main() { return f() + 1; }", 1)
	wantDone(t, "func f() { let x = 9; } func g(a) { if a { return 4; } a = 8; } func main() { print f(); print g(1); print g(0); return f(); }", 0, 0, 4, 0)
	// What a call returned is what it was, whatever comes behind it.
	wantDone(t, "func f(a) { if a { return 5; } print 1; } func main() { return f(1) * 10 + f(0); }", 50, 1)
}

func TestDoing(t *testing.T) {
	wantDone(t, inMain("1; 2 + 3; (4 < 5) * 6; return 7;"), 7)
	wantDone(t, prints+inMain("p(1); p(2) + p(3); p(p(4));"), 0, 1, 2, 3, 4, 4)
	wantDone(t, inMain("let x = 1; x; x == 2; return x;"), 1)
}

func TestPrinting(t *testing.T) {
	wantDone(t, inMain("print 0; print -1; print 2147483647; print -2147483647; print 3 * 4; print 1 < 0;"), 0, 0, -1, 2147483647, -2147483647, 12, 0)
	wantDone(t, inMain("print 1; print 1; print 1;"), 0, 1, 1, 1)
	wantDone(t, prints+inMain("print p(1) + 1;"), 0, 1, 2)
	wantDone(t, "func f() { print 2; print 3; } func main() { print 1; f(); print 4; f(); return 5; }", 5, 1, 2, 3, 4, 2, 3)
}

// Only NdLet and NdSet set a Var: one whose NdLet was passed by is what it was, 0 at first.
func TestVarsWhoseLetWasPassedBy(t *testing.T) {
	wantDone(t, inMain("if 0 { let x = 5; } return x;"), 0)
	wantDone(t, inMain("if 1 { let x = 5; } return x;"), 5)
	wantDone(t, inMain("if 0 { let x = 5; } x = x + 2; return x;"), 2)
	wantDone(t, inMain("if 1 { } else { let x = 5; } return x + 1;"), 1)
	wantDone(t, inMain("if 0 { let x = 5; } else { print x; x = 6; } return x;"), 6, 0)
	wantDone(t, inMain("while 0 { let x = 5; } return x;"), 0)
	wantDone(t, inMain("let i = 0; while i < 3 { if i == 1 { let x = 7; } print x; i = i + 1; }"), 0, 0, 7, 7)
	wantDone(t, inMain("let i = 0; while i < 4 { if i == 0 { } else { let x = i * 10; } print x; i = i + 1; }"), 0, 0, 10, 20, 30)
	wantDone(t, inMain("let i = 0; while i < 3 { if i { let x = 1; x = 9; } else { } print x; x = x + i; print x; i = i + 1; }"), 0, 0, 0, 9, 10, 9, 11)
	// In a later round an NdLet sets anew, and what was set stays till then.
	wantDone(t, inMain("let i = 0; while i < 3 { let x = 4; print x; x = x + i; print x; i = i + 1; } return x;"), 6, 4, 4, 4, 5, 4, 6)
	wantDone(t, "func f(a) { if a { let x = 5; } return x; } func main() { print f(1); print f(0); print f(1); print f(0); }", 0, 5, 0, 5, 0)
	wantDone(t, "func f(a) { if a { let x = 5; x = 6; } return x + a; } func main() { if 0 { let x = 3; } print f(1); print x; x = 8; print f(0); return x; }", 8, 7, 0, 0)
	wantDone(t, inMain("if 0 { let a = 1; let b = 2; } let c = a + b; if c == 0 { let d = 4; } return a + b + c + d;"), 4)
	wantDone(t, inMain("return 3; let x = 5;"), 3)
}

func TestVarsThatAreReadAheadOfTheirLetAreRefused(t *testing.T) {
	wantRefused(t, parsed(t, inMain("let i = 0; while i < 2 { if i { print x; } i = i + 1; let x = 1; }")), "main")
}

// pairValues is what the five ops make of two words.
func pairValues(a, b int) map[string]int {
	return map[string]int{"+": wrap(a + b), "-": wrap(a - b), "*": wrap(a * b), "<": flag(a < b), "==": flag(a == b)}
}

func TestReckoningOfPairs(t *testing.T) {
	words := []int{-2147483648, -2147483647, -65537, -65536, -2, -1, 0, 1, 2, 46340, 46341, 65535, 65536, 1073741824, 2147483646, 2147483647}
	for sign := range pairValues(0, 0) {
		list := parsed(t, "func f(a, b) { return a "+sign+" b; } func main() { }")
		for _, a := range words {
			for _, b := range words {
				if got := impl.Eval(list, "f", []int{a, b}, 4); got.Code != impl.EvDone || got.Value != pairValues(a, b)[sign] || len(got.Out) != 0 {
					t.Errorf("%d %s %d is %v", a, sign, b, got)
				}
				if a > -2147483648 && b > -2147483648 {
					if got := valueOf(t, strconv.Itoa(a)+" "+sign+" "+strconv.Itoa(b)); got != pairValues(a, b)[sign] {
						t.Errorf("%d %s %d is %d", a, sign, b, got)
					}
				}
			}
		}
	}
	for text, want := range map[string]int{
		"2147483647 + 1": -2147483648, "-2147483647 - 1": -2147483648, "-2147483647 - 2": 2147483647, "65536 * 65536": 0, "65536 * 32768": -2147483648, "2147483647 * 2147483647": 1, "-2147483647 * 2147483647": -1,
		"2147483647 + 2147483647": -2, "1 - 2147483647 - 2147483647 - 2147483647": -2147483644, "0 - (-2147483647 - 1)": -2147483648, "(-2147483647 - 1) * -1": -2147483648, "2147483647 + 1 < 0": 1, "2147483647 + 1 == -2147483647 - 1": 1,
		"3 < 3": 0, "2 < 3": 1, "3 < 2": 0, "-1 < 0": 1, "0 < -1": 0, "-3 < -2": 1, "-2 < -3": 0, "-2 < -2": 0, "3 == 3": 1, "2 == 3": 0, "3 == 2": 0, "-3 == -3": 1, "-3 == 3": 0, "0 == 0": 1, "-2147483647 < 2147483647": 1,
		"10 - 3 - 2": 5, "10 - (3 - 2)": 9, "2 + 3 * 4": 14, "(2 + 3) * 4": 20, "2 * 3 - 4 * 5": -14, "1 + 2 < 2 + 2": 1, "(1 < 2) + (2 < 3) + (3 < 4)": 3, "7": 7, "-7": -7, "0": 0, "(((5)))": 5,
	} {
		wantDone(t, inMain("return "+text+";"), want)
		wantDone(t, inMain("let x = "+text+"; print x; return x;"), want, want)
	}
}

func TestReckoningOfDrawnWords(t *testing.T) {
	numbers := manyNumbers(300)
	lists := map[string][]impl.Func{}
	for sign := range pairValues(0, 0) {
		lists[sign] = parsed(t, "func f(a, b) { return a "+sign+" b; } func main() { }")
	}
	for i, n := range numbers {
		a, b := wrap(n), wrap(numbers[(i*7+1)%len(numbers)])
		for sign, want := range pairValues(a, b) {
			if got := impl.Eval(lists[sign], "f", []int{a, b}, 4); got.Code != impl.EvDone || got.Value != want {
				t.Errorf("%d %s %d is %v, not %d", a, sign, b, got, want)
			}
		}
	}
}

func TestWhichSideIsFirst(t *testing.T) {
	for sign, value := range pairValues(1, 2) {
		wantDone(t, prints+inMain("return p(1) "+sign+" p(2);"), value, 1, 2)
		wantDone(t, prints+inMain("p(1) "+sign+" p(2); print 3;"), 0, 1, 2, 3)
		wantDone(t, prints+inMain("let x = (p(1) "+sign+" p(2)) * 0 + (p(3) "+sign+" p(4)) * 0; return x;"), 0, 1, 2, 3, 4)
		wantDone(t, prints+inMain("return p(1) "+sign+" 2;"), value, 1)
		wantDone(t, prints+inMain("return 1 "+sign+" p(2);"), value, 2)
	}
	wantDone(t, prints+inMain("return p(1) - (p(2) - (p(3) - p(4)));"), -2, 1, 2, 3, 4)
	wantDone(t, prints+inMain("return p(1) * p(2) + p(3) * p(4) < p(5) * (p(6) + p(7));"), 1, 1, 2, 3, 4, 5, 6, 7)
	// Both are reckoned, whatever the left one is.
	wantDone(t, prints+inMain("return p(0) * p(5);"), 0, 0, 5)
	wantDone(t, prints+inMain("if p(1) == p(1) { print 9; }"), 0, 1, 1, 9)
	// What the left side turns is seen by the right one: nothing of the caller's is turned by a call.
	wantDone(t, "func f(x) { x = x + 1; return x; } func main() { let x = 5; return f(x) * 100 + x * 10 + f(x); }", 656)
}

func TestArgsFromTheLeft(t *testing.T) {
	take := prints + "func f(a, b, c, d) { print 0; print a; print b; print c; return d; } func g() { print 8; return 9; } "
	wantDone(t, take+inMain("return f(p(1), p(2), p(3), p(4));"), 4, 1, 2, 3, 4, 0, 1, 2, 3)
	wantDone(t, take+inMain("return f(p(1) + p(2), g(), 5, p(p(6)));"), 6, 1, 2, 8, 6, 6, 0, 3, 9, 5)
	wantDone(t, take+inMain("return f(f(1, 2, 3, p(4)), 5, f(p(6), 7, 8, 9), 10);"), 10, 4, 0, 1, 2, 3, 6, 0, 6, 7, 8, 0, 4, 5, 9)
	wantDone(t, take+inMain("print 1; print g(); g(); print 2;"), 0, 1, 8, 9, 8, 2)
}

func TestVarsOfACall(t *testing.T) {
	// The caller's stay as they were, names that are the same too.
	wantDone(t, "func f(a) { let x = a * 2; a = 7; x = x + 1; print x; return a; } func main() { let a = 1; let x = 100; print f(a); print a; print x; print f(x); return a + x; }", 101, 3, 7, 1, 100, 201, 7)
	// Each call begins with its own: the Vars of an earlier one are no more.
	wantDone(t, "func f(a) { if a { let x = a; } x = x + 1; return x; } func main() { print f(5); print f(0); print f(0); }", 0, 6, 1, 1)
	wantDone(t, "func f(a, b) { return a * 10 + b; } func main() { let a = 1; let b = 2; return f(b, a) * 100 + f(a, b); }", 2112)
	wantDone(t, "func f(a) { a = a + 1; return a; } func g(a) { let b = f(a); print a; print b; a = f(b); return a; } func main() { let a = 10; let b = g(a); print a; return b; }", 12, 10, 11, 10)
	wantDone(t, "func f(x, y) { let t = x; x = y; y = t; print x; print y; } func main() { let x = 1; let y = 2; f(x, y); f(y, x); print x; print y; }", 0, 2, 1, 1, 2, 1, 2)
	// Vars and functions may have one name.
	wantDone(t, "func x(x) { return x + 1; } func main() { let x = x(1); let main = x(x); return x * 10 + main; }", 23)
}

func TestCallsWithinCalls(t *testing.T) {
	wantDone(t, "func f(n) { print n; return n + 1; } func main() { return f(f(f(1))); }", 4, 1, 2, 3)
	wantDone(t, "func f(n) { return n * 2; } func g(n) { return f(n) + f(n + 1); } func h(n) { let s = 0; while n { s = s + g(n); n = n - 1; } return s; } func main() { print h(3); return h(h(1)); }", 96, 30)
	fact := "func fact(n) { let p = 1; while 0 < n { p = p * n; n = n - 1; } return p; } func main() { print fact(5); let c = make(1); return 0; }"
	for n, want := range []int{1, 1, 2, 6, 24, 120, 720, 5040, 40320, 362880, 3628800, 39916800, 479001600, 1932053504} {
		wantResult(t, fact, "fact", []int{n}, 1000, impl.Result{Value: want})
		checkEval(t, parsed(t, fact), "fact", n)
	}
	wantStop(t, fact, 120)
	// A return ends the one function alone.
	wantDone(t, "func f() { while 1 { if 1 { return 1; } } return 2; } func g() { let i = 0; while i < 3 { i = i + f(); print i; } return i * 10; } func main() { let x = g() + f(); print x; return x + 1; }", 32, 1, 2, 3, 31)
}

// stopTexts are statements that stop it, c being a channel and x a word. Nothing within them is reckoned: all of it would print.
func stopTexts() map[int][]string {
	return map[int][]string{
		impl.NdGo:     {"go p(p(1));", "go main();", "go behind(1, c);"},
		impl.NdSend:   {"send c, 1;", "send c, p(1);", "send make(p(1)), p(2);"},
		impl.NdRecv:   {"recv x, c;", "recv x, make(p(1));"},
		impl.NdClose:  {"close c;", "close make(p(1));"},
		impl.NdSelect: {"select { case recv x, c { } }", "select { case recv x, make(p(1)) { print 2; } default { print 3; } }", "select { case send c, p(1) { print 2; } case recv x, c { print 4; } default { print 3; } }"},
		impl.NdMake:   {"let m = make(1);", "let m = make(p(1));", "c = make(1);", "c = make(p(1) + p(2));", "x = k(make(1));", "print k(make(p(1)));", "k(make(k(make(1))));", "if k(make(1)) { print 5; }", "while k(make(1)) { print 5; }", "return k(make(1));", "return 1 + k(make(1));"},
	}
}

const (
	stopAhead = prints + "func k(c chan) { print 7; return 1; } "
	// c is a channel by its NdLet, which is passed by, so that it is 0.
	stopVars = "let x = 5; if 0 { let c = make(1); } "
)

func stopProgram(form, text string) string {
	return stopAhead + "func behind(x, c chan) { print 6; } " + inMain(stopVars+strings.ReplaceAll(form, "?", text))
}

func TestWhatStops(t *testing.T) {
	for op, texts := range stopTexts() {
		if len(texts) == 0 {
			t.Fatalf("op %d has no text", op)
		}
		for _, text := range texts {
			for form, out := range map[string][]int{
				"?": nil, "? print 9; return 8;": nil, "print 1; ? print 9;": {1}, "print 1; print 2; x = 3; print x; ?": {1, 2, 3}, "if x { ? } print 9;": nil, "if 0 { print 9; } else { print 1; ? } print 9;": {1}, "while 1 { print 4; ? print 9; }": {4},
				"while x { print x; x = x - 1; if x == 2 { ? } }": {5, 4, 3}, "if 1 { while 1 { if 1 { p(3); ? } } } return 1;": {3}, "print p(1) + p(2); ? return 5;": {1, 2, 3},
			} {
				wantStop(t, stopProgram(form, text), out...)
			}
		}
	}
}

// It stops in a call as it would outside, wherever the call stands.
func TestWhatStopsWithinCalls(t *testing.T) {
	for _, texts := range stopTexts() {
		for _, text := range texts {
			within := stopAhead + "func behind(x, c chan) { print 6; } func f(a) { print a; " + stopVars + "if a { " + text + " } print 0 - a; return 3; } func g(a) { let y = f(a); print 9; return y; } func main() { print 1; ? print 8; return 4; }"
			for form, out := range map[string][]int{
				"f(2);": {1, 2}, "g(2);": {1, 2}, "let z = f(2);": {1, 2}, "print f(2);": {1, 2}, "return f(2);": {1, 2}, "if f(2) { print 7; } else { print 7; }": {1, 2}, "while f(2) { print 7; }": {1, 2}, "print p(3) + f(2) + p(4);": {1, 3, 2}, "print f(2) * p(4);": {1, 2},
				"p(f(2));": {1, 2}, "f(f(2));": {1, 2}, "p(p(3)); print p(5) == g(2); print 7;": {1, 3, 3, 5, 2}, "let z = 2; while z { print z; z = z - 1; f(z); }": {1, 2, 1}, "if 1 { while 1 { g(g(2)); } }": {1, 2},
			} {
				wantStop(t, strings.Replace(within, "?", form, 1), out...)
			}
			wantDone(t, strings.Replace(within, "?", "f(0);", 1), 4, 1, 0, 0, 8)
		}
	}
}

func TestArgsAheadOfWhatStops(t *testing.T) {
	ahead := stopAhead + "func f(a, c chan, b) { print 5; return a + b; } func g(c chan, d chan) { print 6; } "
	wantStop(t, ahead+inMain("print 1; f(p(2), make(p(3)), p(4)); print 9;"), 1, 2)
	wantStop(t, ahead+inMain("if 0 { let c = make(1); } print f(p(1), c, p(2)); f(p(3), c, k(make(1)) + p(4));"), 1, 2, 5, 3, 3)
	wantStop(t, ahead+inMain("if 0 { let c = make(1); } g(c, c); g(c, make(1)); print 9;"), 6)
	wantStop(t, ahead+inMain("print p(1) + k(make(p(2))) + p(3);"), 1)
	wantStop(t, ahead+inMain("print k(make(p(2))) + p(3);"))
}

func TestWhatStopsIsNeverComeTo(t *testing.T) {
	for _, texts := range stopTexts() {
		for _, text := range texts {
			for form, value := range map[string]int{"if 0 { ? }": 0, "if 1 { print 1; } else { ? } return 2;": 2, "while 0 { ? } return 3;": 3, "return 4; ?": 4, "if x { return 6; } ? return 7;": 6, "while x { x = x - 1; if x < 0 { ? } } return 8;": 8, "while 1 { return 9; ? }": 9} {
				src := stopProgram(form, text)
				want := impl.Result{Value: value}
				if strings.Contains(form, "print 1") {
					want.Out = []int{1}
				}
				wantEnd(t, src, want)
			}
			wantDone(t, stopAhead+"func behind(x, c chan) { print 6; } func f() { "+stopVars+text+" } func main() { return 1; }", 1)
		}
	}
}

// A Var that is a channel and was never made is 0, and goes through settings and calls like a word.
func TestChannelsThatAreNone(t *testing.T) {
	wantDone(t, "func f(c chan, n) { print n; let d = c; return n + 1; } func g(c chan) { return f(c, 4); } func main() { if 0 { let c = make(1); } let d = c; c = d; d = c; print f(d, 1); return g(c); }", 5, 1, 2, 4)
	wantStop(t, "func f(c chan, n) { print n; if n { send c, n; } return n + 1; } func main() { if 0 { let c = make(1); } print f(c, 0); print f(c, 1); }", 0, 1, 1)
}

// nodesBegun has, of each kind of node, how many are begun, reckoned by hand.
var nodesBegun = []struct {
	nodes int
	body  string
}{
	{0, ""}, {2, "1;"}, {2, "return 1;"}, {2, "print 1;"}, {2, "let x = 1;"}, {4, "let x = 1; x = 2;"}, {4, "let x = 1; x;"}, {4, "let x = 1; return x;"}, {2, "-1;"}, {2, "((1));"},
	{4, "1 + 2;"}, {4, "1 - 2;"}, {4, "1 * 2;"}, {4, "1 < 2;"}, {4, "1 == 2;"}, {6, "return 1 + 2 * 3;"}, {8, "print (1 + 2) * (3 - 4);"}, {8, "1 < 2; 3 == 4;"},
	{2, "if 0 { }"}, {2, "if 1 { }"}, {2, "if 0 { print 1; }"}, {4, "if 1 { print 1; }"}, {4, "if 0 { } else { 1; }"}, {2, "if 1 { } else { 1; }"}, {6, "if 1 { if 1 { 1; } }"}, {8, "if 1 < 2 { 1; } return 3;"}, {6, "if 0 { 1; 2; 3; } else { 4; 5; }"},
	{2, "while 0 { }"}, {2, "while 0 { print 1; 2; }"}, {4, "while 1 { return 1; }"}, {9, "let x = 1; while x { x = x - 1; }"}, {14, "let x = 2; while x { x = x - 1; }"}, {4, "if 1 { while 0 { 1; } }"},
	{2, "return 1; print 2; while 1 { }"}, {4, "if 1 { return 1; } print 2;"}, {2, "n();"}, {4, "n() + n();"}, {4, "r();"}, {7, "o(1);"}, {3, "t(1);"}, {4, "t(t(1));"}, {6, "s(1, 2, 3, 4);"}, {6, "print 1; return r();"}, {9, "r() + t(2) + 1;"},
}

func TestHowMuchFuelIsNeeded(t *testing.T) {
	ahead := "func n() { } func r() { return 1; } func o(a) { print a + 1; } func t(a) { } func s(a, b, c, d) { } "
	for _, k := range nodesBegun {
		src := ahead + inMain(k.body)
		list := parsed(t, src)
		w := checkEval(t, list, "main")
		if len(w.begun) != k.nodes {
			t.Errorf("%q begins %d nodes, not %d", k.body, len(w.begun), k.nodes)
		}
		for fuel := -3; fuel < k.nodes+3; fuel++ {
			got, enough := impl.Eval(list, "main", nil, fuel), fuel >= k.nodes
			if (got.Code == impl.EvDone) != enough || (got.Code == impl.EvFuel) == enough || !enough && got.Value != 0 {
				t.Errorf("%q with fuel %d is %v", k.body, fuel, got)
			}
		}
	}
}

// What was printed till then is told, and no more: with each fuel as much as its nodes made.
func TestWhatIsPrintedTillTheFuelIsOver(t *testing.T) {
	src := "func f(a) { print a; return a + 1; } func main() { print 1; let x = f(2); while x { print x; x = x - 1; } return 9; }"
	// The least fuel with which each word is printed: that of the e of its print.
	from, out, nodes := []int{2, 7, 15, 22, 29}, []int{1, 2, 3, 2, 1}, 36
	for fuel := range nodes + 3 {
		want := impl.Result{Value: 9, Out: out}
		if fuel < nodes {
			count, found := slices.BinarySearch(from, fuel)
			want = impl.Result{Code: impl.EvFuel, Out: out[:count+flag(found)]}
		}
		wantResult(t, src, "main", nil, fuel, want)
	}
	checkEval(t, parsed(t, src), "main")
}

func TestFuelBelowNought(t *testing.T) {
	for _, src := range []string{inMain(""), inMain("return 1;"), inMain("print 1; return 1;"), inMain("while 1 { }"), inMain("go main();"), inMain("let c = make(1);")} {
		for _, fuel := range []int{-1, -2, -20000, -20001, -2147483648, -2147483649, math.MinInt + 1, math.MinInt} {
			wantResult(t, src, "main", nil, fuel, impl.Result{Code: impl.EvFuel})
		}
	}
	wantResult(t, inMain(""), "main", nil, 0, impl.Result{})
	wantResult(t, inMain("1;"), "main", nil, 0, impl.Result{Code: impl.EvFuel})
	wantResult(t, "func f(a) { } func main() { 1; }", "f", []int{1}, 0, impl.Result{})
}

// Fuel that is over at the very node at which it would stop: one that there is no fuel for is not come to.
func TestFuelBesideWhatStops(t *testing.T) {
	for nodes, texts := range map[int][]string{
		1: {"go main();", "select { case send make(1), 1 { } }", "send make(1), 2;", "close make(1);", "go q(1);"},
		2: {"let c = make(1);", "let c = make(1 + 2);"},
		3: {"if 1 { go main(); }", "while 1 { go main(); }", "k(make(1));", "1; go main();", "print 8; close make(1);", "let x = 1; recv x, make(1);"},
		4: {"1; let c = make(1);", "print k(make(1)) + 1;", "if 1 { let c = make(1); }", "while 1 { let c = make(1); }"},
		6: {"q(g());", "1; 2; let c = make(1);"},
	} {
		for _, text := range texts {
			list := parsed(t, "func k(c chan) { print 9; } func q(a) { print 9; } func g() { print 8; go main(); } "+inMain(text))
			out := []int(nil)
			if strings.HasPrefix(text, "print 8") || strings.Contains(text, "g()") {
				out = []int{8}
			}
			for fuel := range nodes + 4 {
				got := impl.Eval(list, "main", nil, fuel)
				switch {
				case fuel < nodes && (got.Code != impl.EvFuel || got.Value != 0), fuel >= nodes && !sameResult(got, impl.Result{Code: impl.EvStop, Out: out}):
					t.Errorf("%q with fuel %d is %v", text, fuel, got)
				}
			}
			checkEval(t, list, "main")
		}
	}
	for _, texts := range stopTexts() {
		for _, text := range texts {
			list := parsed(t, stopProgram("print 1; if x { ? }", text))
			nodes := len(checkEval(t, list, "main").begun)
			for fuel, code := range map[int]int{nodes - 1: impl.EvFuel, nodes: impl.EvStop, nodes + 1: impl.EvStop, 20000: impl.EvStop} {
				if got := impl.Eval(list, "main", nil, fuel); !sameResult(got, impl.Result{Code: code, Out: []int{1}}) {
					t.Errorf("%q with fuel %d of %d is %v", text, fuel, nodes, got)
				}
			}
		}
	}
}

func TestWhilesThatNeverEnd(t *testing.T) {
	wantOver(t, inMain("while 1 { }"))
	wantOver(t, inMain("print 1; while 1 { }"), 1)
	wantOver(t, inMain("let x = 1; while x { x = x + 1; }"))
	wantOver(t, inMain("while 1 { while 1 { while 0 { } } }"))
	wantOver(t, "func f() { print 3; while 1 { } } func main() { print 2; f(); print 4; }", 2, 3)
	wantOver(t, "func f() { print 3; while 1 { } } func main() { while f() { go main(); } }", 3)
	wantOver(t, inMain("while 1 < 2 { if 0 { return 1; } else { } }"))
	// while, then e and a print with its own: three nodes a round.
	wantOver(t, inMain("while 1 { print 5; }"), slices.Repeat([]int{5}, 6666)...)
	for fuel := range 50 {
		wantResult(t, inMain("while 1 { print 5; }"), "main", nil, fuel, impl.Result{Code: impl.EvFuel, Out: slices.Repeat([]int{5}, max(0, fuel-1)/3)})
	}
}

// printsOf is a program whose main begins so many nodes: a print is two, the call of one arg three.
func printsOf(nodes int) []impl.Func {
	f := fn("main", nil)
	if nodes%2 == 1 {
		f.Body.Kids = append(f.Body.Kids, node(impl.NdDo, named(impl.NdCall, "none", lit(1))))
		nodes -= 3
	}
	for i := range nodes / 2 {
		f.Body.Kids = append(f.Body.Kids, node(impl.NdPrint, lit(i)))
	}
	return []impl.Func{fn("none", []impl.Param{param("a")}), f}
}

func TestTheMostFuel(t *testing.T) {
	for nodes := 19995; nodes < 20006; nodes++ {
		list := printsOf(nodes)
		w := checkEval(t, list, "main")
		if len(w.begun) != min(nodes, 20001) {
			t.Fatalf("there are %d nodes, not %d", len(w.begun), nodes)
		}
		for _, fuel := range []int{nodes - 1, nodes, nodes + 1, 19999, 20000, 20001, 30000, math.MaxInt} {
			got := impl.Eval(list, "main", nil, fuel)
			if want := nodes <= min(fuel, 20000); (got.Code == impl.EvDone) != want || (got.Code == impl.EvFuel) == want {
				t.Errorf("%d nodes with fuel %d: %d", nodes, fuel, got.Code)
			}
		}
	}
}

// runDrawer draws programs that are checked and run: most of them end, some go round for ever, some stop.
type runDrawer struct {
	*drawer
	heads []impl.Func
	at    int
	vars  []string
	stops bool
}

func (d *runDrawer) program() []impl.Func {
	d.heads = nil
	for i := range d.IntN(4) {
		f := impl.Func{Name: []string{"f", "g", "h"}[i]}
		for j := range d.IntN(4) {
			f.Params = append(f.Params, param(string(rune('a'+j))))
		}
		d.heads = append(d.heads, f)
	}
	d.heads = append(d.heads, impl.Func{Name: "main"})
	out := slices.Clone(d.heads)
	for i, f := range out {
		d.at, d.vars = i, nil
		for _, p := range f.Params {
			d.vars = append(d.vars, p.Name)
		}
		out[i].Body = d.block(1 + d.IntN(3))
	}
	return out
}

func (d *runDrawer) block(deep int) impl.Node {
	out := blk()
	for range 1 + d.IntN(5) {
		out.Kids = append(out.Kids, d.statement(deep-1))
	}
	return out
}

func (d *runDrawer) value(deep int) impl.Node {
	kind := d.IntN(8)
	if deep <= 0 {
		kind = d.IntN(3)
	}
	switch {
	case kind == 0:
		return lit([]int{0, 1, 2, 3, -1, -5, 7, 65536, 2147483647, -2147483647}[d.IntN(10)])
	case kind < 3 && len(d.vars) > 0:
		return vr(d.pick(d.vars...))
	case kind < 3:
		return lit(d.IntN(5))
	case kind < 5 && d.at > 0:
		f := d.heads[d.IntN(d.at)]
		e := named(impl.NdCall, f.Name)
		for range f.Params {
			e.Kids = append(e.Kids, d.value(deep-1))
		}
		return e
	}
	return node(impl.NdAdd+d.IntN(5), d.value(deep-1), d.value(deep-1))
}

func (d *runDrawer) statement(deep int) impl.Node {
	switch kind := d.IntN(14); {
	case kind < 3 && len(d.vars) < 7:
		e := d.value(2)
		d.vars = append(d.vars, string(rune('a'+len(d.vars))))
		return named(impl.NdLet, d.vars[len(d.vars)-1], e)
	case kind < 6 && len(d.vars) > 0:
		return named(impl.NdSet, d.pick(d.vars...), d.value(3))
	case kind == 6 && deep > 0:
		return node(impl.NdIf, d.value(2), d.block(deep))
	case kind == 7 && deep > 0:
		return node(impl.NdIf, d.value(2), d.block(deep), d.block(deep))
	case kind < 10 && deep > 0:
		return d.loop(deep)
	case kind == 10 && d.IntN(3) == 0:
		return node(impl.NdReturn, d.value(2))
	case kind == 11 && d.stops && d.IntN(3) == 0:
		made := node(impl.NdMake, lit(1))
		return []impl.Node{named(impl.NdGo, "main"), node(impl.NdSend, made, d.value(2)), node(impl.NdClose, made), node(impl.NdSelect, node(impl.NdGive, made, d.value(1), blk()))}[d.IntN(4)]
	case kind == 12:
		return node(impl.NdDo, d.value(3))
	}
	return node(impl.NdPrint, d.value(3))
}

// loop counts a Var up to a small number, as a rule.
func (d *runDrawer) loop(deep int) impl.Node {
	if len(d.vars) == 0 || d.IntN(12) == 0 {
		return node(impl.NdWhile, d.value(1), d.block(deep))
	}
	v := d.pick(d.vars...)
	n := node(impl.NdWhile, node(impl.NdLess, vr(v), lit(1+d.IntN(5))), d.block(deep))
	n.Kids[1].Kids = append(n.Kids[1].Kids, named(impl.NdSet, v, node(impl.NdAdd, vr(v), lit(1))))
	return n
}

func (d *runDrawer) args(f impl.Func) []int {
	out := make([]int, len(f.Params))
	for i := range out {
		out[i] = []int{0, 1, 2, 3, 10, -1, -7, 2147483647, -2147483648}[d.IntN(9)]
	}
	return out
}

func TestDrawnProgramsRun(t *testing.T) {
	met := make([]int, 3)
	printed := 0
	for seed := range uint64(2) {
		d := &runDrawer{drawer: newDrawer(91 + seed), stops: seed == 1}
		for range 400 {
			list := d.program()
			if code := impl.Check(list, false); code != impl.CkDone {
				t.Fatalf("%.300q is %d", impl.Write(list), code)
			}
			for _, f := range list {
				args := d.args(f)
				got := checkEval(t, list, f.Name, args...).with(20000)
				met[got.Code]++
				printed += min(len(got.Out), 1)
				// What is written and parsed runs as it did.
				if text := impl.Write(list); len(text) <= 6000 {
					if again := impl.Eval(parsed(t, text), f.Name, args, 20000); !sameResult(got, again) {
						t.Errorf("%.300q runs otherwise when it is written: %s, not %s", text, clip(again), clip(got))
					}
				}
			}
		}
	}
	if slices.Min(met) < 100 || printed < 500 {
		t.Errorf("the codes are met %v times, %d print", met, printed)
	}
}

// Programs with channels: of most of them no more than the beginning is run.
func TestDrawnProgramsWithChannelsRun(t *testing.T) {
	d := &rightDrawer{drawer: newDrawer(93)}
	met := make([]int, 3)
	refused := 0
	for range 1500 {
		list := d.program()
		for _, f := range list {
			w := checkEval(t, list, f.Name, make([]int, len(f.Params))...)
			met[w.with(20000).Code]++
			refused += flag(w.refused)
		}
	}
	if slices.Min(met) < 20 || refused < 100 {
		t.Errorf("the codes are met %v times, %d are refused", met, refused)
	}
}

// Programs with faults run just where they are checked.
func TestDrawnProgramsWithFaultsRun(t *testing.T) {
	d := &rightDrawer{drawer: newDrawer(94)}
	run, refused := 0, 0
	for range 2000 {
		list := d.program()
		for range 1 + d.IntN(2) {
			list = d.turn(list)
		}
		f := list[d.IntN(len(list))]
		if checkEval(t, list, f.Name, ramp(max(0, len(f.Params)-d.IntN(30)/29))...).refused {
			refused++
		} else {
			run++
		}
	}
	if run < 100 || refused < 500 {
		t.Errorf("%d run, %d are refused", run, refused)
	}
}

// What is done with less fuel is done with more; and what is printed with less is the beginning of what is printed with more.
func TestWhatIsDoneWithLessFuelIsDoneWithMore(t *testing.T) {
	d := &runDrawer{drawer: newDrawer(95), stops: true}
	done, later := 0, 0
	for range 1500 {
		list := d.program()
		f := list[d.IntN(len(list))]
		args := d.args(f)
		fuels := []int{-1 - d.IntN(3), 20000 + d.IntN(3)}
		for range 6 {
			fuels = append(fuels, d.IntN(12), d.IntN(200), d.IntN(20001))
		}
		slices.Sort(fuels)
		less := impl.Eval(list, f.Name, args, fuels[0])
		for _, fuel := range fuels[1:] {
			more := impl.Eval(list, f.Name, args, fuel)
			switch {
			case less.Code != impl.EvFuel && !sameResult(less, more):
				t.Errorf("%.300q was %s, and with fuel %d is %s", impl.Write(list), clip(less), fuel, clip(more))
			case less.Code == impl.EvFuel && (less.Value != 0 || len(less.Out) > len(more.Out) || !slices.Equal(less.Out, more.Out[:len(less.Out)])):
				t.Errorf("%.300q has %s, and with fuel %d %s", impl.Write(list), clip(less), fuel, clip(more))
			}
			done += flag(less.Code != impl.EvFuel)
			later += flag(less.Code == impl.EvFuel && more.Code != impl.EvFuel)
			less = more
		}
	}
	if done < 1000 || later < 500 {
		t.Errorf("%d are done with less, %d with more alone", done, later)
	}
}

func TestEvalOfLargeTrees(t *testing.T) {
	const count = 100000
	repeat := func(n impl.Node) []impl.Node { return slices.Repeat([]impl.Node{n}, count) }
	sum := lit(1)
	for range 13 {
		sum = node(impl.NdAdd, sum, sum)
	}
	larger := node(impl.NdAdd, sum, node(impl.NdAdd, sum, sum))
	for what, k := range map[string]struct {
		f    impl.Func
		want impl.Result
	}{
		"prints":         {fn("main", nil, repeat(node(impl.NdPrint, lit(4)))...), impl.Result{Code: impl.EvFuel, Out: slices.Repeat([]int{4}, 10000)}},
		"returns":        {fn("main", nil, repeat(node(impl.NdReturn, lit(4)))...), impl.Result{Value: 4}},
		"passed by":      {fn("main", nil, node(impl.NdIf, lit(0), blk(repeat(node(impl.NdPrint, lit(4)))...)), node(impl.NdReturn, lit(3))), impl.Result{Value: 3}},
		"whiles":         {fn("main", nil, repeat(node(impl.NdWhile, lit(0), blk()))...), impl.Result{Code: impl.EvFuel}},
		"stops":          {fn("main", nil, append(repeat(named(impl.NdGo, "main")), node(impl.NdPrint, lit(1)))...), impl.Result{Code: impl.EvStop}},
		"a large sum":    {fn("main", nil, node(impl.NdPrint, lit(1)), node(impl.NdReturn, sum)), impl.Result{Value: 8192, Out: []int{1}}},
		"a larger sum":   {fn("main", nil, node(impl.NdPrint, lit(1)), node(impl.NdReturn, larger)), impl.Result{Code: impl.EvFuel, Out: []int{1}}},
		"too many args":  {fn("main", nil, node(impl.NdDo, named(impl.NdCall, "f", repeat(lit(1))...))), impl.Result{Code: impl.EvStop}},
		"too many vars":  {fn("main", nil, repeat(named(impl.NdLet, "x", lit(1)))...), impl.Result{Code: impl.EvStop}},
		"too many cases": {fn("main", nil, node(impl.NdReturn, lit(1)), node(impl.NdSelect, repeat(node(impl.NdGive, node(impl.NdMake, lit(1)), lit(1), blk()))...)), impl.Result{Code: impl.EvStop}},
	} {
		for _, fuel := range []int{20000, math.MaxInt} {
			if got := impl.Eval([]impl.Func{k.f}, "main", nil, fuel); !sameResult(got, k.want) {
				t.Errorf("%s: %s, not %s", what, clip(got), clip(k.want))
			}
		}
	}
}

func TestEvalOfDeepTrees(t *testing.T) {
	for _, deep := range []int{2, 16, 17, 18, 19, 20, 21, 1000, 300000} {
		nest, sum := node(impl.NdReturn, lit(6)), lit(6)
		for range deep {
			sum = node(impl.NdAdd, lit(1), sum)
		}
		for range deep / 2 {
			nest = node(impl.NdWhile, lit(1), blk(nest))
		}
		for what, k := range map[string]struct {
			line  impl.Node
			value int
		}{"sum": {node(impl.NdReturn, sum), 6 + deep}, "while": {nest, 6}} {
			got := impl.Eval([]impl.Func{fn("main", nil, k.line)}, "main", nil, 20000)
			want := impl.Result{Value: k.value}
			if deep > 17 {
				want = impl.Result{Code: impl.EvStop}
			}
			if !sameResult(got, want) {
				t.Errorf("%s %d deep is %v, not %v", what, deep, got, want)
			}
		}
	}
	within := []impl.Node{{Op: impl.NdReturn}}
	within[0].Kids = within
	twice := lit(1)
	for range 200 {
		twice = node(impl.NdMul, twice, twice)
	}
	for _, n := range []impl.Node{within[0], node(impl.NdReturn, twice)} {
		wantRefusedAtOnce(t, []impl.Func{fn("main", nil, n)}, "main")
	}
}

// wantRefusedAtOnce is of what is too much for the model.
func wantRefusedAtOnce(t *testing.T, list []impl.Func, name string, args ...int) {
	t.Helper()
	if got := impl.Eval(list, name, args, 20000); !sameResult(got, impl.Result{Code: impl.EvStop}) {
		t.Errorf("%q is %v", name, got)
	}
}

// chainOf is 40 functions, each of which calls the one ahead of it so many times.
func chainOf(times int) []impl.Func {
	var list []impl.Func
	for i := range 40 {
		f := fn(letterName(i), nil, node(impl.NdReturn, lit(1)))
		if i > 0 {
			e := named(impl.NdCall, letterName(i-1))
			for range times - 1 {
				e = node(impl.NdAdd, e, named(impl.NdCall, letterName(i-1)))
			}
			f.Body = blk(node(impl.NdReturn, node(impl.NdAdd, lit(1), e)))
		}
		list = append(list, f)
	}
	list[39].Name = "main"
	return list
}

func TestEvalOfManyCalls(t *testing.T) {
	list := chainOf(1)
	if w := checkEval(t, list, "main"); len(w.begun) != 158 || w.value != 40 {
		t.Errorf("40 functions begin %d nodes and are %d", len(w.begun), w.value)
	}
	if got := impl.Eval(list, "main", nil, 158); got.Code != impl.EvDone || got.Value != 40 {
		t.Errorf("40 functions are %v", got)
	}
	list = chainOf(2)
	if got := impl.Eval(list, "main", nil, math.MaxInt); !sameResult(got, impl.Result{Code: impl.EvFuel}) {
		t.Errorf("functions that call twice are %s", clip(got))
	}
	if got := impl.Eval(list, letterName(9), nil, 20000); got.Code != impl.EvDone || got.Value != 1023 {
		t.Errorf("ten functions that call twice are %s", clip(got))
	}
	// As deep in exprs as may be, in calls of the one ahead.
	deep := []impl.Func{fn(letterName(0), []impl.Param{param("a")}, node(impl.NdReturn, node(impl.NdAdd, vr("a"), lit(1))))}
	for i := 1; i < 39; i++ {
		e := named(impl.NdCall, letterName(i-1), vr("a"))
		for range 16 {
			e = node(impl.NdSub, lit(0), e)
		}
		deep = append(deep, fn(letterName(i), []impl.Param{param("a")}, node(impl.NdReturn, e)))
	}
	deep = append(deep, fn("main", nil, node(impl.NdReturn, named(impl.NdCall, letterName(38), lit(5)))))
	if got := impl.Eval(deep, "main", nil, 20000); got.Code != impl.EvDone || got.Value != 6 {
		t.Errorf("functions with deep exprs are %v", got)
	}
}

// runForMemory is all that Eval is given.
type runForMemory struct {
	list []impl.Func
	name string
	args []int
	fuel int
}

// runsForMemory are some of each code, those that are refused too.
func runsForMemory() []runForMemory {
	var out []runForMemory
	for _, list := range listsForCheck() {
		for _, name := range []string{"main", "f"} {
			for count := range 3 {
				out = append(out, runForMemory{list, name, ramp(count), 100})
			}
		}
	}
	d := &runDrawer{drawer: newDrawer(96), stops: true}
	for range 150 {
		list := d.program()
		for _, f := range list {
			out = append(out, runForMemory{list, f.Name, d.args(f), []int{-1, 0, d.IntN(60), d.IntN(300), 20000, math.MaxInt}[d.IntN(6)]})
		}
	}
	return out
}

func (r runForMemory) result() impl.Result { return impl.Eval(r.list, r.name, r.args, r.fuel) }

func cloneResult(r impl.Result) impl.Result {
	r.Out = slices.Clone(r.Out)
	return r
}

func TestEvalWithListsThatAreEmptyAndNil(t *testing.T) {
	src := "func f() { return 3; } func g(a) { if a { } else { } while 0 { } print a; } func main() { let x = f(); g(f()); return x; }"
	list := parsed(t, src)
	want := impl.Result{Value: 3, Out: []int{3}}
	for _, empty := range [][]impl.Node{nil, {}, make([]impl.Node, 0, 4), make([]impl.Node, 4)[4:]} {
		for _, none := range [][]impl.Param{nil, {}, make([]impl.Param, 0, 2)} {
			for _, args := range [][]int{nil, {}, make([]int, 0, 3), make([]int, 3)[3:]} {
				other := slices.Clone(list)
				for i, f := range other {
					other[i].Body = withEmpty(f.Body, empty)
					if len(f.Params) == 0 {
						other[i].Params = none
					}
				}
				if got := impl.Eval(other, "main", args, 100); !sameResult(got, want) {
					t.Errorf("with lists that are empty it is %v", got)
				}
				wantRefused(t, other, "g", args...)
			}
		}
	}
	for _, list := range [][]impl.Func{nil, {}, make([]impl.Func, 0, 3), make([]impl.Func, 1), make([]impl.Func, 41)} {
		for _, name := range []string{"", "main"} {
			wantRefused(t, list, name)
			wantRefused(t, list, name, 1)
		}
	}
}

func TestEvalWritesNowhere(t *testing.T) {
	for _, r := range runsForMemory() {
		want := r.result()
		roomy := r
		roomy.list = withRoomBehind(r.list)
		args, whole := withRoom(r.args)
		roomy.args = args
		kept, keptArgs := cloneFuncs(roomy.list), slices.Clone(whole)
		if got := roomy.result(); !sameResult(got, want) {
			t.Errorf("%q of %s runs otherwise with room behind its lists", r.name, clip(r.list))
		}
		if !slices.EqualFunc(roomy.list, kept, sameFunc) || !roomBehindIsKept(roomy.list) || !slices.Equal(whole, keptArgs) {
			t.Errorf("%q of %s with %v is written into", r.name, clip(r.list), r.args)
		}
	}
}

func TestEvalAnswersTheSameAgain(t *testing.T) {
	runs := runsForMemory()
	for i, r := range runs {
		want := cloneResult(r.result())
		other := runs[(i+1)%len(runs)]
		for range 3 {
			other.result()
			if got := r.result(); !sameResult(got, want) {
				t.Errorf("%q of %s is %s, and was %s", r.name, clip(r.list), clip(got), clip(want))
			}
		}
	}
}

// What one answer holds is its own: its Out shares nothing with another one, nor with the args.
func TestEachOutIsItsOwn(t *testing.T) {
	for _, r := range runsForMemory() {
		r.args = slices.Clone(r.args)
		one, other := r.result(), r.result()
		kept := cloneResult(other)
		args := slices.Clone(r.args)
		spoil(one.Out)
		if !sameResult(other, kept) || !slices.Equal(r.args, args) || !sameResult(r.result(), kept) {
			t.Fatalf("the Out of %q of %s is not its own", r.name, clip(r.list))
		}
		spoil(r.args)
		if !sameResult(other, kept) {
			t.Fatalf("the Out of %q of %s is turned with its args", r.name, clip(r.list))
		}
	}
}

func TestRunSideBySide(t *testing.T) {
	runs := runsForMemory()
	var want []impl.Result
	for _, r := range runs {
		want = append(want, r.result())
	}
	var group sync.WaitGroup
	wrong := make([]int, 8)
	for worker := range wrong {
		group.Go(func() {
			for i, r := range runs {
				wrong[worker] += flag(!sameResult(r.result(), want[i]))
			}
		})
	}
	group.Wait()
	if !slices.Equal(wrong, make([]int, 8)) {
		t.Errorf("answers side by side are others: %v", wrong)
	}
}
