package tests

import (
	"slices"
	"strings"
	"sync"
	"testing"
	"unsafe"

	"loop.example/g00286/impl"
)

// checkWritten holds Tidy and Write of functions that are tidy against their text, and that text against what Parse tells of it.
func checkWritten(t *testing.T, list []impl.Func) string {
	t.Helper()
	want := wantText(list)
	if !impl.Tidy(list) {
		t.Errorf("%s is not tidy", clip(list))
	}
	text := impl.Write(list)
	if text != want {
		t.Errorf("Write(%s) = %.300q, not %.300q", clip(list), text, want)
	}
	if why := layoutFault(text); why != "" {
		t.Errorf("%s in %.300q", why, text)
	}
	got, bad := impl.Parse(text)
	if len(text) > 6000 {
		if len(got) != 0 || bad != 0 {
			t.Errorf("a text of %d bytes is parsed: %d", len(text), bad)
		}
		return text
	}
	if bad != -1 || !slices.EqualFunc(got, list, sameFunc) {
		t.Errorf("what is written as %.300q is parsed as %s, %d, not as it was: %s", text, clip(got), bad, clip(list))
	}
	return text
}

// layoutFault is what no text that is written has.
func layoutFault(text string) string {
	switch {
	case strings.Contains(text, "  "):
		return "two blanks"
	case strings.Contains(text, " \n"):
		return "a blank at the end of a line"
	case strings.Contains(text, "\n "), strings.HasPrefix(text, " "):
		return "a blank at the beginning of a line"
	case strings.Contains(text, "\n\n"), strings.HasPrefix(text, "\n"):
		return "an empty line"
	case text != "" && !strings.HasSuffix(text, "}\n"):
		return "no end of a function"
	}
	return ""
}

func wantWritten(t *testing.T, text string, list ...impl.Func) {
	t.Helper()
	if got := impl.Write(list); got != text {
		t.Errorf("Write(%s) = %q, not %q", clip(list), got, text)
	}
	checkWritten(t, list)
	checkParse(t, text)
}

func wantUntidy(t *testing.T, what string, list ...impl.Func) {
	t.Helper()
	if impl.Tidy(list) {
		t.Errorf("%s: %s is tidy", what, clip(list))
	}
	if text := impl.Write(list); text != "" {
		t.Errorf("%s: %s is written as %.100q", what, clip(list), text)
	}
}

// checkTidy is of any functions of which the text is no longer than a source may be.
func checkTidy(t *testing.T, list []impl.Func) bool {
	t.Helper()
	tidy := wantTidy(list)
	if tidy {
		checkWritten(t, list)
	} else {
		wantUntidy(t, "it is parsed from no text", list...)
	}
	return tidy
}

// wantLines is of statements, by themselves and within the blocks of others.
func wantLines(t *testing.T, lines string, kids ...impl.Node) {
	t.Helper()
	x := vr("x")
	other := node(impl.NdPrint, lit(1))
	wantWritten(t, "func f() {\n"+lines+"}\n", fn("f", nil, kids...))
	wantWritten(t, "func f() {\nif x {\n"+lines+"}\n}\n", fn("f", nil, node(impl.NdIf, x, blk(kids...))))
	wantWritten(t, "func f() {\nif x {\n} else {\n"+lines+"}\n}\n", fn("f", nil, node(impl.NdIf, x, blk(), blk(kids...))))
	wantWritten(t, "func f() {\nif x {\n"+lines+"} else {\nprint 1;\n}\n}\n", fn("f", nil, node(impl.NdIf, x, blk(kids...), blk(other))))
	wantWritten(t, "func f() {\nprint 1;\nwhile x {\n"+lines+"}\nprint 1;\n}\n", fn("f", nil, other, node(impl.NdWhile, x, blk(kids...)), other))
	wantWritten(t, "func f() {\nselect {\ncase recv x, x {\n"+lines+"}\ncase send x, x {\n"+lines+"}\ndefault {\n"+lines+"}\n}\n}\n",
		fn("f", nil, node(impl.NdSelect, named(impl.NdTake, "x", x, blk(kids...)), node(impl.NdGive, x, x, blk(kids...)), node(impl.NdElse, blk(kids...)))))
	wantWritten(t, "func f() {\n"+lines+lines+"}\n", fn("f", nil, slices.Concat(kids, kids)...))
}

// wantExprText is of an e, wherever one may stand.
func wantExprText(t *testing.T, text string, e impl.Node) {
	t.Helper()
	form := "let x = ?;\nx = ?;\nif ? {\n}\nif ? {\n} else {\n}\nwhile ? {\n}\nprint ?;\nreturn ?;\ngo g(?);\ngo g(1, ?, ?);\nsend ?, ?;\nrecv x, ?;\nclose ?;\n" +
		"select {\ncase recv x, ? {\n}\ncase send ?, ? {\n}\n}\npoke ?, ?;\nnote ?, ?;\nswap ?, ?;\nhalt ?;\nout ?;\n?;\n" +
		"print (? + ?);\nprint (? - ?);\nprint (? * ?);\nprint (? < ?);\nprint (? == ?);\nprint g(?);\nprint g(?, 1, ?);\nprint make(?);\nprint peek(?);\nprint cas(?, ?, ?);\n"
	bin := func(op int) impl.Node { return node(impl.NdPrint, node(op, e, e)) }
	wantLines(t, strings.ReplaceAll(form, "?", text),
		named(impl.NdLet, "x", e), named(impl.NdSet, "x", e), node(impl.NdIf, e, blk()), node(impl.NdIf, e, blk(), blk()), node(impl.NdWhile, e, blk()),
		node(impl.NdPrint, e), node(impl.NdReturn, e), named(impl.NdGo, "g", e), named(impl.NdGo, "g", lit(1), e, e), node(impl.NdSend, e, e), named(impl.NdRecv, "x", e), node(impl.NdClose, e),
		node(impl.NdSelect, named(impl.NdTake, "x", e, blk()), node(impl.NdGive, e, e, blk())), node(impl.NdPoke, e, e), node(impl.NdNote, e, e), node(impl.NdSwap, e, e),
		node(impl.NdHalt, e), node(impl.NdOut, e), node(impl.NdDo, e), bin(impl.NdAdd), bin(impl.NdSub), bin(impl.NdMul), bin(impl.NdLess), bin(impl.NdSame),
		node(impl.NdPrint, named(impl.NdCall, "g", e)), node(impl.NdPrint, named(impl.NdCall, "g", e, lit(1), e)), node(impl.NdPrint, node(impl.NdMake, e)), node(impl.NdPrint, node(impl.NdPeek, e)),
		node(impl.NdPrint, node(impl.NdCas, e, e, e)))
}

func TestWriteOfFunctions(t *testing.T) {
	wantWritten(t, "")
	if !impl.Tidy([]impl.Func{}) || impl.Write([]impl.Func{}) != "" || !impl.Tidy(nil) {
		t.Error("no functions at all are not tidy")
	}
	wantWritten(t, "func f() {\n}\n", fn("f", nil))
	wantWritten(t, "func f() {\n}\n", impl.Func{Name: "f", Params: []impl.Param{}, Body: impl.Node{Op: impl.NdBlock, Kids: []impl.Node{}}})
	wantWritten(t, "func f() {\n}\nfunc g() {\n}\n", fn("f", nil), fn("g", nil))
	wantWritten(t, "func f() {\n}\nfunc f() {\n}\nfunc main() {\nreturn 1;\n}\n", fn("f", nil), fn("f", nil), fn("main", nil, node(impl.NdReturn, lit(1))))
	wantWritten(t, "func f(a) {\n}\n", fn("f", []impl.Param{{Name: "a"}}))
	wantWritten(t, "func f(a chan) {\n}\n", fn("f", []impl.Param{{Name: "a", Chan: true}}))
	wantWritten(t, "func f(a, a) {\n}\n", fn("f", []impl.Param{{Name: "a"}, {Name: "a"}}))
	wantWritten(t, "func f(a, b chan) {\n}\n", fn("f", []impl.Param{{Name: "a"}, {Name: "b", Chan: true}}))
	wantWritten(t, "func Func(a chan, b, cc chan, d) {\na;\n}\nfunc g(abcdefghij chan, k chan) {\n}\n",
		fn("Func", []impl.Param{{Name: "a", Chan: true}, {Name: "b"}, {Name: "cc", Chan: true}, {Name: "d"}}, node(impl.NdDo, vr("a"))),
		fn("g", []impl.Param{{Name: "abcdefghij", Chan: true}, {Name: "k", Chan: true}}))
	wantWritten(t, "func f(a, b, c, d, e, g, h chan, i, j) {\n}\n",
		fn("f", []impl.Param{{Name: "a"}, {Name: "b"}, {Name: "c"}, {Name: "d"}, {Name: "e"}, {Name: "g"}, {Name: "h", Chan: true}, {Name: "i"}, {Name: "j"}}))
}

func TestWriteOfStatements(t *testing.T) {
	wantLines(t, "")
	wantLines(t, "let x = 1;\n", named(impl.NdLet, "x", lit(1)))
	wantLines(t, "x = 2;\n", named(impl.NdSet, "x", lit(2)))
	wantLines(t, "print 3;\n", node(impl.NdPrint, lit(3)))
	wantLines(t, "return 4;\n", node(impl.NdReturn, lit(4)))
	wantLines(t, "go g();\n", named(impl.NdGo, "g"))
	wantLines(t, "go g(1);\n", named(impl.NdGo, "g", lit(1)))
	wantLines(t, "go g(1, x, h(2), (-4), 5);\n", named(impl.NdGo, "g", lit(1), vr("x"), named(impl.NdCall, "h", lit(2)), lit(-4), lit(5)))
	wantLines(t, "send c, 5;\n", node(impl.NdSend, vr("c"), lit(5)))
	wantLines(t, "recv x, c;\n", named(impl.NdRecv, "x", vr("c")))
	wantLines(t, "recv x, make(1);\n", named(impl.NdRecv, "x", node(impl.NdMake, lit(1))))
	wantLines(t, "close c;\n", node(impl.NdClose, vr("c")))
	wantLines(t, "poke 1, 2;\n", node(impl.NdPoke, lit(1), lit(2)))
	wantLines(t, "note 3, 4;\n", node(impl.NdNote, lit(3), lit(4)))
	wantLines(t, "swap 5, 6;\n", node(impl.NdSwap, lit(5), lit(6)))
	wantLines(t, "halt 7;\n", node(impl.NdHalt, lit(7)))
	wantLines(t, "out 8;\n", node(impl.NdOut, lit(8)))
	wantLines(t, "g(9);\n", node(impl.NdDo, named(impl.NdCall, "g", lit(9))))
	wantLines(t, "9;\nx;\nmake(0);\ncore();\naddr g;\n(-3);\n(x == 1);\n", node(impl.NdDo, lit(9)), node(impl.NdDo, vr("x")), node(impl.NdDo, node(impl.NdMake, lit(0))),
		node(impl.NdDo, node(impl.NdCore)), node(impl.NdDo, named(impl.NdAddr, "g")), node(impl.NdDo, lit(-3)), node(impl.NdDo, node(impl.NdSame, vr("x"), lit(1))))
}

func TestWriteOfBlocks(t *testing.T) {
	one, two := node(impl.NdPrint, lit(1)), node(impl.NdPrint, lit(2))
	wantLines(t, "if x {\n}\n", node(impl.NdIf, vr("x"), blk()))
	wantLines(t, "if x {\nprint 1;\n}\nprint 2;\n", node(impl.NdIf, vr("x"), blk(one)), two)
	wantLines(t, "if x {\n} else {\n}\n", node(impl.NdIf, vr("x"), blk(), blk()))
	wantLines(t, "if x {\nprint 1;\n} else {\nprint 2;\nprint 1;\n}\n", node(impl.NdIf, vr("x"), blk(one), blk(two, one)))
	wantLines(t, "if x {\nif y {\nprint 1;\n} else {\nprint 2;\n}\n}\n", node(impl.NdIf, vr("x"), blk(node(impl.NdIf, vr("y"), blk(one), blk(two)))))
	wantLines(t, "if x {\nif y {\nprint 1;\n}\n} else {\nprint 2;\n}\n", node(impl.NdIf, vr("x"), blk(node(impl.NdIf, vr("y"), blk(one))), blk(two)))
	wantLines(t, "if x {\n} else {\nif y {\n} else {\nprint 2;\n}\n}\n", node(impl.NdIf, vr("x"), blk(), blk(node(impl.NdIf, vr("y"), blk(), blk(two)))))
	wantLines(t, "while x {\n}\n", node(impl.NdWhile, vr("x"), blk()))
	wantLines(t, "while (x < 3) {\nprint 1;\nx = (x + 1);\n}\nprint 2;\n",
		node(impl.NdWhile, node(impl.NdLess, vr("x"), lit(3)), blk(one, named(impl.NdSet, "x", node(impl.NdAdd, vr("x"), lit(1))))), two)
	wantLines(t, "while x {\nwhile y {\nif 1 {\n}\n}\n}\n", node(impl.NdWhile, vr("x"), blk(node(impl.NdWhile, vr("y"), blk(node(impl.NdIf, lit(1), blk()))))))
}

func TestWriteOfSelect(t *testing.T) {
	one, two := node(impl.NdPrint, lit(1)), node(impl.NdPrint, lit(2))
	take := named(impl.NdTake, "x", vr("c"), blk(one))
	give := node(impl.NdGive, vr("d"), lit(4), blk(two))
	other := node(impl.NdElse, blk(one, two))
	wantLines(t, "select {\n}\n", node(impl.NdSelect))
	wantLines(t, "select {\n}\nprint 1;\n", node(impl.NdSelect), one)
	wantLines(t, "select {\ncase recv x, c {\nprint 1;\n}\n}\n", node(impl.NdSelect, take))
	wantLines(t, "select {\ncase send d, 4 {\nprint 2;\n}\n}\n", node(impl.NdSelect, give))
	wantLines(t, "select {\ncase recv x, c {\nprint 1;\n}\ncase send d, 4 {\nprint 2;\n}\n}\n", node(impl.NdSelect, take, give))
	wantLines(t, "select {\ncase send d, 4 {\nprint 2;\n}\ncase recv x, c {\nprint 1;\n}\ndefault {\nprint 1;\nprint 2;\n}\n}\nprint 2;\n", node(impl.NdSelect, give, take, other), two)
	wantLines(t, "select {\ndefault {\n}\n}\n", node(impl.NdSelect, node(impl.NdElse, blk())))
	wantLines(t, "select {\ncase recv x, (-1) {\n}\ncase send (-1), (a < b) {\n}\n}\n",
		node(impl.NdSelect, named(impl.NdTake, "x", lit(-1), blk()), node(impl.NdGive, lit(-1), node(impl.NdLess, vr("a"), vr("b")), blk())))
	wantLines(t, "select {\n"+strings.Repeat("case recv x, c {\nprint 1;\n}\n", 5)+"}\n", node(impl.NdSelect, take, take, take, take, take))
	wantLines(t, "select {\ncase recv x, c {\nselect {\ncase send d, 4 {\nprint 2;\n}\n}\n}\n}\n", node(impl.NdSelect, named(impl.NdTake, "x", vr("c"), blk(node(impl.NdSelect, give)))))
}

func TestWriteOfExprs(t *testing.T) {
	a, b, c, d := vr("a"), vr("b"), vr("c"), vr("d")
	add, sub, mul, less, same := impl.NdAdd, impl.NdSub, impl.NdMul, impl.NdLess, impl.NdSame
	for _, k := range []struct {
		text string
		e    impl.Node
	}{
		{"0", lit(0)}, {"1", lit(1)}, {"70", lit(70)}, {"2147483646", lit(2147483646)}, {"2147483647", lit(2147483647)},
		{"(-1)", lit(-1)}, {"(-70)", lit(-70)}, {"(-2147483646)", lit(-2147483646)}, {"(-2147483647)", lit(-2147483647)},
		{"x", vr("x")}, {"abcdefghij", vr("abcdefghij")}, {"Let", vr("Let")}, {"lets", vr("lets")},
		{"make(1)", node(impl.NdMake, lit(1))}, {"make((-1))", node(impl.NdMake, lit(-1))}, {"peek(x)", node(impl.NdPeek, vr("x"))},
		{"cas(1, x, (-3))", node(impl.NdCas, lit(1), vr("x"), lit(-3))}, {"core()", node(impl.NdCore)}, {"addr f", named(impl.NdAddr, "f")}, {"addr abcdefghij", named(impl.NdAddr, "abcdefghij")},
		{"g()", named(impl.NdCall, "g")}, {"g(1)", named(impl.NdCall, "g", lit(1))}, {"g(1, (-2))", named(impl.NdCall, "g", lit(1), lit(-2))},
		{"g(1, x, g(), g(2), 3, 4)", named(impl.NdCall, "g", lit(1), vr("x"), named(impl.NdCall, "g"), named(impl.NdCall, "g", lit(2)), lit(3), lit(4))},
		{"g((a < b))", named(impl.NdCall, "g", node(less, a, b))}, {"peek(peek(core()))", node(impl.NdPeek, node(impl.NdPeek, node(impl.NdCore)))},
		{"(a + b)", node(add, a, b)}, {"(a - b)", node(sub, a, b)}, {"(a * b)", node(mul, a, b)}, {"(a < b)", node(less, a, b)}, {"(a == b)", node(same, a, b)},
		{"((a + b) + c)", node(add, node(add, a, b), c)}, {"(a + (b + c))", node(add, a, node(add, b, c))},
		{"((a - b) - (c - d))", node(sub, node(sub, a, b), node(sub, c, d))}, {"((a * b) * (c * d))", node(mul, node(mul, a, b), node(mul, c, d))},
		{"((a + b) * (c - d))", node(mul, node(add, a, b), node(sub, c, d))}, {"((a * b) + (c * d))", node(add, node(mul, a, b), node(mul, c, d))},
		{"((a < b) < (c < d))", node(less, node(less, a, b), node(less, c, d))}, {"((a == b) == (c == d))", node(same, node(same, a, b), node(same, c, d))},
		{"((a < b) + (c == d))", node(add, node(less, a, b), node(same, c, d))}, {"((a == b) * c)", node(mul, node(same, a, b), c)},
		{"(a - (-1))", node(sub, a, lit(-1))}, {"((-1) - a)", node(sub, lit(-1), a)}, {"((-1) * (-1))", node(mul, lit(-1), lit(-1))}, {"((-1) < (-2))", node(less, lit(-1), lit(-2))},
		{"(a - 1)", node(sub, a, lit(1))}, {"((0 - 2147483647) - 1)", node(sub, node(sub, lit(0), lit(2147483647)), lit(1))},
		{"(addr g + 1)", node(add, named(impl.NdAddr, "g"), lit(1))}, {"(18 + (core() * 40))", node(add, lit(18), node(mul, node(impl.NdCore), lit(40)))},
	} {
		wantExprText(t, k.text, k.e)
	}
}

// Each op of two exprs within each other one, on both sides.
func TestSumsWithinEachOther(t *testing.T) {
	signs := map[int]string{impl.NdAdd: "+", impl.NdSub: "-", impl.NdMul: "*", impl.NdLess: "<", impl.NdSame: "=="}
	for outer, sign := range signs {
		for inner, other := range signs {
			within, text := node(inner, vr("a"), lit(-1)), "(a "+other+" (-1))"
			wantLines(t, "print ("+text+" "+sign+" b);\n", node(impl.NdPrint, node(outer, within, vr("b"))))
			wantLines(t, "print (b "+sign+" "+text+");\n", node(impl.NdPrint, node(outer, vr("b"), within)))
			wantLines(t, "print ("+text+" "+sign+" "+text+");\n", node(impl.NdPrint, node(outer, within, within)))
		}
	}
}

// opParts are, of each op, a node that is right, with as few kids as it takes.
func opParts() []impl.Node {
	e, x := lit(7), vr("x")
	return []impl.Node{
		blk(), named(impl.NdLet, "x", e), named(impl.NdSet, "x", e), node(impl.NdIf, e, blk()), node(impl.NdWhile, e, blk()), node(impl.NdPrint, e), node(impl.NdReturn, e),
		named(impl.NdGo, "g"), node(impl.NdSend, x, e), named(impl.NdRecv, "x", x), node(impl.NdClose, x), node(impl.NdSelect),
		node(impl.NdPoke, e, e), node(impl.NdNote, e, e), node(impl.NdSwap, e, e), node(impl.NdHalt, e), node(impl.NdOut, e), node(impl.NdDo, e),
		e, x, node(impl.NdAdd, e, x), node(impl.NdSub, e, x), node(impl.NdMul, e, x), node(impl.NdLess, e, x), node(impl.NdSame, e, x),
		named(impl.NdCall, "g"), node(impl.NdMake, e), node(impl.NdPeek, e), node(impl.NdCas, e, x, e), node(impl.NdCore), named(impl.NdAddr, "g"),
		named(impl.NdTake, "x", x, blk()), node(impl.NdGive, x, e, blk()), node(impl.NdElse, blk()),
	}
}

func isExprOp(op int) bool { return op >= impl.NdNum && op <= impl.NdAddr }

// placed are functions with a node of that op where it may stand, and behind others there.
func placed(n impl.Node) [][]impl.Func {
	whole := func(kids ...impl.Node) []impl.Func {
		return []impl.Func{fn("g", nil), fn("f", []impl.Param{{Name: "x"}}, kids...), fn("h", nil, node(impl.NdReturn, lit(0)))}
	}
	switch {
	case n.Op == impl.NdBlock:
		return [][]impl.Func{{{Name: "f", Body: n}}, whole(node(impl.NdIf, lit(1), n)), whole(node(impl.NdIf, lit(1), blk(), n)), whole(node(impl.NdWhile, lit(1), n)),
			whole(node(impl.NdSelect, named(impl.NdTake, "x", vr("x"), n), node(impl.NdGive, lit(1), lit(2), n), node(impl.NdElse, n)))}
	case n.Op == impl.NdTake || n.Op == impl.NdGive:
		return [][]impl.Func{whole(node(impl.NdSelect, n)), whole(node(impl.NdSelect, named(impl.NdTake, "x", vr("x"), blk()), n, node(impl.NdElse, blk())))}
	case n.Op == impl.NdElse:
		return [][]impl.Func{whole(node(impl.NdSelect, n)), whole(node(impl.NdSelect, named(impl.NdTake, "x", vr("x"), blk()), n))}
	case isExprOp(n.Op):
		return [][]impl.Func{whole(node(impl.NdPrint, n)), whole(node(impl.NdIf, n, blk())), whole(named(impl.NdGo, "g", lit(1), n)), whole(node(impl.NdDo, node(impl.NdCas, lit(1), n, lit(2)))),
			whole(node(impl.NdSelect, node(impl.NdGive, vr("x"), n, blk()))), whole(node(impl.NdSend, n, node(impl.NdAdd, lit(1), n)))}
	}
	return [][]impl.Func{{fn("f", nil, n)}, whole(node(impl.NdPrint, lit(1)), n, node(impl.NdPrint, lit(1))), whole(node(impl.NdWhile, lit(1), blk(n)))}
}

func checkPlaced(t *testing.T, n impl.Node, tidy bool) {
	t.Helper()
	for _, list := range placed(n) {
		if checkTidy(t, list) != tidy {
			t.Errorf("%s: the model says that tidy is %v", clip(list), !tidy)
		}
	}
}

// badNames are no names, goodNames are.
func badNames() []string {
	out := append([]string{"", " ", "abcdefghijk", "ABCDEFGHIJK", strings.Repeat("a", 1000), "0", "7", "a1", "1a", "a b", " a", "a ", "a\n", "\na", "a_b", "_", "a.b", "a-b", "-1", "a\x00", "\x00", "\u00e9", "a\u00e9", "\xff", "a\xff",
		"@", "[", "`", "{", "a@", "a[", "a`", "a{", "(a)", "a()", "a;", "a = 1", "a chan", "a, b", "x, y", "a+b", "a)", "//", "\u017f", "\u212a", "e\u0301"}, everyKeyword...)
	for _, s := range everyKeyword {
		out = append(out, s+" ", " "+s, s+"7")
	}
	return out
}

func goodNames() []string {
	return append([]string{"a", "z", "A", "Z", "aZ", "abcdefghij", "ABCDEFGHIJ", "zzzzzzzzzz", "Func", "FUNC", "lets", "le", "main", "rtloop", "defaults", "chann", "channel", "elsewhere", "nil", "true"}, nearNames()...)
}

func TestNamesOfFunctionsAndParams(t *testing.T) {
	frames := func(s string) [][]impl.Func {
		return [][]impl.Func{
			{fn(s, nil)}, {fn("f", nil), fn(s, nil), fn("g", nil)}, {fn("f", []impl.Param{{Name: s}})}, {fn("f", []impl.Param{{Name: s, Chan: true}})},
			{fn("f", []impl.Param{{Name: "a"}, {Name: s}, {Name: "b"}})}, {fn("f", nil), fn("g", []impl.Param{{Name: "a", Chan: true}, {Name: s, Chan: true}})},
		}
	}
	for _, s := range badNames() {
		for _, list := range frames(s) {
			if checkTidy(t, list) {
				t.Errorf("the model takes the name %q", s)
			}
		}
	}
	for _, s := range goodNames() {
		for _, list := range frames(s) {
			if !checkTidy(t, list) {
				t.Errorf("the model refuses the name %q", s)
			}
		}
	}
}

func TestTextsOfNodes(t *testing.T) {
	namedOps := []int{impl.NdLet, impl.NdSet, impl.NdGo, impl.NdRecv, impl.NdVar, impl.NdCall, impl.NdAddr, impl.NdTake}
	for _, n := range opParts() {
		checkPlaced(t, n, true)
		isNamed := slices.Contains(namedOps, n.Op)
		if isNamed != (n.S != "") {
			t.Fatalf("op %d has the text %q", n.Op, n.S)
		}
		for _, s := range badNames() {
			n.S = s
			checkPlaced(t, n, s == "" && !isNamed)
		}
		for _, s := range goodNames() {
			n.S = s
			checkPlaced(t, n, isNamed)
		}
	}
}

func TestNumbersOfNodes(t *testing.T) {
	within := []int{1, -1, 2, -2, 7, 40, 2147483646, -2147483646, 2147483647, -2147483647}
	beyond := []int{2147483648, -2147483648, 2147483649, -2147483649, 4294967295, 4294967296, -4294967296, 4294967297, 8589934593, 1 << 40, -1 << 40, 1<<63 - 1, -1 << 63, -1<<63 + 1}
	for _, n := range opParts() {
		n.N = 0
		checkPlaced(t, n, true)
		for _, n.N = range within {
			checkPlaced(t, n, n.Op == impl.NdNum)
		}
		for _, n.N = range beyond {
			checkPlaced(t, n, false)
		}
	}
}

// kidPatterns are, of each op, which kids it may have: b a block, s a statement, e an expr, c a case, d a default; a letter with * behind it any number, with ? once or not at all.
var kidPatterns = map[int]string{
	impl.NdBlock: "s*", impl.NdLet: "e", impl.NdSet: "e", impl.NdIf: "ebb?", impl.NdWhile: "eb", impl.NdPrint: "e", impl.NdReturn: "e", impl.NdGo: "e*", impl.NdSend: "ee", impl.NdRecv: "e", impl.NdClose: "e",
	impl.NdSelect: "c*d?", impl.NdPoke: "ee", impl.NdNote: "ee", impl.NdSwap: "ee", impl.NdHalt: "e", impl.NdOut: "e", impl.NdDo: "e", impl.NdNum: "", impl.NdVar: "",
	impl.NdAdd: "ee", impl.NdSub: "ee", impl.NdMul: "ee", impl.NdLess: "ee", impl.NdSame: "ee", impl.NdCall: "e*", impl.NdMake: "e", impl.NdPeek: "e", impl.NdCas: "eee", impl.NdCore: "", impl.NdAddr: "",
	impl.NdTake: "eb", impl.NdGive: "eeb", impl.NdElse: "b",
}

// kidOf has a node of each of these letters, and one whose op is none.
var kidOf = map[byte]impl.Node{
	'b': blk(), 's': node(impl.NdPrint, lit(1)), 'e': vr("x"), 'c': named(impl.NdTake, "x", vr("c"), blk()), 'd': node(impl.NdElse, blk()), '?': {},
}

func fitsPattern(pattern, kids string) bool {
	if pattern == "" {
		return kids == ""
	}
	begins := kids != "" && kids[0] == pattern[0]
	switch {
	case strings.HasPrefix(pattern[1:], "*"):
		return begins && fitsPattern(pattern, kids[1:]) || fitsPattern(pattern[2:], kids)
	case strings.HasPrefix(pattern[1:], "?"):
		return begins && fitsPattern(pattern[2:], kids[1:]) || fitsPattern(pattern[2:], kids)
	}
	return begins && fitsPattern(pattern[1:], kids[1:])
}

// allKids are all texts of these letters of at most that length.
func allKids(letters string, most int) []string {
	out := []string{""}
	for from := 0; most > 0; most-- {
		to := len(out)
		for _, s := range out[from:to] {
			for _, b := range []byte(letters) {
				out = append(out, s+string(b))
			}
		}
		from = to
	}
	return out
}

func kidsBy(letters string) []impl.Node {
	var out []impl.Node
	for _, b := range []byte(letters) {
		out = append(out, kidOf[b])
	}
	return out
}

// Kids of each kind in each order, too few of them and too many, at each op.
func TestKidsOfNodes(t *testing.T) {
	all := allKids("bsecd?", 4)
	if len(all) != 1+6+36+216+1296 {
		t.Fatalf("%d lists of kids", len(all))
	}
	for _, n := range opParts() {
		for _, letters := range all {
			n.Kids = kidsBy(letters)
			tidy := fitsPattern(kidPatterns[n.Op], letters)
			list := placed(n)[len(letters)%len(placed(n))]
			if checkTidy(t, list) != tidy {
				t.Errorf("op %d with kids %q: the model says that tidy is %v", n.Op, letters, !tidy)
			}
		}
	}
}

// Each op as each kid of each op, and as a Body.
func TestEachOpAtEachPlace(t *testing.T) {
	none := []impl.Node{{}, {Op: -1}, {Op: 35}, {Op: 36}, {Op: 1 << 40}, {Op: -1 << 63}, {Op: 1<<63 - 1}, {S: "x"}, {N: 1}, {Op: 256 + impl.NdVar, S: "x"}, {Op: 1<<32 + impl.NdBlock}, {Op: -impl.NdNum}, {Kids: []impl.Node{blk()}}}
	wide := []impl.Node{node(impl.NdIf, lit(1), blk(), blk()), named(impl.NdGo, "g", lit(1), lit(2)), named(impl.NdCall, "g", lit(1), lit(2)), blk(node(impl.NdPrint, lit(1)), node(impl.NdPrint, lit(1))),
		node(impl.NdSelect, named(impl.NdTake, "x", vr("c"), blk()), node(impl.NdGive, vr("c"), lit(1), blk()), node(impl.NdElse, blk()))}
	for _, other := range slices.Concat(opParts(), none) {
		for _, n := range slices.Concat(opParts(), wide) {
			for i := range n.Kids {
				n := cloneNode(n)
				n.Kids[i] = other
				checkTidy(t, placed(n)[0])
			}
			if n.Op == impl.NdBlock {
				continue
			}
			n = cloneNode(n)
			n.Kids = append(n.Kids, other)
			checkTidy(t, placed(n)[0])
		}
		tidy := checkTidy(t, []impl.Func{{Name: "f", Body: other}})
		if tidy != (other.Op == impl.NdBlock) {
			t.Errorf("a Body of op %d: tidy is %v", other.Op, tidy)
		}
		if tidy := checkTidy(t, []impl.Func{fn("f", nil, other)}); tidy != (other.Op >= impl.NdLet && other.Op <= impl.NdDo) {
			t.Errorf("a statement of op %d: tidy is %v", other.Op, tidy)
		}
		if tidy := checkTidy(t, []impl.Func{fn("f", nil, node(impl.NdPrint, other))}); tidy != isExprOp(other.Op) {
			t.Errorf("an expr of op %d: tidy is %v", other.Op, tidy)
		}
	}
}

func TestWaysOfNotBeingTidy(t *testing.T) {
	e, x := lit(1), vr("x")
	print1 := node(impl.NdPrint, e)
	take, give, other := named(impl.NdTake, "x", x, blk()), node(impl.NdGive, x, e, blk()), node(impl.NdElse, blk())
	for what, n := range map[string]impl.Node{
		"a block among statements":       blk(),
		"an e among statements":          x,
		"a case among statements":        take,
		"a giving case among statements": give,
		"a default among statements":     other,
		"a statement among cases":        node(impl.NdSelect, take, print1),
		"a block among cases":            node(impl.NdSelect, blk()),
		"default that is not the last":   node(impl.NdSelect, other, take),
		"default between cases":          node(impl.NdSelect, take, other, give),
		"two defaults":                   node(impl.NdSelect, take, other, other),
		"two defaults alone":             node(impl.NdSelect, other, other),
		"a statement within an e":        node(impl.NdPrint, node(impl.NdAdd, e, print1)),
		"an e where a block must be":     node(impl.NdWhile, e, x),
		"a block where an e must be":     node(impl.NdWhile, blk(), blk()),
		"a statement as a block":         node(impl.NdIf, e, print1),
		"an e as the other block":        node(impl.NdIf, e, blk(), x),
		"three blocks":                   node(impl.NdIf, e, blk(), blk(), blk()),
		"if with no block":               node(impl.NdIf, e),
		"if with nothing":                node(impl.NdIf),
		"a while with two blocks":        node(impl.NdWhile, e, blk(), blk()),
		"a take with no block":           node(impl.NdSelect, named(impl.NdTake, "x", x)),
		"a take of two exprs":            node(impl.NdSelect, named(impl.NdTake, "x", x, x, blk())),
		"a give of one e":                node(impl.NdSelect, node(impl.NdGive, x, blk())),
		"a default with two blocks":      node(impl.NdSelect, node(impl.NdElse, blk(), blk())),
		"a default with an e":            node(impl.NdSelect, node(impl.NdElse, e, blk())),
		"a default with nothing":         node(impl.NdSelect, node(impl.NdElse)),
		"a let with no e":                named(impl.NdLet, "x"),
		"a let with two":                 named(impl.NdLet, "x", e, e),
		"a send of one":                  node(impl.NdSend, x),
		"a send of three":                node(impl.NdSend, x, e, e),
		"a number with a kid":            node(impl.NdPrint, node(impl.NdNum, e)),
		"a name with a kid":              node(impl.NdPrint, named(impl.NdVar, "x", e)),
		"core with a kid":                node(impl.NdPrint, node(impl.NdCore, e)),
		"cas of two":                     node(impl.NdPrint, node(impl.NdCas, e, e)),
		"cas of four":                    node(impl.NdPrint, node(impl.NdCas, e, e, e, e)),
		"make of none":                   node(impl.NdPrint, node(impl.NdMake)),
		"a sum of one":                   node(impl.NdPrint, node(impl.NdAdd, e)),
		"a sum of three":                 node(impl.NdPrint, node(impl.NdAdd, e, e, e)),
		"the zero value":                 {},
		"the zero value as an e":         node(impl.NdPrint, impl.Node{}),
		"the zero value as a block":      node(impl.NdWhile, e, impl.Node{}),
		"the zero value as a case":       node(impl.NdSelect, impl.Node{}),
		"the zero value behind all":      node(impl.NdPrint, e, impl.Node{}),
		"a name of a print":              named(impl.NdPrint, "x", e),
		"a number of a print":            {Op: impl.NdPrint, N: 1, Kids: []impl.Node{e}},
		"a number of a name":             node(impl.NdPrint, impl.Node{Op: impl.NdVar, S: "x", N: 1}),
		"a name of a number":             node(impl.NdPrint, impl.Node{Op: impl.NdNum, S: "x", N: 1}),
		"a number too far below":         node(impl.NdPrint, lit(-2147483648)),
		"a number too far above":         node(impl.NdPrint, lit(2147483648)),
	} {
		list := []impl.Func{fn("f", nil, n)}
		wantUntidy(t, what, list...)
		wantUntidy(t, what+", behind others", fn("g", nil, print1), fn("f", nil, print1, node(impl.NdWhile, e, blk(print1, n)), print1), fn("h", nil))
		if wantTidy(list) {
			t.Errorf("the model takes %s", what)
		}
	}
	wantUntidy(t, "the zero value", impl.Func{})
	wantUntidy(t, "a function with no body", impl.Func{Name: "f"})
	wantUntidy(t, "a function with no name", fn("", nil))
	wantUntidy(t, "zero values behind one that is right", fn("f", nil), impl.Func{})
	wantUntidy(t, "the zero value as a param", fn("f", []impl.Param{{}}))
	wantUntidy(t, "a body with a name", impl.Func{Name: "f", Body: named(impl.NdBlock, "f")})
	wantUntidy(t, "a body with a number", impl.Func{Name: "f", Body: impl.Node{Op: impl.NdBlock, N: 1}})
}

func manyFunctions(count int) []impl.Func {
	var out []impl.Func
	for range count {
		out = append(out, fn("f", nil, node(impl.NdReturn, lit(1))))
	}
	return out
}

func TestTidyByHowManyFunctions(t *testing.T) {
	for _, count := range []int{0, 1, 2, 39, 40} {
		list := manyFunctions(count)
		if text := checkWritten(t, list); text != strings.Repeat("func f() {\nreturn 1;\n}\n", count) {
			t.Errorf("%d functions are written as %.100q", count, text)
		}
	}
	for _, count := range []int{41, 42, 80, 250, 100000} {
		wantUntidy(t, "too many functions", manyFunctions(count)...)
		wantUntidy(t, "too many that are zero", make([]impl.Func, count)...)
	}
	for i := range 40 {
		list := manyFunctions(40)
		list[i].Body.Kids[0].S = "x"
		wantUntidy(t, "one of 40 is not tidy", list...)
	}
}

// deepTrees are exprs that are so many nodes deep, by each op that has exprs.
func deepTrees(deep int) map[string]impl.Node {
	grow := map[string]func(n impl.Node) impl.Node{
		"left":  func(n impl.Node) impl.Node { return node(impl.NdAdd, n, lit(1)) },
		"right": func(n impl.Node) impl.Node { return node(impl.NdLess, vr("x"), n) },
		"minus": func(n impl.Node) impl.Node { return node(impl.NdSub, lit(-1), n) },
		"call":  func(n impl.Node) impl.Node { return named(impl.NdCall, "g", n) },
		"last":  func(n impl.Node) impl.Node { return named(impl.NdCall, "g", lit(1), lit(2), n) },
		"peek":  func(n impl.Node) impl.Node { return node(impl.NdPeek, n) },
		"make":  func(n impl.Node) impl.Node { return node(impl.NdMake, n) },
		"cas":   func(n impl.Node) impl.Node { return node(impl.NdCas, lit(1), n, lit(2)) },
	}
	out := map[string]impl.Node{}
	for what, one := range grow {
		n := lit(7)
		for range deep - 1 {
			n = one(n)
		}
		out[what] = n
	}
	return out
}

func TestTidyByHowDeepExprsAre(t *testing.T) {
	frames := map[int]func(e impl.Node) impl.Node{
		2: func(e impl.Node) impl.Node { return node(impl.NdPrint, e) },
		4: func(e impl.Node) impl.Node { return node(impl.NdWhile, lit(1), blk(named(impl.NdSet, "x", e))) },
		3: func(e impl.Node) impl.Node {
			return node(impl.NdSelect, node(impl.NdGive, vr("c"), e, blk()), node(impl.NdElse, blk()))
		},
	}
	for above, frame := range frames {
		for deep := 1; deep <= 25; deep++ {
			for what, e := range deepTrees(deep) {
				list := []impl.Func{fn("g", nil), fn("f", nil, frame(e), node(impl.NdReturn, lit(0)))}
				if modelDeep(list[1].Body) != above+deep {
					t.Fatalf("%s is %d deep", what, modelDeep(list[1].Body))
				}
				if tidy := checkTidy(t, list); tidy != (above+deep <= 20) {
					t.Errorf("%s: %d and %d deep: tidy is %v", what, above, deep, tidy)
				}
			}
		}
	}
}

func TestTidyByHowDeepBlocksAre(t *testing.T) {
	for what, one := range map[string]func(n impl.Node) impl.Node{
		"if":     func(n impl.Node) impl.Node { return blk(node(impl.NdIf, lit(1), n)) },
		"else":   func(n impl.Node) impl.Node { return blk(node(impl.NdIf, lit(1), blk(), n)) },
		"while":  func(n impl.Node) impl.Node { return blk(node(impl.NdWhile, lit(1), n)) },
		"take":   func(n impl.Node) impl.Node { return blk(node(impl.NdSelect, named(impl.NdTake, "x", vr("c"), n))) },
		"give":   func(n impl.Node) impl.Node { return blk(node(impl.NdSelect, node(impl.NdGive, vr("c"), lit(1), n))) },
		"select": func(n impl.Node) impl.Node { return blk(node(impl.NdSelect, node(impl.NdElse, n))) },
	} {
		for _, inmost := range []impl.Node{blk(), blk(node(impl.NdSelect)), blk(named(impl.NdGo, "g")), blk(node(impl.NdPrint, lit(1))), blk(node(impl.NdPrint, node(impl.NdMake, lit(1))))} {
			body := inmost
			for range 12 {
				if tidy := checkTidy(t, []impl.Func{{Name: "f", Body: body}}); tidy != (modelDeep(body) <= 20) {
					t.Errorf("%s: %d deep: tidy is %v", what, modelDeep(body), tidy)
				}
				body = one(body)
			}
		}
	}
}

func TestTreesFarTooDeep(t *testing.T) {
	for _, deep := range []int{100, 1000, 600000} {
		for what, e := range deepTrees(deep) {
			wantUntidy(t, what, fn("f", nil, node(impl.NdPrint, e)))
			wantUntidy(t, what, fn("g", nil), fn("f", nil, node(impl.NdDo, lit(1)), node(impl.NdIf, e, blk())))
			wantUntidy(t, what, impl.Func{Name: "f", Body: e})
		}
		body, none := blk(), impl.Node{}
		for range deep {
			body = blk(node(impl.NdWhile, lit(1), body))
			none = impl.Node{Kids: []impl.Node{none, {}}}
		}
		wantUntidy(t, "blocks", impl.Func{Name: "f", Body: body})
		wantUntidy(t, "ops that are none", impl.Func{Name: "f", Body: none}, fn("f", nil, none))
	}
	// Each level twice: no call could go over all of these nodes.
	twice := lit(1)
	for range 200 {
		twice = node(impl.NdMul, twice, twice)
	}
	wantUntidy(t, "each level twice", fn("f", nil, node(impl.NdPrint, twice)))
	within := []impl.Node{{Op: impl.NdPeek}}
	within[0].Kids = within
	wantUntidy(t, "a node within itself", fn("f", nil, node(impl.NdPrint, within[0])))
}

func TestLargeTrees(t *testing.T) {
	many := func(n impl.Node) []impl.Node { return slices.Repeat([]impl.Node{n}, 50000) }
	take := named(impl.NdTake, "x", vr("c"), blk(node(impl.NdPrint, vr("x"))))
	for what, list := range map[string][]impl.Func{
		"statements": {fn("f", nil, many(named(impl.NdLet, "x", lit(-1)))...)},
		"args":       {fn("f", nil, node(impl.NdDo, named(impl.NdCall, "g", many(lit(7))...)))},
		"bodies":     {fn("f", nil, named(impl.NdGo, "g", many(vr("x"))...))},
		"cases":      {fn("f", nil, node(impl.NdSelect, append(many(take), node(impl.NdElse, blk()))...))},
		"params":     {fn("f", slices.Repeat([]impl.Param{{Name: "a", Chan: true}, {Name: "b"}}, 50000))},
	} {
		if text := checkWritten(t, list); len(text) < 100000 {
			t.Errorf("%s: %d bytes", what, len(text))
		}
	}
	wide := lit(1)
	for range 17 {
		wide = node(impl.NdAdd, wide, wide)
	}
	list := []impl.Func{fn("f", nil, node(impl.NdPrint, wide))}
	if text := checkWritten(t, list); len(text) != len("func f() {\nprint ;\n}\n")+131072+131071*5 {
		t.Errorf("a wide tree has %d bytes", len(text))
	}
	spoilt := many(node(impl.NdPrint, lit(1)))
	spoilt[49999] = node(impl.NdPrint, vr("let"))
	wantUntidy(t, "the last of many", fn("f", nil, spoilt...))
	wantUntidy(t, "a long name", fn(strings.Repeat("a", 10000000), nil), fn("f", []impl.Param{{Name: strings.Repeat("b", 10000000)}}))
	wantUntidy(t, "a long name of a node", fn("f", nil, node(impl.NdPrint, vr(strings.Repeat("a", 10000000)))))
	wantUntidy(t, "many kids of a number", fn("f", nil, node(impl.NdPrint, node(impl.NdNum, many(lit(1))...))))
	wantUntidy(t, "many zero values", impl.Func{Name: "f", Body: blk(make([]impl.Node, 100000)...)})
}

// ofSize is a function whose text has so many bytes.
func ofSize(size int) []impl.Func {
	rest := size - len("func f() {\n}\n")
	var kids []impl.Node
	for rest >= 6 {
		kids = append(kids, node(impl.NdDo, vr("x")))
		rest -= len("x;\n")
	}
	kids = append(kids, node(impl.NdDo, vr("xxxxxx"[:rest-2])))
	return []impl.Func{fn("f", nil, kids...)}
}

func TestTextsOfFullSources(t *testing.T) {
	for _, size := range []int{5997, 5998, 5999, 6000, 6001, 6002, 6003, 12000} {
		list := ofSize(size)
		text := checkWritten(t, list)
		if len(text) != size {
			t.Fatalf("the text has %d bytes, not %d", len(text), size)
		}
		got, bad := impl.Parse(text)
		if size <= 6000 && (bad != -1 || !slices.EqualFunc(got, list, sameFunc)) {
			t.Errorf("a text of %d bytes is not parsed as it was: %d", size, bad)
		}
		if size > 6000 && (bad != 0 || len(got) != 0) {
			t.Errorf("a text of %d bytes is parsed: %d", size, bad)
		}
	}
	// A source may hold more than its text, as that has more blanks.
	for _, src := range []string{"func f(){" + strings.Repeat("x=1;", 1497) + "}", "func f(){g(" + strings.Repeat("1,", 2990) + "1);}", "func f(" + strings.Repeat("a,", 2900) + "a){}"} {
		list, bad := impl.Parse(src)
		if text := checkWritten(t, list); bad != -1 || len(text) <= 6000 {
			t.Errorf("%.30q has a text of %d bytes", src, len(text))
		}
	}
}

// checkTold holds what Parse tells of any text: it is tidy, and its text is parsed as it was.
func checkTold(t *testing.T, src string) bool {
	t.Helper()
	list, bad := impl.Parse(src)
	if bad != -1 {
		return false
	}
	text := checkWritten(t, list)
	if len(text) <= 6000 {
		again, _ := impl.Parse(text)
		if other := impl.Write(again); other != text {
			t.Errorf("%.200q is written as %.200q, and then as %.200q", src, text, other)
		}
	}
	return true
}

func TestWhatParseTellsIsTidy(t *testing.T) {
	for _, text := range wholeTexts() {
		words := strings.Fields(text)
		for i := range words {
			for _, w := range everyWord() {
				other := slices.Clone(words)
				other[i] = w
				checkTold(t, strings.Join(other, " "))
				checkTold(t, strings.Join(slices.Insert(other, i, words[i]), " "))
			}
		}
		if !checkTold(t, text) {
			t.Errorf("%q is not told", text)
		}
	}
	for deep := 1; deep <= 18; deep++ {
		for what, e := range chainsOf(deep) {
			if !checkTold(t, "func f() { print "+e+"; }") {
				t.Errorf("%s of %d is not told", what, deep)
			}
		}
	}
	for _, src := range []string{"", " \n ", "#", "func f(){((x))=(((1)));}", "func f(){-0;x=-0;print --1;}", functions(40), functions(41), strings.Repeat("func f(){}", 40)} {
		checkTold(t, src)
	}
}

func TestDrawnTextsAreTidy(t *testing.T) {
	d := newDrawer(71)
	told := 0
	all := everyWord()
	for range 6000 {
		_, src := d.program(1+d.IntN(3), 2+d.IntN(8))
		words := strings.Fields(src)
		for range d.IntN(3) {
			words[d.IntN(len(words))] = d.pick(all...)
		}
		told += flag(checkTold(t, strings.Join(words, d.pick(" ", "\n", " \n"))))
	}
	if told < 2000 {
		t.Errorf("%d drawn texts are told", told)
	}
}

func TestDrawnTreesAreParsedAsTheyWere(t *testing.T) {
	d := newDrawer(72)
	short, long, deep := 0, 0, 0
	for i := range 6000 {
		most := 2 + d.IntN(15)
		if i%10 == 0 {
			most = 25
		}
		list, _ := d.program(d.IntN(4), most)
		if slices.ContainsFunc(list, func(f impl.Func) bool { return modelDeep(f.Body) > 20 }) {
			wantUntidy(t, "too deep", list...)
			deep++
			continue
		}
		if len(checkWritten(t, list)) > 6000 {
			long++
		} else {
			short++
		}
	}
	if short < 3000 || long < 20 || deep < 20 {
		t.Errorf("%d drawn trees are short, %d are long, %d are too deep", short, long, deep)
	}
}

// spoilOne turns one thing of one node, function or param, drawn.
func (d *drawer) spoilOne(list []impl.Func) {
	f := &list[d.IntN(len(list))]
	if d.IntN(20) == 0 {
		f.Name = d.pick(badNames()...)
		return
	}
	at := &f.Body
	for len(at.Kids) > 0 && d.IntN(4) > 0 {
		at = &at.Kids[d.IntN(len(at.Kids))]
	}
	parts := opParts()
	switch d.IntN(6) {
	case 0:
		at.Op = d.IntN(38) - 1
	case 1:
		at.S = d.pick("", "x", "let", "abcdefghij", "abcdefghijk", "x y")
	case 2:
		at.N = []int{0, 1, -1, 2147483647, -2147483647, -2147483648, 2147483648}[d.IntN(7)]
	case 3:
		at.Kids = append(at.Kids, parts[d.IntN(len(parts))])
	case 4:
		if len(at.Kids) > 0 {
			i := d.IntN(len(at.Kids))
			at.Kids = slices.Delete(at.Kids, i, i+1)
		}
	case 5:
		*at = parts[d.IntN(len(parts))]
	}
}

func TestDrawnTreesWithAFault(t *testing.T) {
	d := newDrawer(73)
	tidy, untidy := 0, 0
	for range 20000 {
		list, _ := d.program(1+d.IntN(2), 2+d.IntN(7))
		d.spoilOne(list)
		if len(wantText(list)) > 6000 {
			continue
		}
		if checkTidy(t, list) {
			tidy++
		} else {
			untidy++
		}
	}
	if tidy < 2000 || untidy < 5000 {
		t.Errorf("%d spoilt trees are tidy, %d are not", tidy, untidy)
	}
}

func TestDrawnOddTrees(t *testing.T) {
	d := newDrawer(74)
	var grow func(deep int) impl.Node
	grow = func(deep int) impl.Node {
		n := impl.Node{Op: d.IntN(40) - 2, S: d.pick("", "", "x"), N: d.IntN(9) / 8}
		for range d.IntN(4) {
			if deep > 0 {
				n.Kids = append(n.Kids, grow(deep-1))
			}
		}
		return n
	}
	for range 20000 {
		body := grow(d.IntN(5))
		checkTidy(t, []impl.Func{{Name: "f", Body: body}})
		body.Op, body.S, body.N = impl.NdBlock, "", 0
		checkTidy(t, []impl.Func{{Name: "f", Body: body}})
	}
}

// Lists that are empty and nil are the same at each place.
func TestListsThatAreEmptyAndNil(t *testing.T) {
	var fill func(n impl.Node, empty []impl.Node) impl.Node
	fill = func(n impl.Node, empty []impl.Node) impl.Node {
		n = cloneNode(n)
		if len(n.Kids) == 0 {
			n.Kids = empty
		}
		for i, k := range n.Kids {
			n.Kids[i] = fill(k, empty)
		}
		return n
	}
	odd := []impl.Node{{}, {Op: 99}, blk(impl.Node{}), node(impl.NdIf), node(impl.NdElse), node(impl.NdCas), node(impl.NdPrint)}
	for _, n := range slices.Concat(opParts(), odd) {
		for _, list := range append(placed(n), []impl.Func{{Name: "f", Body: n}}) {
			was, text := impl.Tidy(list), impl.Write(list)
			for _, empty := range [][]impl.Node{nil, {}, make([]impl.Node, 0, 4), make([]impl.Node, 4)[4:]} {
				other := slices.Clone(list)
				for i, f := range other {
					other[i].Body = fill(f.Body, empty)
					if len(f.Params) == 0 {
						other[i].Params = []impl.Param{}
					}
				}
				if impl.Tidy(other) != was || impl.Write(other) != text {
					t.Errorf("%s is answered otherwise with lists that are empty", clip(list))
				}
			}
		}
	}
}

// listsForMemory are functions, tidy and not.
func listsForMemory() [][]impl.Func {
	out := [][]impl.Func{nil, {}, {{}}, manyFunctions(40), manyFunctions(41), ofSize(6000), ofSize(6001)}
	for _, src := range programsForMemory() {
		if list, _ := impl.Parse(src); len(list) > 0 {
			out = append(out, list)
			other := cloneFuncs(list)
			other[len(other)-1].Body.Kids = append(other[len(other)-1].Body.Kids, impl.Node{Op: 99})
			out = append(out, other)
		}
	}
	return out
}

// withRoomBehind are the same functions, with something in the spare room of each list.
func withRoomBehind(list []impl.Func) []impl.Func {
	out := make([]impl.Func, 0, len(list)+1)
	for _, f := range list {
		params := append(slices.Clone(f.Params), impl.Param{Name: "behind", Chan: true})[:len(f.Params)]
		out = append(out, impl.Func{Name: f.Name, Params: params, Body: roomyNode(f.Body)})
	}
	return append(out, impl.Func{Name: "behind"})[:len(list)]
}

func roomBehindIsKept(list []impl.Func) bool {
	for _, f := range list {
		if f.Params[:len(f.Params)+1][len(f.Params)] != (impl.Param{Name: "behind", Chan: true}) || !roomIsKept(f.Body) {
			return false
		}
	}
	return list[:len(list)+1][len(list)].Name == "behind"
}

func TestWriteAndTidyWriteNowhere(t *testing.T) {
	for _, list := range listsForMemory() {
		was, text := impl.Tidy(list), impl.Write(list)
		roomy := withRoomBehind(list)
		kept := cloneFuncs(roomy)
		if impl.Tidy(roomy) != was || impl.Write(roomy) != text {
			t.Errorf("%s is answered otherwise with room behind its lists", clip(list))
		}
		if !slices.EqualFunc(roomy, kept, sameFunc) || !roomBehindIsKept(roomy) {
			t.Errorf("%s is written into", clip(list))
		}
	}
}

func TestWriteAnswersTheSameAgain(t *testing.T) {
	for _, list := range listsForMemory() {
		was, text := impl.Tidy(list), impl.Write(list)
		impl.Write(manyFunctions(3))
		impl.Tidy([]impl.Func{{}})
		impl.Write([]impl.Func{{}})
		for range 3 {
			if impl.Tidy(list) != was || impl.Write(list) != text {
				t.Errorf("%s is answered otherwise when it is asked again", clip(list))
			}
		}
	}
}

// A text stays as it is when what it was written from is turned, and lies in memory of its own.
func TestEachTextIsItsOwn(t *testing.T) {
	for _, list := range listsForMemory() {
		list = cloneFuncs(list)
		text, other := impl.Write(list), impl.Write(list)
		kept := strings.Clone(text)
		if text != "" && unsafe.StringData(text) == unsafe.StringData(other) {
			t.Errorf("two texts of %s lie in one place", clip(list))
		}
		for i := range list {
			list[i].Name = "spoilt"
		}
		spoilFuncs(list, false)
		if text != kept || other != kept {
			t.Errorf("%.60q is turned with what it was written from", kept)
		}
	}
}

func TestWrittenSideBySide(t *testing.T) {
	lists := listsForMemory()
	var texts []string
	for _, list := range lists {
		texts = append(texts, impl.Write(list))
	}
	var group sync.WaitGroup
	wrong := make([]int, 8)
	for worker := range wrong {
		group.Go(func() {
			for i, list := range lists {
				if impl.Write(list) != texts[i] || impl.Tidy(list) != (texts[i] != "" || len(list) == 0) {
					wrong[worker]++
				}
			}
		})
	}
	group.Wait()
	if !slices.Equal(wrong, make([]int, 8)) {
		t.Errorf("answers side by side are others: %v", wrong)
	}
}
