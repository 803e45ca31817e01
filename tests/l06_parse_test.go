package tests

import (
	"math/rand/v2"
	"slices"
	"strconv"
	"strings"
	"testing"
	"unsafe"

	"loop.example/g00286/impl"
)

func node(op int, kids ...impl.Node) impl.Node { return impl.Node{Op: op, Kids: kids} }

func named(op int, s string, kids ...impl.Node) impl.Node {
	return impl.Node{Op: op, S: s, Kids: kids}
}

func lit(n int) impl.Node { return impl.Node{Op: impl.NdNum, N: n} }

func vr(s string) impl.Node { return impl.Node{Op: impl.NdVar, S: s} }

func blk(kids ...impl.Node) impl.Node { return node(impl.NdBlock, kids...) }

func fn(name string, params []impl.Param, kids ...impl.Node) impl.Func {
	return impl.Func{Name: name, Params: params, Body: blk(kids...)}
}

func sameNode(a, b impl.Node) bool {
	return a.Op == b.Op && a.S == b.S && a.N == b.N && slices.EqualFunc(a.Kids, b.Kids, sameNode)
}

func sameFunc(a, b impl.Func) bool {
	return a.Name == b.Name && slices.Equal(a.Params, b.Params) && sameNode(a.Body, b.Body)
}

func cloneNode(n impl.Node) impl.Node {
	n.Kids = slices.Clone(n.Kids)
	for i, k := range n.Kids {
		n.Kids[i] = cloneNode(k)
	}
	return n
}

func cloneFuncs(list []impl.Func) []impl.Func {
	list = slices.Clone(list)
	for i, f := range list {
		list[i] = impl.Func{Name: f.Name, Params: slices.Clone(f.Params), Body: cloneNode(f.Body)}
	}
	return list
}

// checkParse holds Parse, and Deep and Size of what it tells, against the model.
func checkParse(t *testing.T, src string) ([]impl.Func, int) {
	t.Helper()
	got, bad := impl.Parse(src)
	want, wantBad := wantParse(src)
	if bad != wantBad || !slices.EqualFunc(got, want, sameFunc) {
		t.Errorf("Parse(%.200q) = %s, %d, not %s, %d", src, clip(got), bad, clip(want), wantBad)
	}
	checkMeasures(t, got)
	return got, bad
}

func checkMeasures(t *testing.T, list []impl.Func) {
	t.Helper()
	size := 0
	for _, f := range list {
		size += modelSize(f.Body)
		if got, want := impl.Deep(f.Body), modelDeep(f.Body); got != want {
			t.Errorf("Deep of %s is %d, not %d", clip(f.Body), got, want)
		}
	}
	if got := impl.Size(list); got != size {
		t.Errorf("Size of %s is %d, not %d", clip(list), got, size)
	}
}

func wantFuncs(t *testing.T, src string, want ...impl.Func) {
	t.Helper()
	if got, bad := checkParse(t, src); bad != -1 || !slices.EqualFunc(got, want, sameFunc) {
		t.Errorf("Parse(%.200q) = %s, %d, not %s, -1", src, clip(got), bad, clip(want))
	}
}

func wantNothing(t *testing.T, src string, place int) {
	t.Helper()
	if got, bad := checkParse(t, src); len(got) != 0 || bad != place {
		t.Errorf("Parse(%.200q) = %s, %d, not nothing, %d", src, clip(got), bad, place)
	}
}

// wantMisfit is of a text in which `^` stands ahead of the token that does not fit.
func wantMisfit(t *testing.T, marked string) {
	t.Helper()
	if strings.Count(marked, "^") != 1 {
		t.Fatalf("%q is not marked once", marked)
	}
	wantNothing(t, strings.Replace(marked, "^", "", 1), strings.Index(marked, "^"))
}

// wantBody is of statements, by themselves and within the blocks of others.
func wantBody(t *testing.T, text string, kids ...impl.Node) {
	t.Helper()
	wantFuncs(t, "func f() { "+text+" }", fn("f", nil, kids...))
	wantFuncs(t, "func f(){while a{"+text+"}}", fn("f", nil, node(impl.NdWhile, vr("a"), blk(kids...))))
	wantFuncs(t, "func f() { select { default { "+text+" } } }", fn("f", nil, node(impl.NdSelect, node(impl.NdElse, blk(kids...)))))
}

// wantExpr is of an e, wherever one may stand.
func wantExpr(t *testing.T, text string, e impl.Node) {
	t.Helper()
	wantBody(t, "print "+text+";", node(impl.NdPrint, e))
	wantBody(t, "let x = "+text+";", named(impl.NdLet, "x", e))
	wantBody(t, "x="+text+";", named(impl.NdSet, "x", e))
	wantBody(t, "(x)=("+text+");", named(impl.NdSet, "x", e))
	wantBody(t, text+";", node(impl.NdDo, e))
	wantBody(t, "if "+text+"{ }", node(impl.NdIf, e, blk()))
	wantBody(t, "while "+text+" { }", node(impl.NdWhile, e, blk()))
	wantBody(t, "send "+text+","+text+";", node(impl.NdSend, e, e))
	wantBody(t, "select { case send "+text+", "+text+" { } case recv q, "+text+" { } }",
		node(impl.NdSelect, node(impl.NdGive, e, e, blk()), named(impl.NdTake, "q", e, blk())))
	wantBody(t, "go g("+text+", "+text+");", named(impl.NdGo, "g", e, e))
	wantBody(t, "return g("+text+", (("+text+")), 1);", node(impl.NdReturn, named(impl.NdCall, "g", e, e, lit(1))))
	wantBody(t, "return cas("+text+","+text+", "+text+") * ("+text+");", node(impl.NdReturn, node(impl.NdMul, node(impl.NdCas, e, e, e), e)))
}

func TestParseConstants(t *testing.T) {
	if impl.MaxFuncs != 40 || impl.MaxDeep != 20 {
		t.Errorf("limits are %d and %d", impl.MaxFuncs, impl.MaxDeep)
	}
	ops := []int{impl.NdBlock, impl.NdLet, impl.NdSet, impl.NdIf, impl.NdWhile, impl.NdPrint, impl.NdReturn, impl.NdGo, impl.NdSend, impl.NdRecv, impl.NdClose, impl.NdSelect,
		impl.NdPoke, impl.NdNote, impl.NdSwap, impl.NdHalt, impl.NdOut, impl.NdDo, impl.NdNum, impl.NdVar, impl.NdAdd, impl.NdSub, impl.NdMul, impl.NdLess, impl.NdSame,
		impl.NdCall, impl.NdMake, impl.NdPeek, impl.NdCas, impl.NdCore, impl.NdAddr, impl.NdTake, impl.NdGive, impl.NdElse}
	for i, op := range ops {
		if op != i+1 {
			t.Errorf("op %d is %d", i+1, op)
		}
	}
	if len(ops) != 34 {
		t.Errorf("%d ops", len(ops))
	}
}

func TestParseOfFunctions(t *testing.T) {
	for _, src := range []string{"", " ", "\n", "  \n \n", strings.Repeat(" ", 6000)} {
		wantFuncs(t, src)
	}
	wantFuncs(t, "func f() { }", fn("f", nil))
	wantFuncs(t, "\n func\nf(\n){}\n", fn("f", nil))
	wantFuncs(t, "func f(){}func g(){}", fn("f", nil), fn("g", nil))
	wantFuncs(t, "func f() { } func f() { } func main() { return 1; }", fn("f", nil), fn("f", nil), fn("main", nil, node(impl.NdReturn, lit(1))))
	wantFuncs(t, "func f(a) { }", fn("f", []impl.Param{{Name: "a"}}))
	wantFuncs(t, "func f(a chan) { }", fn("f", []impl.Param{{Name: "a", Chan: true}}))
	wantFuncs(t, "func f(a,a) { }", fn("f", []impl.Param{{Name: "a"}, {Name: "a"}}))
	wantFuncs(t, "func Func(a, b chan, cc, d chan) { a; } func g(abcdefghij chan, k) { }",
		fn("Func", []impl.Param{{Name: "a"}, {Name: "b", Chan: true}, {Name: "cc"}, {Name: "d", Chan: true}}, node(impl.NdDo, vr("a"))),
		fn("g", []impl.Param{{Name: "abcdefghij", Chan: true}, {Name: "k"}}))
	wantFuncs(t, "func f(a, b, c, d, e, g, h chan, i, j) { }",
		fn("f", []impl.Param{{Name: "a"}, {Name: "b"}, {Name: "c"}, {Name: "d"}, {Name: "e"}, {Name: "g"}, {Name: "h", Chan: true}, {Name: "i"}, {Name: "j"}}))
}

func TestParseOfStatements(t *testing.T) {
	wantBody(t, "")
	wantBody(t, "let x = 1;", named(impl.NdLet, "x", lit(1)))
	wantBody(t, "let x=y;let y = x;", named(impl.NdLet, "x", vr("y")), named(impl.NdLet, "y", vr("x")))
	wantBody(t, "x = 2;", named(impl.NdSet, "x", lit(2)))
	wantBody(t, "print 3;", node(impl.NdPrint, lit(3)))
	wantBody(t, "return 4;", node(impl.NdReturn, lit(4)))
	wantBody(t, "return(x);return-1;", node(impl.NdReturn, vr("x")), node(impl.NdReturn, lit(-1)))
	wantBody(t, "go g();", named(impl.NdGo, "g"))
	wantBody(t, "go g(1);", named(impl.NdGo, "g", lit(1)))
	wantBody(t, "go g(1, x, h(2), 4, 5);", named(impl.NdGo, "g", lit(1), vr("x"), named(impl.NdCall, "h", lit(2)), lit(4), lit(5)))
	wantBody(t, "send c, 5;", node(impl.NdSend, vr("c"), lit(5)))
	wantBody(t, "recv x, c;", named(impl.NdRecv, "x", vr("c")))
	wantBody(t, "recv x, make(1);", named(impl.NdRecv, "x", node(impl.NdMake, lit(1))))
	wantBody(t, "close c;", node(impl.NdClose, vr("c")))
	wantBody(t, "poke 1, 2;", node(impl.NdPoke, lit(1), lit(2)))
	wantBody(t, "note 3, 4;", node(impl.NdNote, lit(3), lit(4)))
	wantBody(t, "swap 5, 6;", node(impl.NdSwap, lit(5), lit(6)))
	wantBody(t, "halt 7;", node(impl.NdHalt, lit(7)))
	wantBody(t, "out 8;", node(impl.NdOut, lit(8)))
	wantBody(t, "g(9);", node(impl.NdDo, named(impl.NdCall, "g", lit(9))))
	wantBody(t, "9; x; make(0); core(); addr g; -3; (1);", node(impl.NdDo, lit(9)), node(impl.NdDo, vr("x")), node(impl.NdDo, node(impl.NdMake, lit(0))),
		node(impl.NdDo, node(impl.NdCore)), node(impl.NdDo, named(impl.NdAddr, "g")), node(impl.NdDo, lit(-3)), node(impl.NdDo, lit(1)))
}

func TestParseOfBlocks(t *testing.T) {
	one, two := node(impl.NdPrint, lit(1)), node(impl.NdPrint, lit(2))
	wantBody(t, "if x { }", node(impl.NdIf, vr("x"), blk()))
	wantBody(t, "if x { print 1; } print 2;", node(impl.NdIf, vr("x"), blk(one)), two)
	wantBody(t, "if x { } else { }", node(impl.NdIf, vr("x"), blk(), blk()))
	wantBody(t, "if x { print 1; } else { print 2; print 1; }", node(impl.NdIf, vr("x"), blk(one), blk(two, one)))
	wantBody(t, "if x { if y { print 1; } else { print 2; } }", node(impl.NdIf, vr("x"), blk(node(impl.NdIf, vr("y"), blk(one), blk(two)))))
	wantBody(t, "if x { if y { print 1; } } else { print 2; }", node(impl.NdIf, vr("x"), blk(node(impl.NdIf, vr("y"), blk(one))), blk(two)))
	wantBody(t, "if x { } else { if y { } else { print 2; } }", node(impl.NdIf, vr("x"), blk(), blk(node(impl.NdIf, vr("y"), blk(), blk(two)))))
	wantBody(t, "while x { }", node(impl.NdWhile, vr("x"), blk()))
	wantBody(t, "while x < 3 { print 1; x = x + 1; } print 2;",
		node(impl.NdWhile, node(impl.NdLess, vr("x"), lit(3)), blk(one, named(impl.NdSet, "x", node(impl.NdAdd, vr("x"), lit(1))))), two)
}

func TestParseOfSelect(t *testing.T) {
	one, two := node(impl.NdPrint, lit(1)), node(impl.NdPrint, lit(2))
	take := named(impl.NdTake, "x", vr("c"), blk(one))
	give := node(impl.NdGive, vr("d"), lit(4), blk(two))
	other := node(impl.NdElse, blk(one, two))
	wantBody(t, "select { }", node(impl.NdSelect))
	wantBody(t, "select{}print 1;", node(impl.NdSelect), one)
	wantBody(t, "select { case recv x, c { print 1; } }", node(impl.NdSelect, take))
	wantBody(t, "select { case send d, 4 { print 2; } }", node(impl.NdSelect, give))
	wantBody(t, "select { case recv x, c { print 1; } case send d, 4 { print 2; } }", node(impl.NdSelect, take, give))
	wantBody(t, "select { case send d, 4 { print 2; } case recv x, c { print 1; } default { print 1; print 2; } } print 2;", node(impl.NdSelect, give, take, other), two)
	wantBody(t, "select { default { } }", node(impl.NdSelect, node(impl.NdElse, blk())))
	wantBody(t, "select { case recv x, c { } default { } }", node(impl.NdSelect, named(impl.NdTake, "x", vr("c"), blk()), node(impl.NdElse, blk())))
	five := strings.Repeat("case recv x, c { print 1; } ", 5)
	wantBody(t, "select { "+five+"}", node(impl.NdSelect, take, take, take, take, take))
	wantBody(t, "select { case recv x, c { select { case send d, 4 { print 2; } } } }", node(impl.NdSelect, named(impl.NdTake, "x", vr("c"), blk(node(impl.NdSelect, give)))))
}

// `default` stands at the end: nothing but `}` is behind it.
func TestWhatIsBehindDefault(t *testing.T) {
	wantMisfit(t, "func f() { select { default { } ^case recv x, c { } } }")
	wantMisfit(t, "func f() { select { default { } ^case send c, 1 { } } }")
	wantMisfit(t, "func f() { select { default { } ^default { } } }")
	wantMisfit(t, "func f() { select { case recv x, c { } default { print 1; } ^case recv x, c { } default { } } }")
	wantMisfit(t, "func f() { select { case send c, 2 { } default { } ^default { } } }")
	wantMisfit(t, "func f() { select { default { } ^; } }")
	wantMisfit(t, "func f() { select { default { } ^print 1; } }")
	wantMisfit(t, "func f() { select { default { }^")
}

func TestParseOfExprs(t *testing.T) {
	for _, k := range []struct {
		text string
		e    impl.Node
	}{
		{"0", lit(0)}, {"1", lit(1)}, {"2147483647", lit(2147483647)},
		{"-1", lit(-1)}, {"- 1", lit(-1)}, {"-\n1", lit(-1)}, {"-0", lit(0)}, {"-2147483647", lit(-2147483647)},
		{"x", vr("x")}, {"abcdefghij", vr("abcdefghij")}, {"X", vr("X")}, {"Let", vr("Let")}, {"lets", vr("lets")},
		{"(x)", vr("x")}, {"(((x)))", vr("x")}, {"(-1)", lit(-1)}, {"( 7 )", lit(7)},
		{"make(x)", node(impl.NdMake, vr("x"))}, {"make ( 8 )", node(impl.NdMake, lit(8))},
		{"peek(1)", node(impl.NdPeek, lit(1))}, {"cas(1,2,3)", node(impl.NdCas, lit(1), lit(2), lit(3))},
		{"core()", node(impl.NdCore)}, {"core ( )", node(impl.NdCore)},
		{"addr f", named(impl.NdAddr, "f")}, {"addr\nmain", named(impl.NdAddr, "main")},
		{"g()", named(impl.NdCall, "g")}, {"g (1)", named(impl.NdCall, "g", lit(1))}, {"g(1,2)", named(impl.NdCall, "g", lit(1), lit(2))},
		{"g(1, x, g(), g(2), 3, 4)", named(impl.NdCall, "g", lit(1), vr("x"), named(impl.NdCall, "g"), named(impl.NdCall, "g", lit(2)), lit(3), lit(4))},
		{"g(a<b)", named(impl.NdCall, "g", node(impl.NdLess, vr("a"), vr("b")))},
		{"peek(peek(core()))", node(impl.NdPeek, node(impl.NdPeek, node(impl.NdCore)))},
		{"cas(cas(1,2,3),addr f,make(0))", node(impl.NdCas, node(impl.NdCas, lit(1), lit(2), lit(3)), named(impl.NdAddr, "f"), node(impl.NdMake, lit(0)))},
	} {
		wantExpr(t, k.text, k.e)
	}
}

func TestWhatIsWithinWhat(t *testing.T) {
	a, b, c, d := vr("a"), vr("b"), vr("c"), vr("d")
	add, sub, mul, less, same := impl.NdAdd, impl.NdSub, impl.NdMul, impl.NdLess, impl.NdSame
	for _, k := range []struct {
		text string
		e    impl.Node
	}{
		{"a+b", node(add, a, b)}, {"a-b", node(sub, a, b)}, {"a*b", node(mul, a, b)}, {"a<b", node(less, a, b)}, {"a==b", node(same, a, b)},
		{"a+b+c", node(add, node(add, a, b), c)}, {"a-b-c", node(sub, node(sub, a, b), c)}, {"a*b*c", node(mul, node(mul, a, b), c)},
		{"a-b+c-d", node(sub, node(add, node(sub, a, b), c), d)}, {"a+b-c+d", node(add, node(sub, node(add, a, b), c), d)},
		{"a+(b+c)", node(add, a, node(add, b, c))}, {"a-(b-c)", node(sub, a, node(sub, b, c))}, {"a*(b*c)", node(mul, a, node(mul, b, c))},
		{"(a+b)+c", node(add, node(add, a, b), c)}, {"(a+b)+(c+d)", node(add, node(add, a, b), node(add, c, d))},
		{"a+b*c", node(add, a, node(mul, b, c))}, {"a*b+c", node(add, node(mul, a, b), c)}, {"a*b-c*d", node(sub, node(mul, a, b), node(mul, c, d))},
		{"(a+b)*c", node(mul, node(add, a, b), c)}, {"a*(b-c)", node(mul, a, node(sub, b, c))}, {"a+b*c*d", node(add, a, node(mul, node(mul, b, c), d))},
		{"a+b<c+d", node(less, node(add, a, b), node(add, c, d))}, {"a*b==c-d", node(same, node(mul, a, b), node(sub, c, d))},
		{"a<b*c+d", node(less, a, node(add, node(mul, b, c), d))}, {"a+(b<c)", node(add, a, node(less, b, c))}, {"(a==b)*c", node(mul, node(same, a, b), c)},
		{"(a<b)<c", node(less, node(less, a, b), c)}, {"a==(b<c)", node(same, a, node(less, b, c))}, {"(a<b)==(c<d)", node(same, node(less, a, b), node(less, c, d))},
		{"a-1", node(sub, a, lit(1))}, {"a -1", node(sub, a, lit(1))}, {"a - -1", node(sub, a, lit(-1))}, {"a--1", node(sub, a, lit(-1))}, {"a+-1", node(add, a, lit(-1))},
		{"-1-1", node(sub, lit(-1), lit(1))}, {"-1--1", node(sub, lit(-1), lit(-1))}, {"-1*a", node(mul, lit(-1), a)}, {"a*-1", node(mul, a, lit(-1))}, {"a*-1-b", node(sub, node(mul, a, lit(-1)), b)},
		{"1<-1", node(less, lit(1), lit(-1))}, {"-1==-1", node(same, lit(-1), lit(-1))}, {"a-2147483647", node(sub, a, lit(2147483647))}, {"0-2147483647-1", node(sub, node(sub, lit(0), lit(2147483647)), lit(1))},
		{"g(a)*g(b)+core()", node(add, node(mul, named(impl.NdCall, "g", a), named(impl.NdCall, "g", b)), node(impl.NdCore))},
		{"addr g+1", node(add, named(impl.NdAddr, "g"), lit(1))}, {"18+core()*40", node(add, lit(18), node(mul, node(impl.NdCore), lit(40)))},
	} {
		wantExpr(t, k.text, k.e)
	}
}

func TestANumberWithItsSign(t *testing.T) {
	for _, text := range []string{"-^x", "-^-1", "-^(1)", "-^;", "-^g()", "-^core()", "-^make(1)", "-^addr f", "- ^* 2", "-^)", "-^let", "a - ^* b", "a--^x", "a--^-1", "a-^;"} {
		wantMisfit(t, "func f() { print "+text+"; }")
	}
	wantMisfit(t, "func f() { -^")
	wantNothing(t, "func f() { print -2147483648; }", 18)
	wantNothing(t, "func f() { print a-2147483648; }", 19)
	wantNothing(t, "func f() { print 2147483648; }", 17)
	wantMisfit(t, "func f() { print ^+1; }")
	wantMisfit(t, "func f() { print ^*1; }")
}

func TestNamesThatAreSet(t *testing.T) {
	for _, text := range []string{"x = 1;", "x=1;", "(x) = 1;", "((x))=1;", "( ( ( x ) ) ) = (1);", strings.Repeat("(", 500) + "x" + strings.Repeat(")", 500) + "=1;"} {
		wantBody(t, text, named(impl.NdSet, "x", lit(1)))
	}
	wantBody(t, "x == 1;", node(impl.NdDo, node(impl.NdSame, vr("x"), lit(1))))
	wantBody(t, "(x) == 1;", node(impl.NdDo, node(impl.NdSame, vr("x"), lit(1))))
	wantBody(t, "x = y == 1;", named(impl.NdSet, "x", node(impl.NdSame, vr("y"), lit(1))))
	wantBody(t, "(x);", node(impl.NdDo, vr("x")))
	for _, text := range []string{
		"1 ^= 2;", "-1 ^= 2;", "(1) ^= 2;", "f(x) ^= 2;", "f() ^= 2;", "x + 1 ^= 2;", "(x + 1) ^= 2;", "x * y ^= 2;", "x < y ^= 2;", "x == y ^= 2;", "(x == y) ^= 2;",
		"make(1) ^= 2;", "peek(1) ^= 2;", "cas(1,2,3) ^= 4;", "core() ^= 5;", "addr x ^= 6;", "(x ^= 1);", "x = y ^= 1;", "(x) = (y) ^= 1;", "x = ^= 1;", "x = ^;", "(x) = ^;", "x == ^= 1;",
		"x + (x) ^= 1;", "(x)^(1) = 2;", "(x) ^x = 2;", "print x ^= 1;", "let ^(x) = 1;", "return x ^= 1;", "let x ^== 1;", "let x = ^= 1;", "let x = y ^= 1;",
	} {
		wantMisfit(t, "func f() { "+text+" }")
	}
}

func TestHowManyExprsAreTaken(t *testing.T) {
	for word, takes := range map[string]int{"make": 1, "peek": 1, "cas": 3, "core": 0} {
		for count := range 6 {
			es := strings.TrimSuffix(strings.Repeat("1, ", count), ", ")
			if count == takes {
				if _, bad := checkParse(t, "func f() { print "+word+"("+es+"); }"); bad != -1 {
					t.Errorf("%s with %d exprs does not fit at %d", word, count, bad)
				}
				continue
			}
			wantMisfit(t, "func f() { print "+word+"^("+es+"); }")
			wantMisfit(t, "func f() { print "+word+" \n ^( "+es+" )")
			wantMisfit(t, "func f() { print g(1, "+word+"^("+es+") ")
			wantMisfit(t, "func f() { "+word+"^("+es+") = 1; }")
			wantMisfit(t, "func f() { 1 + "+word+" ^("+es+") let }")
			wantMisfit(t, "func f() { while "+word+"^("+es+") { } } func")
		}
		wantMisfit(t, "func f() { print "+word+"^; }")
		wantMisfit(t, "func f() { print "+word+" ^1; }")
		wantMisfit(t, "func f() { print "+word+" ^x(1); }")
		wantMisfit(t, "func f() { print "+word+"^")
		wantMisfit(t, "func f() { print "+word+"(^")
		wantMisfit(t, "func f() { print "+word+"(^, 1); }")
		wantMisfit(t, "func f() { print "+word+"(1, ^); }")
		wantMisfit(t, "func f() { print "+word+"(1 ^1); }")
		wantMisfit(t, "func f() { print "+word+"(1, 1, 1, 1^; }")
		wantMisfit(t, "func f() { print "+word+"(1, 1, 1, 1^")
		wantMisfit(t, "func f() { print "+word+"(^let); }")
	}
}

// What ends first is told first: of two within each other the inner one.
func TestTwoThatTakeOthers(t *testing.T) {
	wantMisfit(t, "func f() { print make(core^(1), 2); }")
	wantMisfit(t, "func f() { print cas(peek(1), make^()); }")
	wantMisfit(t, "func f() { print cas^(peek(1), make(1)) + core(1); }")
	wantMisfit(t, "func f() { print make^(); print core(1); }")
	wantMisfit(t, "func f() { print core^(g(1, 2), 3); }")
	wantMisfit(t, "func f() { print peek^(g(1, 2), 3); }")
	wantMisfit(t, "func f() { print make(peek^(core(), 1), ")
	wantMisfit(t, "func f() { print cas(1, 2, (^)); }")
}

func TestAddr(t *testing.T) {
	wantMisfit(t, "func f() { print addr ^; }")
	wantMisfit(t, "func f() { print addr ^(f); }")
	wantMisfit(t, "func f() { print addr ^1; }")
	wantMisfit(t, "func f() { print addr ^addr f; }")
	wantMisfit(t, "func f() { print addr f^(); }")
	wantMisfit(t, "func f() { print addr f^(1); }")
	wantMisfit(t, "func f() { print addr f ^g; }")
	wantMisfit(t, "func f() { print addr^")
	for _, s := range everyKeyword {
		wantMisfit(t, "func f() { print addr ^"+s+"; }")
	}
}

// Each word is taken away, doubled, and followed by others, in the text of each kind of statement and e.
func wholeTexts() []string {
	return []string{
		"func f ( a , b chan , c ) { }",
		"func f ( ) { let x = 1 ; }",
		"func f ( ) { x = 1 ; }",
		"func f ( ) { ( x ) = 1 ; }",
		"func f ( ) { if x { } }",
		"func f ( ) { if x { } else { } }",
		"func f ( ) { while x { } }",
		"func f ( ) { print x ; }",
		"func f ( ) { return x ; }",
		"func f ( ) { go g ( 1 , x ) ; }",
		"func f ( ) { send c , 1 ; }",
		"func f ( ) { recv x , c ; }",
		"func f ( ) { close c ; }",
		"func f ( ) { select { case recv x , c { } case send c , 1 { } default { } } }",
		"func f ( ) { poke 1 , 2 ; note 1 , 2 ; swap 1 , 2 ; }",
		"func f ( ) { halt 1 ; out 2 ; }",
		"func f ( ) { g ( 1 ) ; x ; }",
		"func f ( ) { print 1 + 2 * a - - 3 < ( b == 4 ) ; }",
		"func f ( ) { print make ( 1 ) + peek ( 2 ) + cas ( 1 , 2 , 3 ) + core ( ) + addr g ; }",
		"func f ( ) { print g ( ) + g ( h ( 1 ) , x ) ; } func g ( ) { }",
	}
}

func everyWord() []string {
	return slices.Concat(everySign, everyKeyword, []string{"x", "f", "main", "abcdefghij", "0", "7", "2147483647"})
}

func TestEachWordAtEachPlace(t *testing.T) {
	for _, text := range wholeTexts() {
		words := strings.Fields(text)
		if _, bad := checkParse(t, text); bad != -1 {
			t.Errorf("%q does not fit at %d", text, bad)
		}
		for i := range len(words) + 1 {
			checkParse(t, strings.Join(words[:i], " "))
			checkParse(t, strings.Join(words[:i], "\n")+" ")
			if i < len(words) {
				checkParse(t, strings.Join(slices.Delete(slices.Clone(words), i, i+1), " "))
			}
			for _, w := range everyWord() {
				checkParse(t, strings.Join(slices.Insert(slices.Clone(words), i, w), " "))
				if i < len(words) {
					other := slices.Clone(words)
					other[i] = w
					checkParse(t, strings.Join(other, " "))
				}
			}
		}
	}
}

// A text that ends ahead of its end does not fit there, whatever blanks are behind it.
func TestTextsThatEndTooEarly(t *testing.T) {
	for _, text := range wholeTexts() {
		words := strings.Fields(text)
		for i := 1; i < len(words); i++ {
			if words[i] == "func" {
				continue
			}
			src := strings.Join(words[:i], " ")
			wantNothing(t, src, len(src))
			wantNothing(t, src+" \n ", len(src)+3)
		}
	}
}

func TestWhereItDoesNotFit(t *testing.T) {
	for _, text := range []string{
		"^f", "^1", "^;", "^{ }", "^}", "^let x = 1;", "^chan", "^else", "func ^", "func ^func", "func ^1", "func ^(", "func f^", "func f ^{ }", "func f ^a)", "func f ^= 1;",
		"func f(^", "func f(^1)", "func f(^, a) { }", "func f(a, ^) { }", "func f(a, ^, b) { }", "func f(a ^b) { }", "func f(^chan) { }", "func f(^chan a) { }", "func f(a chan ^chan) { }", "func f(a chan ^b) { }",
		"func f(a ^= 1) { }", "func f(a ^+ b) { }", "func f(^(a)) { }", "func f(a)^", "func f(a) ^; { }", "func f(a) ^print 1;", "func f(a) ^= { }",
		"func f() { } ^}", "func f() { } ^; func g() { }", "func f() { } ^x", "func f() { } func ^{", "func f() { } ^1", "func f() { ^func g() { } }",
		"func f() { ^; }", "func f() { ^{ } }", "func f() { ^, }", "func f() { ^= 1; }", "func f() { ^) }", "func f() { ^< }", "func f() { ^== }", "func f() { ^+ 1; }",
		"func f() { let ^= 3; }", "func f() { let ^1 = 3; }", "func f() { let x ^3; }", "func f() { let x^; }", "func f() { let x = 3 ^}", "func f() { let x = 3 ^4; }", "func f() { let x = 3^, 4; }",
		"func f() { if ^{ } }", "func f() { if x ^; }", "func f() { if x ^print 1; }", "func f() { if x { } ^; }", "func f() { if x { } else ^; }", "func f() { if x { } else ^if x { } }", "func f() { if x { } else { } ^else { } }", "func f() { ^else { } }",
		"func f() { while ^{ } }", "func f() { while x ^; }", "func f() { while x { } ^else { } }", "func f() { while x { } ^; }",
		"func f() { print ^; }", "func f() { print 1^}", "func f() { print 1^, 2; }", "func f() { print ^print 1; }", "func f() { return ^; }", "func f() { return 1 ^2; }",
		"func f() { go ^; }", "func f() { go ^1(); }", "func f() { go g^; }", "func f() { go g()^}", "func f() { go g(^; }", "func f() { go g(1, ^); }", "func f() { go g(^, 1); }", "func f() { go g(1 ^2); }", "func f() { go g() ^+ 1; }", "func f() { go ^(g)(); }", "func f() { go ^make(1); }", "func f() { go ^core(); }",
		"func f() { send ^; }", "func f() { send c^; }", "func f() { send c, ^; }", "func f() { send c, 1^, 2; }", "func f() { send c ^1; }", "func f() { send ^, 1; }",
		"func f() { recv ^; }", "func f() { recv x^; }", "func f() { recv x, ^; }", "func f() { recv ^1, c; }", "func f() { recv ^(x), c; }", "func f() { recv x, c^, d; }", "func f() { recv x ^= c; }",
		"func f() { close ^; }", "func f() { close c^, d; }", "func f() { poke 1^; }", "func f() { poke 1, ^; }", "func f() { poke 1, 2^, 3; }", "func f() { note 1^; }", "func f() { swap 1^; }", "func f() { halt ^; }", "func f() { halt 1^, 2; }", "func f() { out ^; }", "func f() { out 1^, 2; }",
		"func f() { poke (1^, 2); }",
		"func f() { select ^; }", "func f() { select ^x { } }", "func f() { select { ^; } }", "func f() { select { ^recv x, c { } } }", "func f() { select { ^print 1; } }", "func f() { select { case ^; } }", "func f() { select { case ^x, c { } } }", "func f() { select { case ^default { } } }", "func f() { select { case ^case recv x, c { } } }",
		"func f() { select { case recv ^1, c { } } }", "func f() { select { case recv x ^c { } } }", "func f() { select { case recv x, ^{ } } }", "func f() { select { case recv x, c ^; } }", "func f() { select { case recv x, c ^} }", "func f() { select { case send c ^{ } } }", "func f() { select { case send c, ^{ } } }", "func f() { select { case send c, 1^; } }", "func f() { select { case send c, 1 { } ^; } }",
		"func f() { select { default ^; } }", "func f() { select { default ^} }", "func f() { select { } ^; }", "func f() { ^case recv x, c { } }", "func f() { ^default { } }", "func f() { ^chan; }", "func f() { select {^",
		"func f() { 1^}", "func f() { 1 ^2; }", "func f() { x ^y; }", "func f() { x ^1; }", "func f() { x ^{ } }", "func f() { x^, y; }", "func f() { x^) }", "func f() { (x^; }", "func f() { (^) }", "func f() { (1)^(2); }", "func f() { (1^, 2); }",
		"func f() { g(^; }", "func f() { g(1^; }", "func f() { g(1, ^); }", "func f() { g()^(); }", "func f() { 1^(2); }", "func f() { g(^let); }",
		"func f() { 1 + ^; }", "func f() { 1 * ^; }", "func f() { 1 < ^; }", "func f() { 1 == ^; }", "func f() { 1 + ^* 2; }", "func f() { 1 < ^== 2; }", "func f() { a < b ^< c; }", "func f() { a == b ^== c; }", "func f() { a < b ^== c; }", "func f() { a == b ^< c; }", "func f() { (a < b ^< c); }", "func f() { print a < b + c ^< d; }",
		"func f() { a <^= b; }", "func f() { a = ^= b; }",
	} {
		wantMisfit(t, text)
	}
}

func TestKeywordsAreNoNames(t *testing.T) {
	forms := []string{
		"func ^? () { }", "func f(^?) { }", "func f(a, ^?) { }", "func f() { let ^? = 1; }", "func f() { recv ^?, c; }", "func f() { go ^?(); }",
		"func f() { select { case recv ^?, c { } } }", "func f() { print addr ^?; }",
	}
	for _, form := range forms {
		for _, s := range everyKeyword {
			wantMisfit(t, strings.Replace(form, "?", s, 1))
		}
		for _, s := range append([]string{"x", "Func", "FUNC", "lets", "le", "mai", "defaulted", "Addr", "chann"}, nearNames()...) {
			src := strings.Replace(strings.Replace(form, "^", "", 1), "?", s, 1)
			if _, bad := checkParse(t, src); bad != -1 {
				t.Errorf("%q does not fit at %d", src, bad)
			}
		}
	}
	atoms := []string{"make", "peek", "cas", "core", "addr"}
	for _, s := range everyKeyword {
		if !slices.Contains(atoms, s) {
			wantMisfit(t, "func f() { print ^"+s+"; }")
			wantMisfit(t, "func f() { print ^"+s+"(1); }")
			wantMisfit(t, "func f() { print 1 + ^"+s+"; }")
			wantMisfit(t, "func f() { x = ^"+s+"; }")
		}
		wantMisfit(t, "func f() { x ^"+s+"; }")
	}
}

// nearNames are the names beside each keyword: a letter more or less.
func nearNames() []string {
	var out []string
	for _, s := range nearKeywords() {
		list, bad := wantTokens(s)
		if bad == -1 && len(list) == 2 && list[0].Kind == impl.TkName && list[0].Text == s && !slices.Contains(everyKeyword, s) {
			out = append(out, s)
		}
	}
	return out
}

func TestNamesWhereAKeywordMustBe(t *testing.T) {
	for _, s := range []string{"x", "Func", "fun", "functions"} {
		wantMisfit(t, "^"+s+" f() { }")
		wantMisfit(t, "func f() { } ^"+s+" g() { }")
		wantMisfit(t, "func f(a ^"+s+") { }")
		wantMisfit(t, "func f() { select { ^"+s+" recv x, c { } } }")
		wantMisfit(t, "func f() { select { case ^"+s+" x, c { } } }")
		wantMisfit(t, "func f() { if x { } "+s+" ^{ } }")
		wantMisfit(t, "func f() { "+s+" ^1; }")
		wantMisfit(t, "func f() { "+s+" ^x = 1; }")
	}
}

func TestWhereTokensTellIt(t *testing.T) {
	wantNothing(t, "#", 0)
	wantNothing(t, "func f() { } #", 13)
	wantNothing(t, "func f() { let = 3; #", 20)
	wantNothing(t, "let let let 007", 12)
	wantNothing(t, "func f() { abcdefghijk = 1; }", 11)
	wantNothing(t, "func f() { print 01; }", 17)
	wantNothing(t, "func\tf() { }", 4)
	wantNothing(t, "make( \xff", 6)
	wantNothing(t, "func f() { }"+strings.Repeat(" ", 5989), 0)
	wantNothing(t, "func f() { } ; "+strings.Repeat(" ", 6000), 0)
	wantNothing(t, "x"+strings.Repeat(" ", 6000)+"#", 6001)
}

func TestParseOfFullSources(t *testing.T) {
	wantFuncs(t, "func f() { }"+strings.Repeat(" ", 5988), fn("f", nil))
	wantFuncs(t, strings.Repeat("\n", 5988)+"func f() { }", fn("f", nil))
	wantMisfit(t, strings.Repeat(" ", 5999)+"^x")
	wantMisfit(t, "func f() {"+strings.Repeat(" ", 5990)+"^")
	many := strings.Repeat("x=1;", 1496)
	got, bad := checkParse(t, "func f() { "+many+" }")
	if bad != -1 || len(got) != 1 || len(got[0].Body.Kids) != 1496 || impl.Size(got) != 1+1496*2 {
		t.Errorf("many statements: %d", bad)
	}
	if got, bad := checkParse(t, "func f() { g("+strings.Repeat("1,", 2990)+"1);}"); bad != -1 || len(got[0].Body.Kids[0].Kids[0].Kids) != 2991 {
		t.Errorf("many args: %d", bad)
	}
	if got, bad := checkParse(t, "func f("+strings.Repeat("a,", 2900)+"a){}"); bad != -1 || len(got[0].Params) != 2901 {
		t.Errorf("many params: %d", bad)
	}
}

// functions is that many of them.
func functions(count int) string { return strings.Repeat("func f() { return 1; }\n", count) }

func TestHowManyFunctions(t *testing.T) {
	for _, count := range []int{0, 1, 2, 39, 40} {
		if got, bad := checkParse(t, functions(count)); bad != -1 || len(got) != count || impl.Size(got) != 3*count {
			t.Errorf("%d functions are %d, %d", count, len(got), bad)
		}
	}
	for _, count := range []int{41, 42, 80, 250} {
		wantNothing(t, functions(count), 0)
	}
	wantNothing(t, strings.Repeat("func f(){}", 600), 0)
}

// What does not fit counts ahead of the limits, wherever it stands.
func TestLimitsBesideWhatDoesNotFit(t *testing.T) {
	deep := "func d() { print " + strings.Repeat("1+", 30) + "1; }"
	for _, over := range []string{functions(41), functions(100), deep, deep + functions(41), functions(3) + deep} {
		wantNothing(t, over, 0)
		wantMisfit(t, over+"^x")
		wantMisfit(t, over+"func f() {^")
		wantMisfit(t, over+"func f() { print ^; }")
		wantMisfit(t, over+"func f() { print core^(1); } "+over)
		wantMisfit(t, "func f() { ^; } "+over)
		wantNothing(t, over+"#", len(over))
		wantNothing(t, over+strings.Repeat(" ", 6001), 0)
	}
}

// chainsOf are a sum, products, calls and others, each that many nodes deep.
func chainsOf(deep int) map[string]string {
	out := map[string]string{
		"sum":      strings.Repeat("1+", deep-1) + "1",
		"less":     strings.Repeat("1-", max(deep-2, 0)) + "1<2",
		"product":  strings.Repeat("x*", deep-1) + "x",
		"to right": strings.Repeat("1+(", deep-1) + "1" + strings.Repeat(")", deep-1),
		"call":     strings.Repeat("g(", deep-1) + "1" + strings.Repeat(")", deep-1),
		"no args":  strings.Repeat("g(", deep-1) + "g()" + strings.Repeat(")", deep-1),
		"peek":     strings.Repeat("peek(", deep-1) + "core()" + strings.Repeat(")", deep-1),
		"cas":      strings.Repeat("cas(1,2,", deep-1) + "-3" + strings.Repeat(")", deep-1),
		"brackets": strings.Repeat("((", deep) + strings.Repeat("1-", deep-1) + "1" + strings.Repeat("))", deep),
	}
	if deep == 1 {
		delete(out, "less")
	}
	return out
}

func TestHowDeepABodyIs(t *testing.T) {
	frames := []struct {
		text string
		deep int
	}{
		{"func f() { print ?; }", 2}, {"func f() { ?; }", 2}, {"func f() { send c, ?; }", 2}, {"func f() { print 1; return ?; }", 2}, {"func f() { if ? { } }", 2},
		{"func f() { while 1 { x = ?; } }", 4}, {"func f() { if 1 { } else { let x = ?; } }", 4}, {"func f() { select { case recv x, ? { } } }", 3},
		{"func f() { select { case send c, ? { } default { } } }", 3}, {"func f() { select { default { halt ?; } } }", 5}, {"func f() { } func g() { out ?; } func h() { }", 2},
	}
	for _, frame := range frames {
		for deep := 1; deep <= 25; deep++ {
			for what, e := range chainsOf(deep) {
				src := strings.Replace(frame.text, "?", e, 1)
				got, bad := checkParse(t, src)
				if frame.deep+deep > 20 {
					if len(got) != 0 || bad != 0 {
						t.Errorf("a %s of %d in %q is taken", what, deep, frame.text)
					}
				} else if bad != -1 || !slices.ContainsFunc(got, func(f impl.Func) bool { return impl.Deep(f.Body) == frame.deep+deep }) {
					t.Errorf("a %s of %d in %q: %d", what, deep, frame.text, bad)
				}
			}
		}
	}
}

func TestHowDeepBlocksAre(t *testing.T) {
	for count := range 15 {
		for _, form := range []string{"if 1 {?}", "while x {?}", "if 1 { } else {?}", "print 1; if 1 {?} else { }"} {
			src := "func f() {?}"
			for range count {
				src = strings.Replace(src, "?", form, 1)
			}
			if _, bad := checkParse(t, strings.Replace(src, "?", "", 1)); (bad == -1) != (1+2*count <= 20) || bad > 0 {
				t.Errorf("%d blocks of %q: %d", count, form, bad)
			}
			if _, bad := checkParse(t, strings.Replace(src, "?", "select { }", 1)); (bad == -1) != (2+2*count <= 20) || bad > 0 {
				t.Errorf("%d blocks of %q with a select: %d", count, form, bad)
			}
		}
	}
	for count := range 10 {
		src := "func f() {" + strings.Repeat("select { default {", count) + strings.Repeat("} }", count) + "}"
		if _, bad := checkParse(t, src); (bad == -1) != (1+3*count <= 20) || bad > 0 {
			t.Errorf("%d selects: %d", count, bad)
		}
	}
}

// Brackets are no nodes: however many there are, they do not make it deeper.
func TestTextsDeepInBrackets(t *testing.T) {
	for _, count := range []int{1, 20, 21, 100, 2990} {
		open, shut := strings.Repeat("(", count), strings.Repeat(")", count)
		wantFuncs(t, "func f(){out "+open+"x"+shut+";}", fn("f", nil, node(impl.NdOut, vr("x"))))
		wantFuncs(t, "func f(){"+open+"x"+shut+"=1;}", fn("f", nil, named(impl.NdSet, "x", lit(1))))
		wantMisfit(t, "func f(){out "+open+"x"+shut[1:]+"^;}")
		wantMisfit(t, "func f(){out "+open+"x"+shut+"^);}")
		wantMisfit(t, "func f(){out "+open+"^"+shut+";}")
		wantMisfit(t, "func f(){out "+open+"^;}")
		wantMisfit(t, "func f(){out "+open+"^")
	}
	for _, part := range []string{"(", "g(", "peek(", "make(", "cas(", "1+(", "1<(", "x*(", "-1-("} {
		src := "func f(){" + strings.Repeat(part, 5990/len(part))
		wantNothing(t, src, len(src))
	}
	wantMisfit(t, "func f(){core(core(core^(1)))")
	wantMisfit(t, "^"+strings.Repeat("(", 6000))
	wantMisfit(t, "func f(){-^"+strings.Repeat("-", 5989))
}

func TestTextsDeepInBlocks(t *testing.T) {
	for _, part := range []string{"if 1{", "while x{", "if 1{}else{", "select{default{", "select{case recv x,c{", "select{case send c,1{"} {
		count := 5800 / (len(part) + 2)
		src := "func f(){" + strings.Repeat(part, count)
		wantNothing(t, src, len(src))
		wantNothing(t, src+"x", len(src)+1)
		wantNothing(t, src+")", len(src))
		shut := "}"
		if strings.HasPrefix(part, "select") {
			shut = "}}"
		}
		wantNothing(t, src+strings.Repeat(shut, count)+"}", 0)
		wantNothing(t, src+strings.Repeat(shut, count)+"}}", len(src)+len(shut)*count+1)
	}
	wantNothing(t, "func f(){"+strings.Repeat("1+", 2994)+"1;}", 0)
	wantNothing(t, "func f(){"+strings.Repeat("g(", 1990)+strings.Repeat(")", 1990)+";}", 0)
	wantNothing(t, "func f(){"+strings.Repeat("1*(", 1400)+"1"+strings.Repeat(")", 1400)+";}", 0)
	wantMisfit(t, "func f(){^"+strings.Repeat("{", 5990))
}

// All that can be said within so many words, and each word that does not fit behind it.
func TestAllShortPrograms(t *testing.T) {
	for _, k := range []struct {
		begin string
		most  int
	}{
		{"", 5}, {"func f (", 4}, {"func f ( ) {", 3}, {"func f ( ) { print", 3}, {"func f ( ) { if 1 { }", 2}, {"func f ( ) { select {", 4}, {"func f ( ) { x", 3},
		{"func f ( ) { ( x )", 2}, {"func f ( ) { go g", 4}, {"func f ( ) { g ( 1", 3}, {"func f ( ) { out core (", 3}, {"func f ( ) { select { case", 4},
	} {
		goOn(t, strings.Fields(k.begin), k.most)
	}
}

func goOn(t *testing.T, words []string, most int) {
	t.Helper()
	src := strings.Join(words, " ")
	_, bad := checkParse(t, src)
	if most == 0 || t.Failed() || bad >= 0 && bad < len(src) {
		return
	}
	for _, w := range slices.Concat(everySign, everyKeyword, []string{"x", "7"}) {
		goOn(t, append(slices.Clip(words), w), most-1)
	}
}

// drawer draws programs as trees, and their texts.
type drawer struct {
	*rand.Rand
	text strings.Builder
}

func (d *drawer) pick(list ...string) string { return list[d.IntN(len(list))] }

func (d *drawer) name() string {
	return d.pick("x", "y", "c", "main", "abcdefghij", "Let", "ifs", "Q", "chans", "rt")
}

// word puts some blanks about a word: one at least, where two would be one otherwise.
func (d *drawer) word(words ...string) {
	for _, w := range words {
		d.text.WriteString(d.pick(" ", " ", "\n", "  ", " \n ") + w)
	}
}

func (d *drawer) number() impl.Node {
	n := []int{0, 1, 2, 7, 10, 99, 2147483646, 2147483647}[d.IntN(8)]
	if d.IntN(3) == 0 {
		d.word("-")
		defer d.word(strconv.Itoa(n))
		return lit(-n)
	}
	d.word(strconv.Itoa(n))
	return lit(n)
}

// inBrackets puts brackets about what is written, always or now and then.
func (d *drawer) inBrackets(always bool, write func() impl.Node) impl.Node {
	if !always && d.IntN(6) > 0 {
		return write()
	}
	d.word("(")
	n := d.inBrackets(false, write)
	d.word(")")
	return n
}

func (d *drawer) list(count, deep int) []impl.Node {
	var out []impl.Node
	d.word("(")
	for i := range count {
		if i > 0 {
			d.word(",")
		}
		out = append(out, d.expr(deep, 0))
	}
	d.word(")")
	return out
}

// expr draws an e; tight is 1 where it must be a product, 2 where it must be an atom, or stand in brackets.
func (d *drawer) expr(deep, tight int) impl.Node {
	kind := d.IntN(14)
	if deep <= 0 {
		kind = 6 + d.IntN(3)
	}
	loose := []int{0, 0, 1, 1, 2, 9, 9, 9, 9, 9, 9, 9, 9, 9}[kind]
	return d.inBrackets(loose < tight, func() impl.Node {
		if kind >= 5 {
			return d.atom(kind, deep)
		}
		op := []int{impl.NdLess, impl.NdSame, impl.NdAdd, impl.NdSub, impl.NdMul}[kind]
		left := d.expr(deep-1, []int{1, 1, 1, 1, 2}[kind])
		d.word([]string{"<", "==", "+", "-", "*"}[kind])
		return node(op, left, d.expr(deep-1, []int{1, 1, 2, 2, 3}[kind]))
	})
}

func (d *drawer) atom(kind, deep int) impl.Node {
	switch kind {
	case 6:
		return d.number()
	case 9:
		d.word("make")
		return node(impl.NdMake, d.list(1, deep-1)...)
	case 10:
		d.word("peek")
		return node(impl.NdPeek, d.list(1, deep-1)...)
	case 11:
		d.word("cas")
		return node(impl.NdCas, d.list(3, deep-1)...)
	case 12:
		d.word("core")
		return node(impl.NdCore, d.list(0, 0)...)
	}
	s := d.name()
	switch kind {
	case 5:
		d.word("addr", s)
		return named(impl.NdAddr, s)
	case 13:
		d.word(s)
		return named(impl.NdCall, s, d.list(d.IntN(5), deep-1)...)
	}
	d.word(s)
	return vr(s)
}

func (d *drawer) block(deep int) impl.Node {
	out := blk()
	d.word("{")
	for range d.IntN(4) {
		out.Kids = append(out.Kids, d.statement(deep-1))
	}
	d.word("}")
	return out
}

func (d *drawer) statement(deep int) impl.Node {
	if deep > 2 && d.IntN(3) == 0 {
		return d.wide(deep)
	}
	s := d.name()
	switch d.IntN(6) {
	case 0:
		d.word("let", s, "=")
		defer d.word(";")
		return named(impl.NdLet, s, d.expr(deep-1, 0))
	case 1:
		d.inBrackets(false, func() impl.Node { d.word(s); return vr(s) })
		d.word("=")
		defer d.word(";")
		return named(impl.NdSet, s, d.expr(deep-1, 0))
	case 2:
		d.word("go", s)
		defer d.word(";")
		return named(impl.NdGo, s, d.list(d.IntN(4), deep-1)...)
	case 3:
		d.word("recv", s, ",")
		defer d.word(";")
		return named(impl.NdRecv, s, d.expr(deep-1, 0))
	case 4:
		defer d.word(";")
		return node(impl.NdDo, d.expr(deep-1, 0))
	}
	return d.plain(deep)
}

func (d *drawer) plain(deep int) impl.Node {
	kind := d.IntN(9)
	d.word([]string{"print", "return", "close", "halt", "out", "send", "poke", "note", "swap"}[kind])
	op := []int{impl.NdPrint, impl.NdReturn, impl.NdClose, impl.NdHalt, impl.NdOut, impl.NdSend, impl.NdPoke, impl.NdNote, impl.NdSwap}[kind]
	n := node(op, d.expr(deep-1, 0))
	if kind >= 5 {
		d.word(",")
		n.Kids = append(n.Kids, d.expr(deep-1, 0))
	}
	d.word(";")
	return n
}

func (d *drawer) wide(deep int) impl.Node {
	switch d.IntN(3) {
	case 0:
		d.word("if")
		n := node(impl.NdIf, d.expr(deep-1, 0), d.block(deep-1))
		if d.IntN(2) == 0 {
			d.word("else")
			n.Kids = append(n.Kids, d.block(deep-1))
		}
		return n
	case 1:
		d.word("while")
		return node(impl.NdWhile, d.expr(deep-1, 0), d.block(deep-1))
	}
	n := node(impl.NdSelect)
	d.word("select", "{")
	for range d.IntN(4) {
		n.Kids = append(n.Kids, d.branch(deep-1))
	}
	if d.IntN(2) == 0 {
		d.word("default")
		n.Kids = append(n.Kids, node(impl.NdElse, d.block(deep-2)))
	}
	d.word("}")
	return n
}

func (d *drawer) branch(deep int) impl.Node {
	if s := d.name(); d.IntN(2) == 0 {
		d.word("case", "recv", s, ",")
		return named(impl.NdTake, s, d.expr(deep-1, 0), d.block(deep-1))
	}
	d.word("case", "send")
	n := node(impl.NdGive, d.expr(deep-1, 0))
	d.word(",")
	n.Kids = append(n.Kids, d.expr(deep-1, 0), d.block(deep-1))
	return n
}

func (d *drawer) program(count, deep int) ([]impl.Func, string) {
	var out []impl.Func
	d.text.Reset()
	for range count {
		f := impl.Func{Name: d.name()}
		d.word("func", f.Name, "(")
		for i := range d.IntN(4) {
			if i > 0 {
				d.word(",")
			}
			p := impl.Param{Name: d.name(), Chan: d.IntN(2) == 0}
			d.word(p.Name)
			if p.Chan {
				d.word("chan")
			}
			f.Params = append(f.Params, p)
		}
		d.word(")")
		f.Body = d.block(deep)
		out = append(out, f)
	}
	return out, d.text.String()
}

func newDrawer(seed uint64) *drawer { return &drawer{Rand: rand.New(rand.NewPCG(6, seed))} }

// A drawn tree is parsed from its text, unless it is too much for one of the limits.
func TestDrawnPrograms(t *testing.T) {
	d := newDrawer(1)
	told, refused := 0, 0
	for i := range 2400 {
		count, deep := d.IntN(4), 2+d.IntN(12)
		if i%10 == 0 {
			deep = 25
		}
		if i%40 == 0 {
			count, deep = 37+d.IntN(8), 2
		}
		want, src := d.program(count, deep)
		if len(src) > 6000 {
			continue
		}
		if len(want) > 40 || slices.ContainsFunc(want, func(f impl.Func) bool { return modelDeep(f.Body) > 20 }) {
			refused++
			wantNothing(t, src, 0)
			continue
		}
		told++
		wantFuncs(t, src, want...)
	}
	if told < 1000 || refused < 20 {
		t.Errorf("%d drawn programs are told, %d are refused", told, refused)
	}
}

// A drawn text with some words turned is told, or refused at a place, as the model says.
func TestDrawnProgramsWithAFault(t *testing.T) {
	d := newDrawer(2)
	told, refused := 0, 0
	all := everyWord()
	for range 6000 {
		_, src := d.program(1+d.IntN(2), 2+d.IntN(6))
		words := strings.Fields(src)
		for range 1 + d.IntN(2) {
			i := d.IntN(len(words))
			switch d.IntN(5) {
			case 0:
				words = slices.Delete(words, i, i+1)
			case 1:
				words[i] = d.pick(all...)
			case 2:
				words = slices.Insert(words, i, d.pick(all...))
			case 3:
				j := min(i+1, len(words)-1)
				words[i], words[j] = words[j], words[i]
			case 4:
				words = slices.Insert(words, i, words[d.IntN(len(words))])
			}
		}
		if _, bad := checkParse(t, strings.Join(words, " ")); bad == -1 {
			told++
		} else {
			refused++
		}
	}
	if told < 200 || refused < 2000 {
		t.Errorf("%d drawn texts are told, %d are refused", told, refused)
	}
}

func TestDrawnWords(t *testing.T) {
	d := newDrawer(3)
	all := append(everyWord(), "#", "007")
	for range 5000 {
		src := d.pick("", "func f ( ", "func f ( ) { ", "func f ( ) { print ", "func f ( ) { select { ")
		for range d.IntN(12) {
			src += d.pick(all...) + d.pick(" ", " ", "", "\n")
		}
		checkParse(t, src)
	}
	for range 5000 {
		src := make([]byte, d.IntN(20))
		for i := range src {
			src[i] = byte(d.IntN(256))
		}
		checkParse(t, string(src))
		checkParse(t, "func f() { "+string(src))
	}
}

func TestDeepAndSizeOfOddTrees(t *testing.T) {
	if got := impl.Deep(impl.Node{}); got != 1 {
		t.Errorf("Deep of the zero value is %d", got)
	}
	if impl.Size(nil) != 0 || impl.Size([]impl.Func{}) != 0 || impl.Size([]impl.Func{{}}) != 1 || impl.Size(make([]impl.Func, 100)) != 100 {
		t.Errorf("Size of zero values is not how many there are")
	}
	odd := []impl.Node{
		{}, {Op: -1}, {Op: 35}, {Op: 99999999, S: "let", N: -1 << 62}, {Kids: []impl.Node{}}, {Kids: make([]impl.Node, 1)}, {Kids: make([]impl.Node, 1000)},
		{Op: impl.NdNum, Kids: []impl.Node{{Op: impl.NdBlock, Kids: []impl.Node{{}, {Op: 7}}}}},
		{Kids: []impl.Node{{Kids: []impl.Node{{}}}, {}, {Kids: []impl.Node{{}, {Kids: []impl.Node{{Kids: []impl.Node{{}}}}}}}, {}}},
		{Kids: []impl.Node{{}, {}, {Kids: []impl.Node{{}}}}}, {Kids: []impl.Node{{Kids: []impl.Node{{}}}, {}, {}}},
	}
	var list []impl.Func
	for _, n := range odd {
		list = append(list, impl.Func{Name: "no name", Params: make([]impl.Param, 9), Body: n})
		checkMeasures(t, []impl.Func{{Body: n}})
		checkMeasures(t, list)
	}
	for _, kids := range []int{0, 1, 2, 50000} {
		n := impl.Node{Op: impl.NdBlock, Kids: make([]impl.Node, kids)}
		if impl.Deep(n) != 1+flag(kids > 0) || impl.Size([]impl.Func{{Body: n}, {Body: n}}) != 2*(kids+1) {
			t.Errorf("a node with %d kids is %d deep", kids, impl.Deep(n))
		}
	}
}

func TestDeepAndSizeOfDeepTrees(t *testing.T) {
	for _, deep := range []int{19, 20, 21, 22, 1000, 100000, 600000} {
		first, last := impl.Node{Op: impl.NdVar}, impl.Node{Op: impl.NdVar}
		for range deep - 1 {
			first = node(impl.NdAdd, first, impl.Node{})
			last = node(impl.NdAdd, impl.Node{}, last)
		}
		for _, n := range []impl.Node{first, last} {
			if got := impl.Deep(n); got != deep {
				t.Errorf("Deep is %d, not %d", got, deep)
			}
			if got := impl.Size([]impl.Func{{Body: n}, {}}); got != 2*deep {
				t.Errorf("Size is %d, not %d", got, 2*deep)
			}
		}
	}
}

func TestDrawnTrees(t *testing.T) {
	d := newDrawer(4)
	var grow func(deep int) impl.Node
	grow = func(deep int) impl.Node {
		n := impl.Node{Op: d.IntN(40) - 2, S: d.pick("", "x"), N: d.IntN(9)}
		for range d.IntN(4) {
			if deep > 0 {
				n.Kids = append(n.Kids, grow(deep-1))
			}
		}
		return n
	}
	for range 500 {
		list := make([]impl.Func, d.IntN(5))
		for i := range list {
			list[i].Body = grow(d.IntN(8))
		}
		checkMeasures(t, list)
	}
}

func programsForMemory() []string {
	out := append(wholeTexts(), "", " ", "#", "func", "func f() { print ^; }", functions(40), functions(41), "func f(){"+strings.Repeat("1+", 30)+"1;}")
	d := newDrawer(5)
	for range 20 {
		_, src := d.program(3, 8)
		out = append(out, src)
	}
	return out
}

func TestParseAnswersTheSameAgain(t *testing.T) {
	for _, src := range programsForMemory() {
		first, was := impl.Parse(src)
		impl.Parse("func other() { print 1; }")
		impl.Parse("func other() {")
		again, is := impl.Parse(src)
		if was != is || !slices.EqualFunc(first, again, sameFunc) || impl.Size(first) != impl.Size(again) {
			t.Errorf("at %.60q it answers otherwise when it is asked again", src)
		}
	}
}

// listsWithin tells all lists of nodes of a tree.
func listsWithin(n impl.Node) [][]impl.Node {
	out := [][]impl.Node{n.Kids}
	for _, k := range n.Kids {
		out = append(out, listsWithin(k)...)
	}
	return out
}

func spoilFuncs(list []impl.Func, spareOnly bool) {
	for _, f := range list {
		for _, kids := range listsWithin(f.Body) {
			for i := range kids[:cap(kids)] {
				if i >= len(kids) || !spareOnly {
					kids[:cap(kids)][i] = impl.Node{Op: -99, S: "spoilt", N: -99}
				}
			}
		}
		for i := range f.Params[:cap(f.Params)] {
			if i >= len(f.Params) || !spareOnly {
				f.Params[:cap(f.Params)][i] = impl.Param{Name: "spoilt", Chan: true}
			}
		}
	}
	for i := range list[:cap(list)] {
		if i >= len(list) || !spareOnly {
			list[:cap(list)][i] = impl.Func{Name: "spoilt"}
		}
	}
}

func TestEachTreeIsItsOwn(t *testing.T) {
	for _, src := range programsForMemory() {
		one, _ := impl.Parse(src)
		other, _ := impl.Parse(src)
		kept := cloneFuncs(other)
		spoilFuncs(other, true)
		if !slices.EqualFunc(other, kept, sameFunc) {
			t.Errorf("two lists of the answer at %.60q share memory", src)
		}
		spoilFuncs(one, false)
		if !slices.EqualFunc(other, kept, sameFunc) {
			t.Errorf("two answers at %.60q share memory", src)
		}
		if again, _ := impl.Parse(src); !slices.EqualFunc(again, kept, sameFunc) {
			t.Errorf("what one answer at %.60q holds is seen in another", src)
		}
	}
}

func TestNoTwoListsOfOneAnswerShareAnything(t *testing.T) {
	for _, src := range programsForMemory() {
		list, _ := impl.Parse(src)
		seen := map[*impl.Node]bool{}
		for _, f := range list {
			for _, kids := range listsWithin(f.Body) {
				for i := range kids[:cap(kids)] {
					if at := &kids[:cap(kids)][i]; seen[at] {
						t.Fatalf("two lists of the answer at %.60q share memory", src)
					} else {
						seen[at] = true
					}
				}
			}
		}
	}
}

func TestTreesHoldNothingOfTheSource(t *testing.T) {
	for _, src := range programsForMemory() {
		first := uintptr(unsafe.Pointer(unsafe.StringData(src)))
		lies := func(s string) bool {
			text := uintptr(unsafe.Pointer(unsafe.StringData(s)))
			return s != "" && text >= first && text < first+uintptr(len(src))
		}
		list, _ := impl.Parse(src)
		for _, f := range list {
			if lies(f.Name) || slices.ContainsFunc(f.Params, func(p impl.Param) bool { return lies(p.Name) }) {
				t.Fatalf("a name of %.60q lies in the source", src)
			}
			for _, kids := range listsWithin(f.Body) {
				if slices.ContainsFunc(kids, func(n impl.Node) bool { return lies(n.S) }) {
					t.Fatalf("a text of %.60q lies in the source", src)
				}
			}
		}
	}
}

// roomyNode is a tree whose lists have spare room, with something in it.
func roomyNode(n impl.Node) impl.Node {
	kids := make([]impl.Node, 0, len(n.Kids)+2)
	for _, k := range n.Kids {
		kids = append(kids, roomyNode(k))
	}
	n.Kids = append(kids, impl.Node{Op: 71}, impl.Node{Op: 72})[:len(kids)]
	return n
}

func roomIsKept(n impl.Node) bool {
	room := n.Kids[len(n.Kids):cap(n.Kids)]
	return len(room) >= 2 && room[0].Op == 71 && room[1].Op == 72 && !slices.ContainsFunc(n.Kids, func(k impl.Node) bool { return !roomIsKept(k) })
}

func TestDeepAndSizeWriteNowhere(t *testing.T) {
	for _, src := range programsForMemory() {
		list, _ := impl.Parse(src)
		for i, f := range list {
			list[i].Body = roomyNode(f.Body)
		}
		list = append(slices.Clip(list), impl.Func{Name: "behind"})[:len(list)]
		kept := cloneFuncs(list)
		size, again := impl.Size(list), impl.Size(list)
		if size != again || !slices.EqualFunc(list, kept, sameFunc) || list[:len(list)+1][len(list)].Name != "behind" {
			t.Errorf("Size turns what it is given, at %.60q", src)
		}
		for _, f := range list {
			deep, again := impl.Deep(f.Body), impl.Deep(f.Body)
			if deep != again || deep != modelDeep(f.Body) || !roomIsKept(f.Body) {
				t.Errorf("Deep or Size turns what it is given, at %.60q", src)
			}
		}
		if !slices.EqualFunc(list, kept, sameFunc) {
			t.Errorf("Deep turns what it is given, at %.60q", src)
		}
	}
}
