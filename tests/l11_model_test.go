package tests

import (
	"slices"
	"strconv"
	"strings"

	"loop.example/g00286/impl"
)

// tacWords are the ops of places as words, by their numbers from 1 on.
var tacWords = strings.Fields("num copy add sub mul less same label jump zero call ret print go make send recv close select peek poke cas core addr out note swap halt")

// loweredForms say of each op what it becomes, one step behind the other. A step is
//
//	1       that kid is an expr: its register has that name from then on (1.0: kid 0 of kid 1)
//	{1}     that kid is a block
//	!z      the label z is made
//	add/..  a place, with what its op names in the order D, A, B, N, S, Args:
//	        +v a new register, v from then on; v, 1 the register of that name; = that of the Var S (=1 the Var S of kid 1); #3 that number;
//	        N and S those of the node; where a label belongs its name, and it is made where it is not there yet; Args with , between
//
// An expr is in the register v.
var loweredForms = map[int]string{
	impl.NdLet:    "0 copy/=/0",
	impl.NdSet:    "0 copy/=/0",
	impl.NdWhile:  "label/a 0 zero/0/b {1} jump/a label/b",
	impl.NdPrint:  "0 print/0",
	impl.NdReturn: "0 ret/0",
	impl.NdSend:   "0 1 send/0/1",
	impl.NdRecv:   "0 recv/+v/0 copy/=/v",
	impl.NdClose:  "0 close/0",
	impl.NdPoke:   "0 1 poke/0/1",
	impl.NdNote:   "0 1 note/0/1",
	impl.NdSwap:   "0 1 swap/0/1",
	impl.NdHalt:   "0 halt/0",
	impl.NdOut:    "0 out/0",
	impl.NdDo:     "0",
	impl.NdNum:    "num/+v/N",
	impl.NdAdd:    "0 1 add/+v/0/1",
	impl.NdSub:    "0 1 sub/+v/0/1",
	impl.NdMul:    "0 1 mul/+v/0/1",
	impl.NdLess:   "0 1 less/+v/0/1",
	impl.NdSame:   "0 1 same/+v/0/1",
	impl.NdMake:   "0 make/+v/0",
	impl.NdPeek:   "0 peek/+v/0",
	impl.NdCas:    "0 1 2 cas/+v/0/1/2",
	impl.NdCore:   "core/+v",
	impl.NdAddr:   "addr/+v/S",
}

const endForm = "num/+v/#0 ret/v"

func loweredForm(n impl.Node) string {
	var kids []string
	for i := range n.Kids {
		kids = append(kids, strconv.Itoa(i))
	}
	switch n.Op {
	case impl.NdCall:
		return strings.Join(kids, " ") + " call/+v/S/" + strings.Join(kids, ",")
	case impl.NdGo:
		return strings.Join(kids, " ") + " go/S/" + strings.Join(kids, ",")
	case impl.NdIf:
		if len(n.Kids) == 2 {
			return "0 zero/0/a {1} label/a"
		}
		return "0 zero/0/a {1} jump/b label/a {2} label/b"
	case impl.NdSelect:
		return selectForm(n.Kids)
	}
	return loweredForms[n.Op]
}

// selectForm has @ where the number of a case stands.
func selectForm(cases []impl.Node) string {
	exprs, last := "!z", "#0"
	var args []string
	branches := ""
	for i, c := range cases {
		number := func(form string) string { return strings.ReplaceAll(form, "@", strconv.Itoa(i)) }
		begin, end := number(" num/+n@/#@ same/+s@/which/n@ zero/s@/l@"), number(" jump/z label/l@")
		switch c.Op {
		case impl.NdTake:
			exprs += number(" @.0")
			args = append(args, number("#1,@.0,#0"))
			branches += begin + number(" copy/=@/taken {@.1}") + end
		case impl.NdGive:
			exprs += number(" @.0 @.1")
			args = append(args, number("#2,@.0,@.1"))
			branches += begin + number(" {@.2}") + end
		case impl.NdElse:
			last = "#1"
			branches += begin + number(" {@.0}") + end
		}
	}
	return exprs + " select/+which/+taken/" + last + "/" + strings.Join(args, ",") + branches + " label/z"
}

// unitModel is a unit that is made by the forms.
type unitModel struct {
	impl.Unit
	vars []impl.Param
	made int
}

// nodeModel is one node of it, and what its form has named.
type nodeModel struct {
	*unitModel
	node      impl.Node
	registers map[string]int
	labels    map[string]int
}

// wantLower is the document's words of Lower.
func wantLower(list []impl.Func, low bool) []impl.Unit {
	if wantCheck(list, low) != impl.CkDone {
		return nil
	}
	var out []impl.Unit
	for _, f := range list {
		u := wantUnitOf(f)
		if !wantUnitOk(u) {
			return nil
		}
		out = append(out, u)
	}
	return out
}

// wantUnitOf is of a function that is checked, as large as its unit may become.
func wantUnitOf(f impl.Func) impl.Unit {
	vars := wantVars(f)
	m := &unitModel{Unit: impl.Unit{Name: f.Name, Params: len(f.Params), Regs: len(vars)}, vars: vars}
	for i := range vars[len(f.Params):] {
		m.Code = append(m.Code, impl.Tac{Op: impl.TcNum, D: len(f.Params) + i})
	}
	m.block(f.Body)
	m.follow(impl.Node{}, endForm)
	return m.Unit
}

func (m *unitModel) block(n impl.Node) {
	for _, line := range n.Kids {
		m.follow(line, loweredForm(line))
	}
}

func (m *unitModel) variable(name string) int {
	return slices.IndexFunc(m.vars, func(v impl.Param) bool { return v.Name == name })
}

func (m *unitModel) expr(e impl.Node) int {
	if e.Op == impl.NdVar {
		return m.variable(e.S)
	}
	return m.follow(e, loweredForm(e))["v"]
}

// follow goes over the steps of a form, and tells the registers that it has named.
func (m *unitModel) follow(n impl.Node, form string) map[string]int {
	at := &nodeModel{m, n, map[string]int{}, map[string]int{}}
	for _, step := range strings.Fields(form) {
		switch {
		case step[0] == '!':
			at.label(step[1:])
		case step[0] == '{':
			m.block(at.kid(step[1 : len(step)-1]))
		case strings.Contains(step, "/"):
			at.place(strings.Split(step, "/"))
		default:
			at.registers[step] = m.expr(at.kid(step))
		}
	}
	return at.registers
}

func (at *nodeModel) kid(path string) impl.Node {
	n := at.node
	for _, part := range strings.Split(path, ".") {
		i, _ := strconv.Atoi(part)
		n = n.Kids[i]
	}
	return n
}

func (at *nodeModel) label(name string) int {
	if _, there := at.labels[name]; !there {
		at.labels[name] = at.made
		at.made++
	}
	return at.labels[name]
}

func (at *nodeModel) place(parts []string) {
	t := impl.Tac{Op: slices.Index(tacWords, parts[0]) + 1}
	form, _ := tacFormOf(t.Op)
	for i, name := range form.names {
		switch part := parts[i+1]; {
		case name == 'S':
			t.S = at.node.S
		case name == 'V':
			t.Args = at.args(part)
		case name == 'N' && (t.Op == impl.TcLabel || t.Op == impl.TcJump || t.Op == impl.TcZero):
			t.N = at.label(part)
		default:
			*tacField(&t, name) = at.number(part)
		}
	}
	at.Code = append(at.Code, t)
}

func (at *nodeModel) args(list string) []int {
	var out []int
	for _, part := range strings.FieldsFunc(list, func(r rune) bool { return r == ',' }) {
		out = append(out, at.number(part))
	}
	return out
}

func (at *nodeModel) number(part string) int {
	switch part[0] {
	case 'N':
		return at.node.N
	case '#':
		n, _ := strconv.Atoi(part[1:])
		return n
	case '+':
		at.registers[part[1:]] = at.Regs
		at.Regs++
		return at.Regs - 1
	case '=':
		if part == "=" {
			return at.variable(at.node.S)
		}
		return at.variable(at.kid(part[1:]).S)
	}
	r, there := at.registers[part]
	if !there {
		panic("a form names no register " + part)
	}
	return r
}

// codeText is places with `; ` between, each its op and what that names, in the order D, A, B, N, S, Args; a ? where there is more.
func codeText(code []impl.Tac) string {
	var out []string
	for _, t := range code {
		out = append(out, tacText(t))
	}
	return strings.Join(out, "; ")
}

func tacText(t impl.Tac) string {
	form, ok := tacFormOf(t.Op)
	if !ok {
		return "?"
	}
	out := []string{tacWords[t.Op-1]}
	for _, name := range form.names {
		switch name {
		case 'S':
			out = append(out, t.S)
		case 'V':
			for _, n := range t.Args {
				out = append(out, strconv.Itoa(n))
			}
		default:
			out = append(out, strconv.Itoa(*tacField(&t, name)))
		}
	}
	if !unnamedIsZero(t) {
		out = append(out, "?")
	}
	return strings.Join(out, " ")
}

// unitText is a unit in one line: its name, its Params, its Regs, and its places.
func unitText(u impl.Unit) string {
	return u.Name + " " + strconv.Itoa(u.Params) + " " + strconv.Itoa(u.Regs) + ": " + codeText(u.Code)
}

// unitsText has each unit in its line.
func unitsText(list []impl.Unit) string {
	out := ""
	for _, u := range list {
		out += unitText(u) + "\n"
	}
	return out
}

// unitRun runs units place by place, as chapter 10 says of them, as far as a body does alone; left is how many places there still are.
type unitRun struct {
	list []impl.Unit
	out  []int
	left int
}

func (r *unitRun) run(name string, args []int) int {
	u := r.list[slices.IndexFunc(r.list, func(u impl.Unit) bool { return u.Name == name })]
	// What nobody has set must not be read, so that it is not 0.
	regs := slices.Repeat([]int{987654321}, u.Regs)
	copy(regs, args)
	for pc := 0; r.left > 0; r.left-- {
		t := u.Code[pc]
		pc++
		switch t.Op {
		case impl.TcCall:
			var given []int
			for _, a := range t.Args {
				given = append(given, regs[a])
			}
			regs[t.D] = r.run(t.S, given)
		case impl.TcRet:
			return regs[t.A]
		case impl.TcPrint:
			r.out = append(r.out, regs[t.A])
		case impl.TcJump:
			pc = placeOfLabel(u, t.N)
		case impl.TcZero:
			if regs[t.A] == 0 {
				pc = placeOfLabel(u, t.N)
			}
		case impl.TcLabel:
		default:
			regs[t.D] = reckoned(t, regs)
		}
	}
	return 0
}

func placeOfLabel(u impl.Unit, n int) int {
	return slices.IndexFunc(u.Code, func(t impl.Tac) bool { return t.Op == impl.TcLabel && t.N == n })
}

func reckoned(t impl.Tac, regs []int) int {
	switch t.Op {
	case impl.TcNum:
		return t.N
	case impl.TcCopy:
		return regs[t.A]
	case impl.TcAdd:
		return wrap(regs[t.A] + regs[t.B])
	case impl.TcSub:
		return wrap(regs[t.A] - regs[t.B])
	case impl.TcMul:
		return wrap(regs[t.A] * regs[t.B])
	case impl.TcLess:
		return flag(regs[t.A] < regs[t.B])
	case impl.TcSame:
		return flag(regs[t.A] == regs[t.B])
	}
	panic("a body alone does not come to " + tacText(t))
}
