package tests

import (
	"slices"
	"strings"

	"loop.example/g00286/impl"
)

// grammarRule is one line of chapter 6: what stands on the right is a Left. Words with a great letter are other lines, NAME and NUM, all else stands there as it is. What it becomes is a node of that op with what is within as kids; with opNone just what is within, one behind the other.
type grammarRule struct {
	left  string
	right string
	op    int
	parts []string
}

const (
	opNone  = 0
	opParam = -1
	opFunc  = -2
)

var grammarRules = []*grammarRule{
	{left: "Program", right: ""},
	{left: "Program", right: "Program Func"},
	{left: "Func", right: "func NAME ( Params ) Block", op: opFunc},
	{left: "Params", right: ""},
	{left: "Params", right: "ParamList"},
	{left: "ParamList", right: "Param"},
	{left: "ParamList", right: "ParamList , Param"},
	{left: "Param", right: "NAME", op: opParam},
	{left: "Param", right: "NAME chan", op: opParam},
	{left: "Block", right: "{ Statements }", op: impl.NdBlock},
	{left: "Statements", right: ""},
	{left: "Statements", right: "Statements Statement"},
	{left: "Statement", right: "let NAME = E ;", op: impl.NdLet},
	{left: "Statement", right: "Place = E ;", op: impl.NdSet},
	{left: "Place", right: "NAME"},
	{left: "Place", right: "( Place )"},
	{left: "Statement", right: "if E Block", op: impl.NdIf},
	{left: "Statement", right: "if E Block else Block", op: impl.NdIf},
	{left: "Statement", right: "while E Block", op: impl.NdWhile},
	{left: "Statement", right: "print E ;", op: impl.NdPrint},
	{left: "Statement", right: "return E ;", op: impl.NdReturn},
	{left: "Statement", right: "go NAME ( Es ) ;", op: impl.NdGo},
	{left: "Statement", right: "send E , E ;", op: impl.NdSend},
	{left: "Statement", right: "recv NAME , E ;", op: impl.NdRecv},
	{left: "Statement", right: "close E ;", op: impl.NdClose},
	{left: "Statement", right: "select { Cases }", op: impl.NdSelect},
	{left: "Statement", right: "select { Cases Else }", op: impl.NdSelect},
	{left: "Cases", right: ""},
	{left: "Cases", right: "Cases Case"},
	{left: "Case", right: "case recv NAME , E Block", op: impl.NdTake},
	{left: "Case", right: "case send E , E Block", op: impl.NdGive},
	{left: "Else", right: "default Block", op: impl.NdElse},
	{left: "Statement", right: "poke E , E ;", op: impl.NdPoke},
	{left: "Statement", right: "note E , E ;", op: impl.NdNote},
	{left: "Statement", right: "swap E , E ;", op: impl.NdSwap},
	{left: "Statement", right: "halt E ;", op: impl.NdHalt},
	{left: "Statement", right: "out E ;", op: impl.NdOut},
	{left: "Statement", right: "E ;", op: impl.NdDo},
	{left: "E", right: "Sum"},
	{left: "E", right: "Sum < Sum", op: impl.NdLess},
	{left: "E", right: "Sum == Sum", op: impl.NdSame},
	{left: "Sum", right: "Product"},
	{left: "Sum", right: "Sum + Product", op: impl.NdAdd},
	{left: "Sum", right: "Sum - Product", op: impl.NdSub},
	{left: "Product", right: "Atom"},
	{left: "Product", right: "Product * Atom", op: impl.NdMul},
	{left: "Atom", right: "NUM", op: impl.NdNum},
	{left: "Atom", right: "- NUM", op: impl.NdNum},
	{left: "Atom", right: "( E )"},
	{left: "Atom", right: "make ( Es )", op: impl.NdMake},
	{left: "Atom", right: "peek ( Es )", op: impl.NdPeek},
	{left: "Atom", right: "cas ( Es )", op: impl.NdCas},
	{left: "Atom", right: "core ( Es )", op: impl.NdCore},
	{left: "Atom", right: "addr NAME", op: impl.NdAddr},
	{left: "Atom", right: "NAME ( Es )", op: impl.NdCall},
	{left: "Atom", right: "NAME", op: impl.NdVar},
	{left: "Es", right: ""},
	{left: "Es", right: "EList"},
	{left: "EList", right: "E"},
	{left: "EList", right: "EList , E"},
}

// rulesOf has the lines of the grammar by their left side.
var rulesOf = func() map[string][]*grammarRule {
	out := map[string][]*grammarRule{}
	for _, r := range grammarRules {
		r.parts = strings.Fields(r.right)
		out[r.left] = append(out[r.left], r)
	}
	return out
}()

// reading is a line of the grammar of which dot parts have been met, from a token on: the one before, and what the last part was read as (nil of a token).
type reading struct {
	rule   *grammarRule
	dot    int
	from   int
	before *reading
	last   *reading
	token  impl.Token
}

func (r *reading) whole() bool { return r.dot == len(r.rule.parts) }

func (r *reading) next() string {
	if r.whole() {
		return ""
	}
	return r.rule.parts[r.dot]
}

func (r *reading) past(last *reading, token impl.Token) *reading {
	return &reading{rule: r.rule, dot: r.dot + 1, from: r.from, before: r, last: last, token: token}
}

type readingKey struct {
	rule      *grammarRule
	dot, from int
}

// readings are all that is possible ahead of one token.
type readings struct {
	list []*reading
	seen map[readingKey]bool
}

func (s *readings) add(r *reading) {
	key := readingKey{r.rule, r.dot, r.from}
	if s.seen == nil {
		s.seen = map[readingKey]bool{}
	}
	if !s.seen[key] {
		s.seen[key] = true
		s.list = append(s.list, r)
	}
}

// fill adds what follows from what is there: lines that begin here, and lines that go on behind one that is whole.
func (s *readings) fill(here int, all []*readings) {
	for i := 0; i < len(s.list); i++ {
		r := s.list[i]
		if r.whole() {
			for j := 0; j < len(all[r.from].list); j++ {
				if waits := all[r.from].list[j]; waits.next() == r.rule.left {
					s.add(waits.past(r, impl.Token{}))
				}
			}
			continue
		}
		for _, rule := range rulesOf[r.next()] {
			s.add(&reading{rule: rule, from: here})
		}
		for j := 0; j < len(s.list); j++ {
			if done := s.list[j]; done.whole() && done.from == here && done.rule.left == r.next() {
				s.add(r.past(done, impl.Token{}))
			}
		}
	}
}

func fitsPart(part string, k impl.Token) bool {
	switch part {
	case "NAME":
		return k.Kind == impl.TkName && !slices.Contains(everyKeyword, k.Text)
	case "NUM":
		return k.Kind == impl.TkNum
	}
	return k.Kind != impl.TkEnd && k.Text == part && rulesOf[part] == nil
}

// readProgram reads all tokens at once in every way that there is: the way of the whole program, and -1; nil and the number of the first token behind which no way goes on.
func readProgram(list []impl.Token) (*reading, int) {
	first := &readings{}
	for _, rule := range rulesOf["Program"] {
		first.add(&reading{rule: rule})
	}
	all := []*readings{first}
	for here, k := range list {
		now := all[here]
		now.fill(here, all)
		if k.Kind == impl.TkEnd {
			for _, r := range now.list {
				if r.whole() && r.from == 0 && r.rule.left == "Program" {
					return r, -1
				}
			}
			return nil, here
		}
		behind := &readings{}
		for _, r := range now.list {
			if fitsPart(r.next(), k) {
				behind.add(r.past(nil, k))
			}
		}
		if len(behind.list) == 0 {
			return nil, here
		}
		all = append(all, behind)
	}
	return nil, len(list)
}

// made is what a reading becomes.
type made struct {
	text   string
	n      int
	nodes  []impl.Node
	params []impl.Param
	funcs  []impl.Func
}

func (r *reading) become() made {
	var m made
	var way []*reading
	for at := r; at.dot > 0; at = at.before {
		way = append(way, at)
	}
	slices.Reverse(way)
	for _, at := range way {
		switch {
		case at.last != nil:
			part := at.last.become()
			m.text += part.text
			m.nodes = append(m.nodes, part.nodes...)
			m.params = append(m.params, part.params...)
			m.funcs = append(m.funcs, part.funcs...)
		case at.rule.parts[at.dot-1] == "NAME":
			m.text = at.token.Text
		case at.rule.parts[at.dot-1] == "NUM":
			m.n = at.token.N
		}
	}
	return m.by(r.rule)
}

func (m made) by(rule *grammarRule) made {
	switch rule.op {
	case opNone:
		return m
	case opParam:
		return made{params: []impl.Param{{Name: m.text, Chan: len(rule.parts) == 2}}}
	case opFunc:
		return made{funcs: []impl.Func{{Name: m.text, Params: m.params, Body: m.nodes[0]}}}
	}
	if rule.right == "- NUM" {
		m.n = -m.n
	}
	return made{nodes: []impl.Node{{Op: rule.op, S: m.text, N: m.n, Kids: m.nodes}}}
}

// wrongCount is the place of the `(` of the first of these that ends ahead of a token with another number of exprs than it takes; -1.
func wrongCount(list []impl.Token, end int) int {
	takes := map[string]int{"make": 1, "peek": 1, "cas": 3, "core": 0}
	place, behind := -1, end
	for i := range end {
		count, ok := takes[list[i].Text]
		if !ok {
			continue
		}
		if has, last := countWithin(list, i+1, end); last < behind && has != count {
			place, behind = list[i+1].At, last
		}
	}
	return place
}

// countWithin is how many exprs stand in the brackets that begin there, and where these end.
func countWithin(list []impl.Token, from, end int) (int, int) {
	open, commas := 0, 0
	for i := from; i < end; i++ {
		switch list[i].Text {
		case "(":
			open++
		case ")":
			open--
		case ",":
			commas += flag(open == 1)
		}
		if open == 0 {
			return commas + flag(i > from+1), i
		}
	}
	return 0, end
}

func modelDeep(n impl.Node) int {
	most := 0
	for _, k := range n.Kids {
		most = max(most, modelDeep(k))
	}
	return most + 1
}

func modelSize(n impl.Node) int {
	size := 1
	for _, k := range n.Kids {
		size += modelSize(k)
	}
	return size
}

// wantParse is the document's words of Parse.
func wantParse(src string) ([]impl.Func, int) {
	list, bad := wantTokens(src)
	if bad >= 0 {
		return nil, bad
	}
	way, misfit := readProgram(list)
	end := misfit
	if misfit < 0 {
		end = len(list) - 1
	}
	if place := wrongCount(list, end); place >= 0 {
		return nil, place
	}
	if misfit >= 0 {
		return nil, list[misfit].At
	}
	funcs := way.become().funcs
	for _, f := range funcs {
		if modelDeep(f.Body) > 20 {
			return nil, 0
		}
	}
	if len(funcs) > 40 {
		return nil, 0
	}
	return funcs, -1
}
