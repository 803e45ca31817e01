package tests

import (
	"slices"
	"strings"

	"loop.example/g00286/impl"
)

// writtenForms has the text of each op, byte for byte: @ is S, # is N, 0 to 2 are kids, ~ is all kids with `, ` between, | is all kids, each with a byte 10 behind it.
var writtenForms = map[int]string{
	impl.NdBlock:  "{\n|}",
	impl.NdLet:    "let @ = 0;",
	impl.NdSet:    "@ = 0;",
	impl.NdIf:     "if 0 1",
	impl.NdWhile:  "while 0 1",
	impl.NdPrint:  "print 0;",
	impl.NdReturn: "return 0;",
	impl.NdGo:     "go @(~);",
	impl.NdSend:   "send 0, 1;",
	impl.NdRecv:   "recv @, 0;",
	impl.NdClose:  "close 0;",
	impl.NdSelect: "select {\n|}",
	impl.NdPoke:   "poke 0, 1;",
	impl.NdNote:   "note 0, 1;",
	impl.NdSwap:   "swap 0, 1;",
	impl.NdHalt:   "halt 0;",
	impl.NdOut:    "out 0;",
	impl.NdDo:     "0;",
	impl.NdNum:    "#",
	impl.NdVar:    "@",
	impl.NdAdd:    "(0 + 1)",
	impl.NdSub:    "(0 - 1)",
	impl.NdMul:    "(0 * 1)",
	impl.NdLess:   "(0 < 1)",
	impl.NdSame:   "(0 == 1)",
	impl.NdCall:   "@(~)",
	impl.NdMake:   "make(0)",
	impl.NdPeek:   "peek(0)",
	impl.NdCas:    "cas(0, 1, 2)",
	impl.NdCore:   "core()",
	impl.NdAddr:   "addr @",
	impl.NdTake:   "case recv @, 0 1",
	impl.NdGive:   "case send 0, 1 2",
	impl.NdElse:   "default 0",
}

// noText stands where there is nothing to write: it is no token.
const noText = "#"

// wantNodeText writes any tree, tidy or not.
func wantNodeText(n impl.Node) string {
	form, ok := writtenForms[n.Op]
	if !ok {
		return noText
	}
	if n.Op == impl.NdIf && len(n.Kids) == 3 {
		form += " else 2"
	}
	var kids []string
	for _, k := range n.Kids {
		kids = append(kids, wantNodeText(k))
	}
	var out strings.Builder
	for _, b := range []byte(form) {
		switch b {
		case '@':
			out.WriteString(n.S)
		case '#':
			out.WriteString(wantNumber(n.N))
		case '0', '1', '2':
			if i := int(b - '0'); i < len(kids) {
				out.WriteString(kids[i])
			} else {
				out.WriteString(noText)
			}
		case '~':
			out.WriteString(strings.Join(kids, ", "))
		case '|':
			for _, k := range kids {
				out.WriteString(k + "\n")
			}
		default:
			out.WriteByte(b)
		}
	}
	return out.String()
}

func wantNumber(n int) string {
	if n < 0 {
		return "(" + impl.Digits(n) + ")"
	}
	return impl.Digits(n)
}

// wantText writes any functions, tidy or not.
func wantText(list []impl.Func) string {
	var out strings.Builder
	for _, f := range list {
		var params []string
		for _, p := range f.Params {
			params = append(params, p.Name+strings.Repeat(" chan", flag(p.Chan)))
		}
		out.WriteString("func " + f.Name + "(" + strings.Join(params, ", ") + ") " + wantNodeText(f.Body) + "\n")
	}
	return out.String()
}

// wantTidy is of functions whose text is no longer than a source may be: they are what Parse tells of it, or Parse tells them of no text.
func wantTidy(list []impl.Func) bool {
	got, bad := impl.Parse(wantText(list))
	return bad == -1 && slices.EqualFunc(got, list, sameFunc)
}
