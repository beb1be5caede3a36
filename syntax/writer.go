package syntax

import (
	"strconv"
	"strings"

	"splicery/api"
)

// writer collects the tokens of a form.
type writer struct {
	tokens []string
	signs  [api.Len + 1]sign // the operators by their operations
}

// sign is an operator, and the line of the grammar in which it stands.
type sign struct {
	token string
	line  int
}

func newWriter() *writer {
	w := &writer{}
	for token, o := range operators() {
		w.signs[o.n] = sign{token, o.line}
	}
	return w
}

// all returns the tokens of a form; none, if it is not proper.
func (w *writer) all(f Form) []string {
	if !isForm(f) {
		return nil
	}
	w.tokens = nil
	w.form(f)
	return w.tokens
}

// put adds tokens.
func (w *writer) put(tokens ...string) {
	w.tokens = append(w.tokens, tokens...)
}

// qname adds the tokens of a name, or of two with a point between them.
func (w *writer) qname(s string) {
	first, second, both := strings.Cut(s, ".")
	w.put(first)
	if both {
		w.put(".", second)
	}
}

// comma adds a comma before each element of a list but the first one.
func (w *writer) comma(i int) {
	if i > 0 {
		w.put(",")
	}
}

func (w *writer) form(f Form) {
	w.put(keywords[f.Kind], f.Name, "(")
	for i, s := range f.Slots {
		w.comma(i)
		w.put(s.Name)
		w.word(s.Type)
		if f.Kind == api.KTest {
			w.put(strconv.Itoa(s.Most))
		}
	}
	w.put(")")
	if hasBody(f.Kind) {
		w.word(f.Result)
		w.put("=")
		w.term(f.Body)
	}
}

// word adds the tokens of a type.
func (w *writer) word(t Word) {
	if t.Name == "List" {
		w.element(t.Kids[0])
		return
	}
	w.qname(t.Name)
}

// element adds the tokens of the type of lists of a type.
func (w *writer) element(t Word) {
	w.put("List", "(")
	w.word(t)
	w.put(")")
}

// term adds the tokens of an expression.
func (w *writer) term(t Term) {
	switch t.Kind {
	case api.NInt:
		w.number(t.N)
	case api.NBool:
		w.put(strconv.FormatBool(t.N == 1))
	case api.NVar:
		w.put(t.Name)
	case api.NOp:
		w.operation(t)
	case api.NIf:
		w.steps(t.Kids, "if", "then", "else")
	case api.NLet:
		w.put("let", t.Names[0])
		w.steps(t.Kids, "=", "in")
	case api.NFold:
		w.put("fold", t.Names[0], ",", t.Names[1])
		w.steps([]Term{t.Kids[1], t.Kids[0], t.Kids[2]}, "=", "over", "do")
	case api.NList:
		w.element(t.Type)
		w.put("[")
		w.list(t.Kids)
		w.put("]")
	default:
		w.named(t)
	}
}

// named adds the tokens of an expression with the name of a function or type.
func (w *writer) named(t Term) {
	if t.Kind == api.NMatch {
		w.put("match")
	}
	w.qname(t.Name)
	switch t.Kind {
	case api.NCall:
		w.put("(")
		w.list(t.Kids)
		w.put(")")
	case api.NRec:
		w.parts(t.Names, "=", t.Kids)
	case api.NCase:
		w.put(":", t.Field, "(")
		w.term(t.Kids[0])
		w.put(")")
	case api.NField:
		w.put(":", t.Field, "[")
		w.term(t.Kids[0])
		w.put("]")
	case api.NMatch:
		w.put("(")
		w.term(t.Kids[0])
		w.put(")")
		w.parts(t.Names, "->", t.Kids[1:])
	}
}

// number adds the tokens of a number.
func (w *writer) number(n int) {
	if n < 0 {
		w.put("-")
		n = -n
	}
	w.put(strconv.Itoa(n))
}

// operation adds the tokens of an operation.
func (w *writer) operation(t Term) {
	s := w.signs[t.N]
	if len(t.Kids) == 1 {
		w.put(s.token)
		w.operand(t.Kids[0], s.line)
		return
	}
	left := s.line
	if s.line == lineCmp { // the only line that has one operator at most
		left++
	}
	w.operand(t.Kids[0], left)
	w.put(s.token)
	w.operand(t.Kids[1], s.line+1)
}

// operand adds the tokens of an expression where the grammar requires one of a line or of a further one.
func (w *writer) operand(t Term, line int) {
	if w.line(t) >= line {
		w.term(t)
		return
	}
	w.put("(")
	w.term(t)
	w.put(")")
}

// line returns the line of the grammar of a term.
func (w *writer) line(t Term) int {
	switch t.Kind {
	case api.NIf, api.NLet, api.NFold:
		return lineExpr
	case api.NOp:
		return w.signs[t.N].line
	}
	return lineAtom
}

// steps adds the tokens of expressions, each with a token before it.
func (w *writer) steps(kids []Term, before ...string) {
	for i, k := range kids {
		w.put(before[i])
		w.term(k)
	}
}

// list adds the tokens of expressions with commas between them.
func (w *writer) list(kids []Term) {
	for i, k := range kids {
		w.comma(i)
		w.term(k)
	}
}

// parts adds the tokens of expressions in braces, each with its share of the names and a sign before it.
func (w *writer) parts(names []string, sign string, kids []Term) {
	w.put("{")
	for i, k := range kids {
		w.comma(i)
		share := len(names) / len(kids)
		w.put(names[i*share : (i+1)*share]...)
		w.put(sign)
		w.term(k)
	}
	w.put("}")
}
