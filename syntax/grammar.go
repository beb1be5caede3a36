package syntax

import (
	"strings"

	"splicery/api"
	"splicery/lex"
)

// The lines of the grammar of expressions. An expression of a line may stand wherever the grammar requires one of this line or of one before it; elsewhere it needs parentheses.
const (
	lineExpr = iota
	lineOr
	lineAnd
	lineCmp
	lineJoin
	lineSum
	lineProd
	lineUnary
	lineAtom
)

// operator is an operation, and the line of the grammar in which it stands.
type operator struct{ n, line int }

// operators returns the operators by their tokens.
func operators() map[string]operator {
	return map[string]operator{
		"or":   {api.Or, lineOr},
		"and":  {api.And, lineAnd},
		"<":    {api.Less, lineCmp},
		"==":   {api.Same, lineCmp},
		"join": {api.Join, lineJoin},
		"+":    {api.Add, lineSum},
		"-":    {api.Sub, lineSum},
		"*":    {api.Mul, lineProd},
		"/":    {api.Div, lineProd},
		"%":    {api.Rem, lineProd},
		"not":  {api.Not, lineUnary},
		"len":  {api.Len, lineUnary},
	}
}

// keywords has the keyword with which the definitions of each kind begin.
var keywords = [...]string{api.KRec: "rec", api.KCase: "case", api.KFun: "fun", api.KOn: "on", api.KTest: "test", api.KConv: "conv"}

// isForm reports whether a form is proper.
func isForm(f Form) bool {
	if f.Kind < 0 || f.Kind >= len(keywords) || !lex.Word(f.Name) {
		return false
	}
	most := 0
	if f.Kind == api.KTest {
		most = api.MaxInt
	}
	for _, s := range f.Slots {
		if !lex.Word(s.Name) || !isWord(s.Type) || s.Most < 0 || s.Most > most {
			return false
		}
	}
	if !hasBody(f.Kind) {
		return sameWord(f.Result, Word{}) && sameTerm(f.Body, Term{})
	}
	return isWord(f.Result) && isTerm(f.Body)
}

// isWord reports whether the grammar can produce a type.
func isWord(w Word) bool {
	switch w.Name {
	case "Int", "Bool":
		return len(w.Kids) == 0
	case "List":
		return len(w.Kids) == 1 && isWord(w.Kids[0])
	}
	return len(w.Kids) == 0 && isQName(w.Name)
}

// isTerm reports whether the grammar can produce a term.
func isTerm(t Term) bool {
	if !fits(t) || !areWords(t.Names) || !sameTerm(unused(t), Term{}) {
		return false
	}
	for _, k := range t.Kids {
		if !isTerm(k) {
			return false
		}
	}
	return true
}

// fits reports whether the fields that the kind of a term uses have possible values, apart from the kids and the names themselves.
func fits(t Term) bool {
	kids, names := len(t.Kids), len(t.Names)
	switch t.Kind {
	case api.NInt:
		return t.N >= -api.MaxInt && t.N <= api.MaxInt
	case api.NBool:
		return t.N == 0 || t.N == 1
	case api.NVar:
		return lex.Word(t.Name)
	case api.NCall:
		return isQName(t.Name)
	case api.NOp:
		return kids == operands(t.N)
	case api.NIf:
		return kids == 3
	case api.NLet:
		return kids == 2 && names == 1
	case api.NRec:
		return isQName(t.Name) && names == kids
	case api.NCase, api.NField:
		return isQName(t.Name) && lex.Word(t.Field) && kids == 1
	case api.NMatch:
		return isQName(t.Name) && kids > 1 && names == 2*(kids-1)
	case api.NList:
		return isWord(t.Type)
	case api.NFold:
		return kids == 3 && names == 2
	}
	return false
}

// unused returns a term without its kind and the fields that this uses.
func unused(t Term) Term {
	switch t.Kind {
	case api.NInt, api.NBool:
		t.N = 0
	case api.NVar:
		t.Name = ""
	case api.NCall:
		t.Name, t.Kids = "", nil
	case api.NOp:
		t.N, t.Kids = 0, nil
	case api.NIf:
		t.Kids = nil
	case api.NLet, api.NFold:
		t.Kids, t.Names = nil, nil
	case api.NRec, api.NMatch:
		t.Name, t.Kids, t.Names = "", nil, nil
	case api.NCase, api.NField:
		t.Name, t.Field, t.Kids = "", "", nil
	case api.NList:
		t.Type, t.Kids = Word{}, nil
	}
	t.Kind = 0
	return t
}

// operands returns the number of operands of an operation; -1, if there is no such operation.
func operands(n int) int {
	switch {
	case n < api.Add || n > api.Len:
		return -1
	case n == api.Not || n == api.Len:
		return 1
	}
	return 2
}

// isQName reports whether a text is a name, or two names with a point between them.
func isQName(s string) bool {
	first, second, both := strings.Cut(s, ".")
	return lex.Word(first) && (!both || lex.Word(second))
}

// areWords reports whether all elements of a list are names.
func areWords(l []string) bool {
	for _, s := range l {
		if !lex.Word(s) {
			return false
		}
	}
	return true
}
