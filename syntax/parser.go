package syntax

import (
	"slices"
	"strconv"
	"strings"

	"splicery/api"
	"splicery/lex"
)

// parser reads tokens. Once it has failed, there are no further tokens for it, and at stays at the one that cannot stand there.
type parser struct {
	tokens    []lex.Token
	at        int      // the number of tokens that have been read
	gaps      []string // what stands before each token and behind the last one, and belongs to no layout so far
	failed    bool
	operators map[string]operator
}

func newParser(tokens []lex.Token, end string) *parser {
	p := &parser{tokens: tokens, operators: operators()}
	for _, t := range tokens {
		p.gaps = append(p.gaps, t.Before)
	}
	p.gaps = append(p.gaps, end)
	return p
}

// next returns the next token without reading it; the empty string, if there is none.
func (p *parser) next() string {
	if p.at < len(p.tokens) {
		return p.tokens[p.at].Text
	}
	return ""
}

// fail says that the next token cannot stand there.
func (p *parser) fail() {
	p.failed = true
	p.tokens = p.tokens[:p.at]
}

// take reads the next token, if it is this one, and reports whether it is.
func (p *parser) take(token string) bool {
	if p.next() != token {
		return false
	}
	p.at++
	return true
}

// expect reads this token.
func (p *parser) expect(token string) {
	if !p.take(token) {
		p.fail()
	}
}

// name reads a name.
func (p *parser) name() string {
	s := p.next()
	if !lex.Word(s) {
		p.fail()
		return ""
	}
	p.at++
	return s
}

// qname reads a name, or two with a point between them.
func (p *parser) qname() string {
	s := p.name()
	if p.take(".") {
		return s + "." + p.name()
	}
	return s
}

// numeral reads a numeral.
func (p *parser) numeral() int {
	s := p.next()
	n, e := strconv.Atoi(s)
	if e != nil || n > api.MaxInt || strconv.Itoa(n) != s {
		p.fail()
		return 0
	}
	p.at++
	return n
}

// list reads elements with commas between them, if there are any, and the sign that closes the list.
func list[T any](p *parser, closing string, read func() T) []T {
	if p.take(closing) {
		return nil
	}
	l := []T{read()}
	for p.take(",") {
		l = append(l, read())
	}
	p.expect(closing)
	return l
}

// layout returns the layout of the tokens that have been read from one on. What stands behind the last one belongs to it up to the first line end.
func (p *parser) layout(from int) []string {
	behind := p.gaps[p.at]
	size := strings.IndexByte(behind, '\n') + 1
	if size == 0 {
		size = len(behind)
	}
	p.gaps[p.at] = behind[size:]
	return append(slices.Clone(p.gaps[from:p.at]), behind[:size])
}

func (p *parser) source() Source {
	var s Source
	p.expect("module")
	s.Name = p.name()
	for p.take("use") {
		s.Uses = append(s.Uses, p.name())
	}
	s.Head = p.layout(0)
	for p.at < len(p.tokens) {
		s.Defs = append(s.Defs, p.form())
	}
	s.End = p.gaps[p.at]
	return s
}

func (p *parser) form() Form {
	from := p.at
	f := Form{Kind: p.kind()}
	f.Name = p.name()
	slot := p.slot
	if f.Kind == api.KTest {
		slot = p.input
	}
	p.expect("(")
	f.Slots = list(p, ")", slot)
	if hasBody(f.Kind) {
		f.Result = p.word()
		p.expect("=")
		f.Body = p.term()
	}
	f.Layout = p.layout(from)
	return f
}

// kind reads the keyword of a kind of definitions.
func (p *parser) kind() int {
	for kind, keyword := range keywords {
		if p.take(keyword) {
			return kind
		}
	}
	p.fail()
	return 0
}

// slot reads a slot of a definition that is no test.
func (p *parser) slot() Field {
	name := p.name()
	return Field{Name: name, Type: p.word()}
}

// input reads a slot of a test.
func (p *parser) input() Field {
	f := p.slot()
	f.Most = p.numeral()
	return f
}

// word reads a type.
func (p *parser) word() Word {
	switch name := p.next(); name {
	case "Int", "Bool":
		p.at++
		return Word{Name: name}
	case "List":
		return Word{Name: name, Kids: []Word{p.element()}}
	}
	return Word{Name: p.qname()}
}

// element reads List and the type of the elements.
func (p *parser) element() Word {
	p.expect("List")
	p.expect("(")
	w := p.word()
	p.expect(")")
	return w
}

// term reads an expression.
func (p *parser) term() Term {
	switch {
	case p.take("if"):
		return p.choice()
	case p.take("let"):
		return p.let()
	case p.take("fold"):
		return p.fold()
	}
	return p.operation(lineOr)
}

// behind reads a token and the expression behind it.
func (p *parser) behind(token string) Term {
	p.expect(token)
	return p.term()
}

func (p *parser) choice() Term {
	condition := p.term()
	then := p.behind("then")
	return Term{Kind: api.NIf, Kids: []Term{condition, then, p.behind("else")}}
}

func (p *parser) let() Term {
	name := p.name()
	value := p.behind("=")
	return Term{Kind: api.NLet, Names: []string{name}, Kids: []Term{value, p.behind("in")}}
}

func (p *parser) fold() Term {
	element := p.name()
	p.expect(",")
	value := p.name()
	start := p.behind("=")
	over := p.behind("over")
	return Term{Kind: api.NFold, Names: []string{element, value}, Kids: []Term{over, start, p.behind("do")}}
}

// operation reads an expression of a line of the grammar or of a further one.
func (p *parser) operation(line int) Term {
	if line == lineUnary {
		return p.unary()
	}
	t := p.operation(line + 1)
	for {
		o, ok := p.operators[p.next()]
		if !ok || o.line != line {
			return t
		}
		p.at++
		t = Term{Kind: api.NOp, N: o.n, Kids: []Term{t, p.operation(line + 1)}}
		if line == lineCmp {
			return t
		}
	}
}

func (p *parser) unary() Term {
	if o, ok := p.operators[p.next()]; ok && o.line == lineUnary {
		p.at++
		return Term{Kind: api.NOp, N: o.n, Kids: []Term{p.unary()}}
	}
	return p.atom()
}

func (p *parser) atom() Term {
	token := p.next()
	switch {
	case token == "List":
		element := p.element()
		p.expect("[")
		return Term{Kind: api.NList, Type: element, Kids: list(p, "]", p.term)}
	case lex.Word(token):
		return p.named()
	case p.take("-"):
		return p.negative()
	case p.take("true"):
		return Term{Kind: api.NBool, N: 1}
	case p.take("false"):
		return Term{Kind: api.NBool}
	case p.take("match"):
		return p.match()
	case p.take("("):
		t := p.term()
		p.expect(")")
		return t
	}
	return Term{Kind: api.NInt, N: p.numeral()}
}

// negative reads a numeral behind "-".
func (p *parser) negative() Term {
	if p.next() == "0" {
		p.fail()
	}
	return Term{Kind: api.NInt, N: -p.numeral()}
}

// named reads an expression that begins with a name.
func (p *parser) named() Term {
	name := p.qname()
	switch {
	case p.take("("):
		return Term{Kind: api.NCall, Name: name, Kids: list(p, ")", p.term)}
	case p.take("{"):
		t := Term{Kind: api.NRec, Name: name}
		t.add(list(p, "}", p.set))
		return t
	case p.take(":"):
		return p.member(name)
	}
	if strings.Contains(name, ".") {
		p.fail()
	}
	return Term{Kind: api.NVar, Name: name}
}

// member reads what stands behind the type and the colon of a case or field.
func (p *parser) member(name string) Term {
	t := Term{Kind: api.NCase, Name: name, Field: p.name()}
	closing := ")"
	if p.take("[") {
		t.Kind, closing = api.NField, "]"
	} else {
		p.expect("(")
	}
	t.Kids = []Term{p.term()}
	p.expect(closing)
	return t
}

func (p *parser) match() Term {
	t := Term{Kind: api.NMatch, Name: p.qname()}
	t.Kids = []Term{p.behind("(")}
	p.expect(")")
	p.expect("{")
	if p.next() == "}" {
		p.fail()
	}
	t.add(list(p, "}", p.branch))
	return t
}

// part is a kid with the names that stand before it.
type part struct {
	names []string
	kid   Term
}

// set reads a field of a record.
func (p *parser) set() part {
	name := p.name()
	return part{[]string{name}, p.behind("=")}
}

// branch reads a case of a match.
func (p *parser) branch() part {
	name := p.name()
	binds := p.name()
	return part{[]string{name, binds}, p.behind("->")}
}

// add adds kids and the names that stand before them.
func (t *Term) add(parts []part) {
	for _, x := range parts {
		t.Names = append(t.Names, x.names...)
		t.Kids = append(t.Kids, x.kid)
	}
}
