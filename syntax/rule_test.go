package syntax_test

import (
	"math/rand"
	"regexp"
	"slices"
	"strconv"
	"strings"
	"testing"

	"splicery/api"
	"splicery/lex"
	"splicery/syntax"
)

// grammar is that of the chapter, where "positive" is a numeral that is not 0.
const grammar = `
SOURCE = "module" name { "use" name } { DEF }
DEF    = "rec" name SLOTS | "case" name SLOTS
       | ("fun" | "on" | "conv") name SLOTS TYPE "=" EXPR | "test" name INPUTS TYPE "=" EXPR
SLOTS  = "(" [ name TYPE { "," name TYPE } ] ")"
INPUTS = "(" [ name TYPE numeral { "," name TYPE numeral } ] ")"
TYPE   = "Int" | "Bool" | "List" "(" TYPE ")" | QNAME
QNAME  = name [ "." name ]
EXPR   = "if" EXPR "then" EXPR "else" EXPR | "let" name "=" EXPR "in" EXPR
       | "fold" name "," name "=" EXPR "over" EXPR "do" EXPR | OR
OR     = AND { "or" AND }            AND  = CMP { "and" CMP }
CMP    = JOIN [ ("<" | "==") JOIN ]  JOIN = SUM { "join" SUM }
SUM    = PROD { ("+" | "-") PROD }   PROD = UNARY { ("*" | "/" | "%") UNARY }
UNARY  = "not" UNARY | "len" UNARY | ATOM
ATOM   = numeral | "-" positive | "true" | "false" | name
       | QNAME "(" [ EXPR { "," EXPR } ] ")" | QNAME "{" [ name "=" EXPR { "," name "=" EXPR } ] "}"
       | QNAME ":" name "(" EXPR ")" | QNAME ":" name "[" EXPR "]"
       | "match" QNAME "(" EXPR ")" "{" name name "->" EXPR { "," name name "->" EXPR } "}"
       | "List" "(" TYPE ")" "[" [ EXPR { "," EXPR } ] "]" | "(" EXPR ")"
`

const keywords = " module use rec case fun on test conv true false not and or if then else let in match fold over do len join List Int Bool "

var (
	grammarPart = regexp.MustCompile(`"[^"]*"|[A-Za-z]+|[][{}()|=]`)
	isWord      = regexp.MustCompile(`^[A-Za-z][A-Za-z0-9]{0,15}$`)
	isNumeral   = regexp.MustCompile(`^(0|[1-9][0-9]{0,12})$`)
)

// isTerminal reports whether a token is what a terminal of the grammar asks for.
func isTerminal(terminal, token string) bool {
	switch terminal {
	case "name":
		return isWord.MatchString(token) && !strings.Contains(keywords, " "+token+" ")
	case "numeral", "positive":
		n, _ := strconv.Atoi(token)
		return isNumeral.MatchString(token) && n <= 1<<40 && (n > 0 || terminal == "numeral")
	}
	return terminal == `"`+token+`"`
}

// rule says that a nonterminal can stand for a list of symbols.
type rule struct {
	left  string
	right []string
}

// table has the rules of a grammar without brackets, by their nonterminals, and which of these can stand for nothing.
type table struct {
	rules  []rule
	of     map[string][]int
	empty  map[string]bool
	parts  []string
	helped int
}

func newTable() *table {
	t := &table{of: map[string][]int{}, empty: map[string]bool{}, parts: grammarPart.FindAllString(grammar, -1)}
	for len(t.parts) > 0 {
		left := t.parts[0]
		t.parts = t.parts[2:]
		t.alternatives(left)
	}
	for range t.rules {
		for _, r := range t.rules {
			if !slices.ContainsFunc(r.right, func(s string) bool { return !t.empty[s] }) {
				t.empty[r.left] = true
			}
		}
	}
	return t
}

func (t *table) add(left string, right ...string) {
	t.of[left] = append(t.of[left], len(t.rules))
	t.rules = append(t.rules, rule{left, right})
}

// alternatives reads alternatives up to a closing bracket or the next nonterminal with "=".
func (t *table) alternatives(left string) {
	var right []string
	for len(t.parts) > 0 && (len(t.parts) == 1 || t.parts[1] != "=") {
		part := t.parts[0]
		t.parts = t.parts[1:]
		switch part {
		case ")", "]", "}":
			t.add(left, right...)
			return
		case "|":
			t.add(left, right...)
			right = nil
		case "(", "[", "{":
			t.helped++
			help := "help" + strconv.Itoa(t.helped)
			t.alternatives(help)
			t.of[help+"*"] = nil
			switch part {
			case "[":
				t.add(help)
			case "{":
				t.add(help+"*", help, help+"*")
				t.add(help + "*")
				help += "*"
			}
			right = append(right, help)
		default:
			right = append(right, part)
		}
	}
	t.add(left, right...)
}

// item is a rule of which dot symbols have been found from a place on.
type item struct{ rule, dot, from int }

// chart recognizes lists of tokens by Earley's algorithm.
type chart struct {
	*table
	sets [][]item
}

func newChart() *chart {
	c := &chart{table: newTable(), sets: [][]item{nil}}
	seen := map[item]bool{}
	for _, r := range c.of["SOURCE"] {
		c.enter(item{r, 0, 0}, seen)
	}
	c.finish(seen)
	return c
}

// enter adds an item to the last set.
func (c *chart) enter(x item, seen map[item]bool) {
	if !seen[x] {
		seen[x] = true
		c.sets[len(c.sets)-1] = append(c.sets[len(c.sets)-1], x)
	}
}

// finish adds to the last set all items that follow from its items.
func (c *chart) finish(seen map[item]bool) {
	last := len(c.sets) - 1
	for i := 0; i < len(c.sets[last]); i++ {
		x := c.sets[last][i]
		r := c.rules[x.rule]
		if x.dot < len(r.right) {
			s := r.right[x.dot]
			for _, k := range c.of[s] {
				c.enter(item{k, 0, last}, seen)
			}
			if c.empty[s] {
				c.enter(item{x.rule, x.dot + 1, x.from}, seen)
			}
			continue
		}
		for _, y := range c.sets[x.from] {
			if r2 := c.rules[y.rule]; y.dot < len(r2.right) && r2.right[y.dot] == r.left {
				c.enter(item{y.rule, y.dot + 1, y.from}, seen)
			}
		}
	}
}

// push adds a token; false, if it cannot stand there.
func (c *chart) push(token string) bool {
	before := c.sets[len(c.sets)-1]
	c.sets = append(c.sets, nil)
	seen := map[item]bool{}
	for _, x := range before {
		if r := c.rules[x.rule]; x.dot < len(r.right) && c.of[r.right[x.dot]] == nil && isTerminal(r.right[x.dot], token) {
			c.enter(item{x.rule, x.dot + 1, x.from}, seen)
		}
	}
	c.finish(seen)
	return len(seen) > 0
}

// pop takes the last token away.
func (c *chart) pop() { c.sets = c.sets[:len(c.sets)-1] }

// complete reports whether the tokens are a source.
func (c *chart) complete() bool {
	return slices.ContainsFunc(c.sets[len(c.sets)-1], func(x item) bool {
		return c.rules[x.rule].left == "SOURCE" && x.from == 0 && x.dot == len(c.rules[x.rule].right)
	})
}

// place returns the number of the first token that cannot stand there by the grammar, the number of all of them, if others would have to follow, or -1.
func (c *chart) place(tokens []string) int {
	defer func() { c.sets = c.sets[:1] }()
	for i, s := range tokens {
		if !c.push(s) {
			return i
		}
	}
	if !c.complete() {
		return len(tokens)
	}
	return -1
}

// obeys checks what Parse says of a text against the grammar: place is what it says of its tokens. It returns what Parse returns.
func obeys(t *testing.T, s string, place int) (syntax.Source, int) {
	t.Helper()
	read, at := syntax.Parse(s)
	tokens, _, _ := lex.Scan(s)
	switch {
	case place == len(tokens):
		stops(t, s, len(s))
	case place >= 0:
		stops(t, s, len(lex.Text(tokens[:place], tokens[place].Before)))
	case at == -1:
		reads(t, s)
	default:
		if at >= len(s) || s[at] != '(' {
			t.Fatalf("P6.2: Parse of %q returns %d", s, at)
		}
		stops(t, s, at)
	}
	return read, at
}

// walk extends tokens by up to n tokens of an alphabet, as far as the grammar allows them, and checks all that it comes across.
func walk(t *testing.T, c *chart, tokens, alphabet []string, n int) {
	place := len(tokens)
	if c.complete() {
		place = -1
	}
	obeys(t, strings.Join(tokens, " "), place)
	if n == 0 {
		return
	}
	for _, s := range alphabet {
		longer := append(tokens[:len(tokens):len(tokens)], s)
		if c.push(s) {
			walk(t, c, longer, alphabet, n-1)
		} else {
			obeys(t, strings.Join(longer, " "), len(tokens))
			obeys(t, strings.Join(longer, " ")+" )", len(tokens))
		}
		c.pop()
	}
}

// walkFrom walks from the tokens of a text on.
func walkFrom(t *testing.T, s string, alphabet []string, n int) {
	t.Helper()
	c := newChart()
	for _, s := range texts(s) {
		if !c.push(s) {
			t.Fatalf("%q does not begin a source", s)
		}
	}
	walk(t, c, texts(s), alphabet, n)
}

func TestGrammar(t *testing.T) {
	every := strings.Fields(keywords + "a 0 1 01 1099511627776 1099511627777 ( ) { } [ ] , : . = == -> + - * / % <")
	walkFrom(t, "", every, 3)
	walkFrom(t, "module m rec", every, 5)
	walkFrom(t, "module m use k test t (x Int 1", every, 5)
	walkFrom(t, head, every, 3)
	walkFrom(t, head+"a", every, 3)
	walkFrom(t, head+"match k.S(a) {A x -> b", every, 3)
	walkFrom(t, head+"fold x, y = a over b do List(k.P)", every, 3)
	for _, s := range []string{"a ( ) + * not", "a ( ) < == -", "a ( ) . { } =", "a ( ) : [ ]", "a if then else or", "a let = in and (", "a fold , = over do", "a match ( ) { } -> ,", "a List ( ) [ ] Int", "1 ( ) + join and or"} {
		walkFrom(t, head, strings.Fields(s), 6)
	}
}

// maker makes sources by chance.
type maker struct {
	*rand.Rand
	*table
}

func newMaker(seed int64) maker {
	return maker{rand.New(rand.NewSource(seed)), newTable()}
}

// pick returns one of some words.
func (m maker) pick(words string) string {
	l := strings.Fields(words)
	return l[m.Intn(len(l))]
}

// derive returns tokens that a symbol of the grammar can stand for. Beyond a depth it takes short rules.
func (m maker) derive(symbol string, depth int) []string {
	switch symbol {
	case "name":
		return []string{m.pick("a b c d x y f g P S abcdefghijklmnop Z9")}
	case "numeral":
		return []string{m.pick("0 1 2 12 1099511627776")}
	case "positive":
		return []string{m.pick("1 2 12 1099511627776")}
	}
	rules := m.of[symbol]
	if rules == nil {
		return []string{strings.Trim(symbol, `"`)}
	}
	r := m.rules[rules[m.Intn(len(rules))]]
	switch { // most rules of these lead to ever more tokens
	case strings.HasSuffix(symbol, "*"):
		r = m.rules[rules[min(m.Intn(5), 1)]]
	case (symbol == "EXPR" || symbol == "UNARY") && m.Intn(4) > 0:
		r = m.rules[rules[len(rules)-1]]
	}
	if depth <= 0 {
		switch {
		case symbol == "EXPR":
			r = m.rules[rules[len(rules)-1]]
		case symbol == "ATOM" || symbol == "TYPE":
			r = m.rules[rules[0]]
		case symbol == "UNARY" || m.empty[symbol]:
			r = m.rules[rules[len(rules)-1]]
		}
	}
	var l []string
	for _, s := range r.right {
		l = append(l, m.derive(s, depth-1)...)
	}
	return l
}

// source returns tokens that the grammar derives.
func (m maker) source(depth int) []string {
	l := []string{"module", m.pick("m k")}
	for range m.Intn(3) {
		l = append(l, "use", m.pick("m k j"))
	}
	for range m.Intn(4) {
		l = append(l, m.derive("DEF", depth)...)
	}
	return l
}

// blanks returns blanks that can stand between tokens.
func (m maker) blanks() string {
	s := ""
	for range 1 + m.Intn(2) {
		s += []string{" ", " ", "\n", "  ", "#\n", "# ) x?\n", "\n\n", " #\n"}[m.Intn(8)]
	}
	return s
}

// text returns a text of tokens.
func (m maker) text(tokens []string) string {
	s := ""
	if m.Intn(2) == 0 {
		s = m.blanks()
	}
	for i, k := range tokens {
		if i > 0 {
			s += m.blanks()
		}
		s += k
	}
	if m.Intn(2) == 0 {
		s += m.blanks()
	}
	if m.Intn(4) == 0 {
		s += "# the end"
	}
	return s
}

// change changes tokens at a place or two.
func (m maker) change(tokens []string) []string {
	l := slices.Clone(tokens)
	for range 1 + m.Intn(2) {
		if len(l) == 0 {
			return l
		}
		i := m.Intn(len(l))
		other := m.pick(keywords + "a b x 0 1 007 1099511627777 ( ) { } [ ] , : . = == -> + - * / % <")
		switch m.Intn(5) {
		case 0:
			l = slices.Delete(l, i, i+1)
		case 1:
			l = slices.Insert(l, i, other)
		case 2:
			l[i] = other
		case 3:
			j := m.Intn(len(l))
			l[i], l[j] = l[j], l[i]
		case 4:
			l = l[:i]
		}
	}
	return l
}

// TestDerived has tokens that the grammar derives, all their beginnings, and changed ones.
func TestDerived(t *testing.T) {
	m, c := newMaker(1), newChart()
	counts := map[bool]int{}
	for i := range 1500 {
		tokens := m.source(10 + m.Intn(30))
		if len(tokens) > 400 {
			continue
		}
		s := m.text(tokens)
		if len(s) > 8192 {
			continue
		}
		read, at := obeys(t, s, -1)
		counts[at == -1]++
		if i%20 == 0 && len(tokens) < 100 {
			for n := range tokens {
				s := m.text(tokens[:n])
				obeys(t, s, c.place(tokens[:n]))
			}
		}
		for range 3 {
			changed := m.change(tokens)
			_, at := obeys(t, m.text(changed), c.place(changed))
			follows(t, m, m.text(changed))
			counts[at == -1]++
		}
		if at == -1 {
			otherLayouts(t, m, tokens, read)
		}
	}
	if counts[true] < 300 || counts[false] < 300 {
		t.Errorf("%d texts are read, and %d are not", counts[true], counts[false])
	}
}

// TestEnds has texts that end too early, at each token.
func TestEnds(t *testing.T) {
	m, c := newMaker(4), newChart()
	tokens := texts("module m use k use j rec P (x Int, y List(k.P)) rec Q () case S (A Bool) on h (s P, e S) P = k.P{x = -1, y = Q{}} conv v (p P) P = p" +
		" test t (x Int 2, y Bool 0) List(Int) = if x < 1 and not y then List(Int)[f(1, 2), a - b] join List(List(Int))[] else let z = k.S:A(k.P:x[p]) in fold u, v = 0 over g() do (u + v) * 2" +
		" fun f () j.P = match k.S(a == true or false) {A x -> (if a then b else c) / 2 % 3, B y -> len (a join b)}")
	reads(t, strings.Join(tokens, " "))
	for n := range len(tokens) + 1 {
		for _, blanks := range []string{"", " ", "\n", " # x"} {
			obeys(t, strings.Join(tokens[:n], " ")+blanks, c.place(tokens[:n]))
		}
		obeys(t, m.text(tokens[:n]), c.place(tokens[:n]))
	}
}

// follows checks P6.8 for a text: nothing is read that begins with it up to the token at which it stops.
func follows(t *testing.T, m maker, s string) {
	t.Helper()
	_, at := syntax.Parse(s)
	if at < 0 || at == len(s) || s[at] == '(' {
		return
	}
	end := at + len(texts(s[at:])[0])
	for range 5 {
		// A line end keeps the token from becoming longer.
		tail := "\n" + strings.Join(m.derive(m.pick("SOURCE DEF EXPR TYPE ATOM"), 20), " ")
		if _, other := syntax.Parse(s[:end] + tail); other != at && len(s[:end]+tail) <= 8192 {
			t.Fatalf("P6.8: Parse of %q returns %d, that of %q %d", s, at, s[:end]+tail, other)
		}
	}
}

// otherLayouts checks P6.7 for tokens: with other blanks they are read as the same source. So they are with the usual layouts.
func otherLayouts(t *testing.T, m maker, tokens []string, want syntax.Source) {
	t.Helper()
	for range 3 {
		s := m.text(tokens)
		if read, at := syntax.Parse(s); len(s) <= 8192 && (at != -1 || !syntax.Same(read, want)) {
			t.Fatalf("P6.7: Parse of %q returns %v, %d", s, read, at)
		}
	}
	plain := syntax.Source{Name: want.Name, Uses: want.Uses}
	for _, f := range want.Defs {
		if m.Intn(3) > 0 {
			f.Layout = nil
		}
		plain.Defs = append(plain.Defs, f)
	}
	plain.End = want.End
	if n := len(plain.Defs); n > 0 && plain.Defs[n-1].Layout == nil || m.Intn(2) == 0 {
		plain.End = strings.TrimLeft(plain.End, "\n")
	}
	s := textOf(plain)
	read, at := syntax.Parse(s)
	valid := len(s) <= 8192 && at == -1 && syntax.Same(read, plain) && read.End == plain.End
	for i, f := range plain.Defs {
		valid = valid && (f.Layout == nil || slices.Equal(f.Layout, read.Defs[i].Layout))
	}
	if syntax.Valid(plain) != valid {
		t.Fatalf("P6.3: Valid of %+v is %t", plain, !valid)
	}
	plain.End = ""
	for i := range plain.Defs {
		plain.Defs[i].Layout = nil
	}
	if syntax.Valid(plain) != (len(textOf(plain)) <= 8192) {
		t.Fatalf("P6.3: Valid of %+v in the usual layout is %t", plain, syntax.Valid(plain))
	}
}

// lineOf returns the place of the line of the grammar to which a term belongs: 0 for that of EXPR, 1 and further ones for those of the operators, 8 for that of ATOM.
func lineOf(x term) int {
	switch x.Kind {
	case api.NIf, api.NLet, api.NFold:
		return 0
	case api.NOp:
		return slices.IndexFunc(lines, func(l []string) bool { return slices.Contains(l, signOf(x.N)) }) + 1
	}
	return 8
}

// signOf returns the operator of an operation.
func signOf(n int) string {
	return strings.Fields("+ - * / % < == and or not join len")[n]
}

// writing writes terms, with pairs of parentheses around each one as extra says.
type writing struct {
	extra func() int
}

// term writes a term where the grammar requires an expression of a line.
func (w writing) term(x term, line int) []string {
	l := w.inside(x)
	pairs := w.extra()
	if lineOf(x) < line {
		pairs++
	}
	for range pairs {
		l = slices.Concat([]string{"("}, l, []string{")"})
	}
	return l
}

// inside writes a term without parentheses.
func (w writing) inside(x term) []string {
	var l []string
	put := func(s ...string) { l = append(l, s...) }
	kid := func(i, line int) { put(w.term(x.Kids[i], line)...) }
	qname := func(s string) { put(strings.Fields(strings.ReplaceAll(s, ".", " . "))...) }
	kids := func(open, closing string, names func(i int)) {
		put(open)
		for i := range x.Kids {
			if i > 0 {
				put(",")
			}
			names(i)
			kid(i, 0)
		}
		put(closing)
	}
	none := func(int) {}
	switch x.Kind {
	case api.NInt:
		put(strings.Fields(strings.ReplaceAll(strconv.Itoa(x.N), "-", "- "))...)
	case api.NBool:
		put([]string{"false", "true"}[x.N])
	case api.NVar:
		put(x.Name)
	case api.NCall:
		qname(x.Name)
		kids("(", ")", none)
	case api.NOp:
		line := lineOf(x)
		switch {
		case line == 7:
			put(signOf(x.N))
			kid(0, 7)
		case line == 3:
			kid(0, 4)
			put(signOf(x.N))
			kid(1, 4)
		default:
			kid(0, line)
			put(signOf(x.N))
			kid(1, line+1)
		}
	case api.NIf:
		for i, s := range []string{"if", "then", "else"} {
			put(s)
			kid(i, 0)
		}
	case api.NLet:
		put("let", x.Names[0], "=")
		kid(0, 0)
		put("in")
		kid(1, 0)
	case api.NRec:
		qname(x.Name)
		kids("{", "}", func(i int) { put(x.Names[i], "=") })
	case api.NField, api.NCase:
		qname(x.Name)
		put(":", x.Field)
		kids(map[int]string{api.NField: "[", api.NCase: "("}[x.Kind], map[int]string{api.NField: "]", api.NCase: ")"}[x.Kind], none)
	case api.NMatch:
		put("match")
		qname(x.Name)
		put("(")
		kid(0, 0)
		put(")")
		names := x.Names
		x.Kids = x.Kids[1:]
		kids("{", "}", func(i int) { put(names[2*i], names[2*i+1], "->") })
	case api.NList:
		put(wordOf(listOf(x.Type))...)
		kids("[", "]", none)
	case api.NFold:
		put("fold", x.Names[0], ",", x.Names[1], "=")
		kid(1, 0)
		put("over")
		kid(0, 0)
		put("do")
		kid(2, 0)
	}
	return l
}

// wordOf returns the tokens of a type.
func wordOf(w word) []string {
	if w.Name == "List" {
		return slices.Concat([]string{"List", "("}, wordOf(w.Kids[0]), []string{")"})
	}
	return strings.Fields(strings.ReplaceAll(w.Name, ".", " . "))
}

// word returns a type.
func (m maker) word() word {
	if m.Intn(3) == 0 {
		return listOf(m.word())
	}
	return named(m.pick("Int Bool P k.P"))
}

// term returns a term of up to a depth.
func (m maker) term(depth int) term {
	if depth == 0 {
		return []term{num(m.Intn(5) - 2), num(api.MaxInt), num(-api.MaxInt), {Kind: api.NBool, N: m.Intn(2)}, name(m.pick("a b c"))}[m.Intn(5)]
	}
	kids := func(n int) []term {
		var l []term
		for range n {
			l = append(l, m.term(m.Intn(depth)))
		}
		return l
	}
	names := func(n int) string {
		s := ""
		for range n {
			s += m.pick("x y z a") + " "
		}
		return s
	}
	qname := m.pick("f P k.f k.P")
	n := m.Intn(4)
	switch m.Intn(14) {
	case 0:
		return call(qname, kids(n)...)
	case 1:
		return choice(m.term(depth-1), m.term(m.Intn(depth)), m.term(m.Intn(depth)))
	case 2:
		return let(m.pick("x y"), m.term(m.Intn(depth)), m.term(depth-1))
	case 3:
		return record(qname, names(n), kids(n)...)
	case 4:
		return field(qname, m.pick("x y"), m.term(depth-1))
	case 5:
		return variant(qname, m.pick("A B"), m.term(depth-1))
	case 6:
		return match(qname, names(2*n+2), kids(n+2)...)
	case 7:
		return list(m.word(), kids(n)...)
	case 8:
		return fold(m.pick("x y"), m.pick("x y"), m.term(depth-1), m.term(m.Intn(depth)), m.term(m.Intn(depth)))
	}
	o := m.Intn(api.Len + 1)
	if o == api.Not || o == api.Len {
		return op(o, m.term(depth-1))
	}
	return op(o, m.term(m.Intn(depth)), m.term(m.Intn(depth)))
}

// TestTermsOfChance has terms with the parentheses that they need, and with further ones.
func TestTermsOfChance(t *testing.T) {
	m := newMaker(2)
	for range 8000 {
		x := m.term(m.Intn(7))
		front := texts("module m fun f (a Int) Int =")
		plain := slices.Concat(front, writing{func() int { return 0 }}.term(x, 0))
		if got := syntax.Tokens(form{Kind: api.KFun, Name: "f", Slots: fields("a", named("Int"), 0), Result: named("Int"), Body: x}); !slices.Equal(got, plain[2:]) {
			t.Fatalf("P6.1: the tokens of %v are %q, not %q", x, got, plain[2:])
		}
		s := m.text(plain)
		if len(s) > 8192 {
			continue
		}
		if read := reads(t, s); !sameTerm(read.Defs[0].Body, x) {
			t.Fatalf("P6.2: %q is read as %v, not as %v", s, read.Defs[0].Body, x)
		}
		further := slices.Concat(front, writing{func() int { return max(0, m.Intn(60)-57) }}.term(x, 0))
		s = m.text(further)
		if len(further) == len(plain) || len(s) > 8192 {
			continue
		}
		first := 0
		for further[first] == plain[first] {
			first++
		}
		l, _, _ := lex.Scan(s)
		stops(t, s, len(lex.Text(l[:first], l[first].Before)))
	}
}

// TestAnyBytes has texts that are hardly ever read.
func TestAnyBytes(t *testing.T) {
	m, c := newMaker(3), newChart()
	for range 3000 {
		s := m.text(m.source(10 + m.Intn(20)))
		for range 1 + m.Intn(3) {
			i := m.Intn(len(s) + 1)
			s = s[:i] + string([]byte{"?>ab019 \n#()=-.\xff"[m.Intn(16)]}) + s[i:]
		}
		if _, _, at := lex.Scan(s); at != -1 {
			stops(t, s, at)
			continue
		}
		if l := texts(s); len(l) < 200 {
			obeys(t, s, c.place(l))
		}
	}
}
