package print_test

import (
	"math/rand"
	"slices"
	"strings"
	"testing"

	"splicery/api"
	"splicery/lex"
	"splicery/print"
	"splicery/syntax"
)

// joinedByRule returns the joined text by the words of the chapter.
func joinedByRule(tokens, layout []string) string {
	if len(layout) != len(tokens)+1 {
		layout = append(lex.Usual(tokens)[:len(tokens):len(tokens)], "\n")
	}
	s := ""
	for i, k := range tokens {
		s += layout[i] + k
	}
	return s + layout[len(tokens)]
}

// moduleByRule returns the text of a source by the words of the chapter.
func moduleByRule(s source) string {
	if len(syntax.Heads(s)) == 0 {
		return ""
	}
	text := joinedByRule(syntax.Heads(s), s.Head)
	for _, f := range s.Defs {
		if len(syntax.Tokens(f)) == 0 {
			return ""
		}
		text += joinedByRule(syntax.Tokens(f), f.Layout)
	}
	return text + s.End
}

// commons returns the numbers of tokens that two lists have in common at the beginning and at the end, by the words of the chapter.
func commons(old, now []string) (int, int) {
	a, b := 0, 0
	for a < len(old) && a < len(now) && slices.Equal(old[:a+1], now[:a+1]) {
		a++
	}
	for b < len(old)-a && b < len(now)-a && slices.Equal(old[len(old)-b-1:], now[len(now)-b-1:]) {
		b++
	}
	return a, b
}

// keptByRule returns a layout by the words of the chapter.
func keptByRule(layout, old, now []string) []string {
	if len(layout) != len(old)+1 {
		return nil
	}
	a, b := commons(old, now)
	usual := lex.Usual(now)
	var l []string
	for i := range usual {
		there := i + len(old) - len(now)
		switch {
		case i < a:
			l = append(l, layout[i])
		case i > len(now)-b, i == len(now)-b && layout[there] != "":
			l = append(l, layout[there])
		default:
			l = append(l, usual[i])
		}
	}
	return l
}

// lists returns all lists of up to n elements of an alphabet.
func lists(n int, alphabet ...string) [][]string {
	all := [][]string{nil}
	for i := 0; i < len(all); i++ {
		for _, s := range alphabet {
			if len(all[i]) < n {
				all = append(all, append(slices.Clone(all[i]), s))
			}
		}
	}
	return all
}

// TestShortLists compares Kept with the rule for all short lists of tokens, and for layouts with different elements of which some are empty.
func TestShortLists(t *testing.T) {
	all := lists(4, "a", "b", "(")
	for _, old := range all {
		for mask := range 2 << len(old) {
			layout := parts("0.1.2.3.4")[:len(old)+1]
			for i := range layout {
				if mask>>i&1 == 0 {
					layout[i] = ""
				}
			}
			for _, now := range all {
				if got, want := print.Kept(layout, old, now), keptByRule(layout, old, now); !slices.Equal(got, want) {
					t.Fatalf("P7.4: Kept of %q for %q and %q is %q, not %q", layout, old, now, got, want)
				}
			}
		}
		for n := range 8 {
			if n == len(old)+1 {
				continue
			}
			for _, now := range all {
				if got := print.Kept(make([]string, n), old, now); len(got) > 0 {
					t.Fatalf("P7.4: Kept of %d elements for %q and %q is %q", n, old, now, got)
				}
			}
		}
	}
}

// keeps checks P7.4, P7.7 and P7.8 for tokens with a layout with which they are read, and changed tokens.
func keeps(t *testing.T, layout, old, now []string) {
	t.Helper()
	kept := print.Kept(layout, old, now)
	if want := keptByRule(layout, old, now); !slices.Equal(kept, want) {
		t.Fatalf("P7.4: Kept of %q for %q and %q is %q, not %q", layout, old, now, kept, want)
	}
	text := joinedByRule(now, kept)
	if !isRead(text, now, kept) && len(text) <= 8192 {
		t.Fatalf("P7.7: with Kept of %q for %q and %q the text is %q", layout, old, now, text)
	}
	a, b := commons(old, now)
	if !slices.Equal(kept[:a], layout[:a]) || !slices.Equal(kept[len(now)-b+1:], layout[len(old)-b+1:]) {
		t.Fatalf("P7.7: Kept of %q for %q and %q is %q", layout, old, now, kept)
	}
	if len(old) != len(now) || a == 0 || a+b != len(now)-1 {
		return
	}
	behind := layout[a+1] != "" || a+1 == len(old)
	if behind && layout[a] == " " && lex.Usual(now)[a] == " " {
		replaced := joinedByRule(old[:a], layout[:a+1]) + now[a] + strings.TrimPrefix(joinedByRule(old, layout), joinedByRule(old[:a+1], append(layout[:a+1:a+1], "")))
		if text != replaced {
			t.Fatalf("P7.8: with %q in the place of %q the text is %q, not %q", now[a], old[a], text, replaced)
		}
	}
}

// isRead reports whether a text is read as tokens with a layout.
func isRead(text string, tokens, layout []string) bool {
	l, end, at := lex.Scan(text)
	if at != -1 || len(l) != len(tokens) || end != layout[len(tokens)] {
		return false
	}
	for i, k := range l {
		if k.Text != tokens[i] || k.Before != layout[i] {
			return false
		}
	}
	return true
}

// TestReadAgain has all short lists of tokens with all layouts of some blanks with which they are read.
func TestReadAgain(t *testing.T) {
	check := func(n int, blanks []string, tokens ...string) {
		all := lists(n, tokens...)
		for _, layout := range lists(n+1, blanks...) {
			for _, old := range all {
				if len(layout) != len(old)+1 || !isRead(joinedByRule(old, layout), old, layout) {
					continue
				}
				for _, now := range all {
					keeps(t, layout, old, now)
				}
			}
		}
	}
	check(3, []string{"", " ", "#\n", "#"}, "a", "1", "=", "(")
	check(4, []string{"", " "}, "a", ".", ")")
	check(2, []string{"", "\n", " ", "#a\n"}, "=", "==", "-", "->", "a", "1", ",", "[", "]")
}

// maker makes sources by chance.
type maker struct{ *rand.Rand }

// pick returns one of some words.
func (m maker) pick(words string) string {
	l := strings.Fields(words)
	return l[m.Intn(len(l))]
}

// name returns a name, qname one that may have the name of a module before it.
func (m maker) name() string  { return m.pick("a b c f g P S x1 abcdefghijklmnop") }
func (m maker) qname() string { return m.pick("f g P k.f k.P m.abcdefghijklmnop") }

func (m maker) names(n int) []string {
	var l []string
	for range n {
		l = append(l, m.name())
	}
	return l
}

func (m maker) word() word {
	if m.Intn(4) == 0 {
		return word{Name: "List", Kids: []word{m.word()}}
	}
	return word{Name: m.pick("Int Bool P k.P")}
}

// terms returns n terms of at most some levels.
func (m maker) terms(n, levels int) []term {
	var l []term
	for range n {
		l = append(l, m.term(levels-1))
	}
	return l
}

// term returns a proper term of at most some levels.
func (m maker) term(levels int) term {
	kinds := []int{api.NInt, api.NBool, api.NVar, api.NCall, api.NOp, api.NOp, api.NOp, api.NOp, api.NIf, api.NLet, api.NRec, api.NCase, api.NField, api.NMatch, api.NList, api.NFold}
	if levels <= 0 {
		kinds = kinds[:3]
	}
	t := term{Kind: kinds[m.Intn(len(kinds))]}
	switch n := m.Intn(3); t.Kind {
	case api.NInt:
		t.N = []int{0, 1, -1, 12, api.MaxInt, -api.MaxInt}[m.Intn(6)]
	case api.NBool:
		t.N = m.Intn(2)
	case api.NVar:
		t.Name = m.name()
	case api.NCall:
		t.Name, t.Kids = m.qname(), m.terms(n, levels)
	case api.NOp:
		t.N = m.Intn(api.Len + 1)
		t.Kids = m.terms(2, levels)
		if t.N == api.Not || t.N == api.Len {
			t.Kids = t.Kids[:1]
		}
	case api.NIf:
		t.Kids = m.terms(3, levels)
	case api.NLet:
		t.Names, t.Kids = m.names(1), m.terms(2, levels)
	case api.NRec:
		t.Name, t.Names, t.Kids = m.qname(), m.names(n), m.terms(n, levels)
	case api.NCase, api.NField:
		t.Name, t.Field, t.Kids = m.qname(), m.name(), m.terms(1, levels)
	case api.NMatch:
		t.Name, t.Names, t.Kids = m.qname(), m.names(2*n+2), m.terms(n+2, levels)
	case api.NList:
		t.Type, t.Kids = m.word(), m.terms(n, levels)
	case api.NFold:
		t.Names, t.Kids = m.names(2), m.terms(3, levels)
	}
	return t
}

// form returns a proper form.
func (m maker) form() form {
	f := form{Kind: m.Intn(api.KConv + 1), Name: m.name()}
	for range m.Intn(4) {
		s := syntax.Field{Name: m.name(), Type: m.word()}
		if f.Kind == api.KTest {
			s.Most = []int{0, 1, 30, api.MaxInt}[m.Intn(4)]
		}
		f.Slots = append(f.Slots, s)
	}
	if f.Kind != api.KRec && f.Kind != api.KCase {
		f.Result, f.Body = m.word(), m.term(m.Intn(6))
	}
	return f
}

// source returns a source without layout in which everything is proper.
func (m maker) source() source {
	s := source{Name: m.name(), Uses: m.names(m.Intn(3))}
	for range m.Intn(4) {
		s.Defs = append(s.Defs, m.form())
	}
	return s
}

// blanks returns blanks in which each comment is followed by a line end.
func (m maker) blanks() string {
	s := ""
	for range 1 + m.Intn(2) {
		s += []string{" ", " ", " ", "\n", "  ", "#\n", "# ) x?\n", "\n\n", " #\n"}[m.Intn(9)]
	}
	return s
}

// layout returns a layout with which tokens are read.
func (m maker) layout(tokens []string) []string {
	l := lex.Usual(tokens)
	for i := range l {
		if m.Intn(3) == 0 {
			l[i] = m.blanks()
		}
	}
	// Some pairs of tokens need nothing between them.
	for i := range len(tokens) {
		if i > 0 && m.Intn(3) == 0 && isRead(tokens[i-1]+tokens[i], tokens[i-1:i+1], []string{"", "", ""}) {
			l[i] = ""
		}
	}
	if m.Intn(3) == 0 {
		l[len(tokens)] += "# end"
	}
	return l
}

// tokens returns the tokens of a source.
func tokens(s source) []string {
	l := syntax.Heads(s)
	for _, f := range s.Defs {
		l = append(l, syntax.Tokens(f)...)
	}
	return l
}

// TestLossless has texts of sources with layouts of chance.
func TestLossless(t *testing.T) {
	m := maker{rand.New(rand.NewSource(1))}
	count := 0
	for range 3000 {
		want := m.source()
		l := tokens(want)
		text := joinedByRule(l, m.layout(l))
		if len(text) > 8192 {
			continue
		}
		read, at := syntax.Parse(text)
		if at != -1 || !syntax.Same(read, want) {
			t.Fatalf("%q is read as %+v, %d", text, read, at)
		}
		if got := print.Module(read); got != text {
			t.Fatalf("P7.5: %q is printed as %q", text, got)
		}
		count++
		// Some layouts are usual ones, and some do not fit.
		if m.Intn(2) == 0 {
			read.Head = m.other(read.Head)
		}
		for i := range read.Defs {
			if m.Intn(2) == 0 {
				read.Defs[i].Layout = m.other(read.Defs[i].Layout)
			}
			if got, want := print.Def(read.Defs[i]), joinedByRule(syntax.Tokens(read.Defs[i]), read.Defs[i].Layout); got != want {
				t.Fatalf("P7.1: Def of %+v is %q, not %q", read.Defs[i], got, want)
			}
		}
		readAgain(t, read)
	}
	if count < 2000 {
		t.Errorf("only %d texts have at most 8192 bytes", count)
	}
}

// other returns a layout that is empty, or one that does not fit or has no blanks where it should.
func (m maker) other(layout []string) []string {
	return [][]string{nil, {}, layout[1:], append(layout[:len(layout):len(layout)], ""), make([]string, len(layout))}[m.Intn(5)]
}

// readAgain checks P7.2, P7.3 and P7.6 for a source that is proper.
func readAgain(t *testing.T, s source) {
	t.Helper()
	text := print.Module(s)
	if want := moduleByRule(s); text != want {
		t.Fatalf("P7.2: Module of %+v is %q, not %q", s, text, want)
	}
	plain := print.Plain(s)
	short := print.Module(plain)
	if !syntax.Same(plain, s) || short != moduleByRule(source{Name: s.Name, Uses: s.Uses, Defs: plain.Defs}) {
		t.Fatalf("P7.3: Plain of %+v is %+v", s, plain)
	}
	for _, f := range plain.Defs {
		if len(f.Layout) > 0 {
			t.Fatalf("P7.3: Plain of %+v is %+v", s, plain)
		}
	}
	if read, at := syntax.Parse(text); syntax.Valid(s) && (at != -1 || !syntax.Same(read, s)) {
		t.Fatalf("P7.6: %q is read as %+v, %d", text, read, at)
	}
	if read, at := syntax.Parse(short); len(short) <= 8192 && (at != -1 || !syntax.Same(read, s)) {
		t.Fatalf("P7.6: %q is read as %+v, %d", short, read, at)
	}
}

// change changes tokens at a place or two.
func (m maker) change(tokens []string) []string {
	l := slices.Clone(tokens)
	for range 1 + m.Intn(2) {
		i := m.Intn(len(l) + 1)
		other := m.pick("a b x1 if Int 0 1 007 ( ) { } [ ] , : . = == -> + - * / % <")
		switch {
		case i == len(l) || m.Intn(3) == 0:
			l = slices.Insert(l, i, other)
		case m.Intn(2) == 0:
			l = slices.Delete(l, i, min(len(l), i+1+m.Intn(2)))
		default:
			l[i] = other
		}
	}
	return l
}

// TestChanged has tokens of sources with layouts of chance, and changed ones.
func TestChanged(t *testing.T) {
	m := maker{rand.New(rand.NewSource(2))}
	for range 1500 {
		old := tokens(m.source())
		layout := m.layout(old)
		if text := joinedByRule(old, layout); len(text) > 8192 || len(old) > 300 {
			continue
		}
		if !isRead(joinedByRule(old, layout), old, layout) {
			t.Fatalf("%q is not read as %q", joinedByRule(old, layout), old)
		}
		keeps(t, layout, old, old)
		for range 10 {
			keeps(t, layout, old, m.change(old))
		}
	}
}

// TestRename changes names in forms that have been read: all other bytes of the text stay, where P7.8 says so.
func TestRename(t *testing.T) {
	def := func(f *form) { f.Name = "g" }
	left := func(f *form) { f.Body.Kids[0].Name = "x1" }
	right := func(f *form) { f.Body.Kids[1].Name = "c" }
	const head = "# m\nmodule  m\n\n# f\n"
	for _, x := range []struct {
		text   string
		change func(*form)
		want   string
	}{
		{"fun f (a Int,b Int) Int = a  +b # x\n#", def, "fun g (a Int,b Int) Int = a  +b # x\n#"},
		{"fun f (a Int,b Int) Int = a  +b # x\n#", left, "fun f (a Int,b Int) Int = x1  +b # x\n#"},
		{"fun f\n() Int =\n a\n+ b# x", right, "fun f\n() Int =\n a\n+ c# x"},
		{"fun f () Int = a + b", right, "fun f () Int = a + c"},
		// What stands before the name is not a space, or nothing stands behind it.
		{"fun f (a Int,b Int) Int = a  +b # x\n#", right, "fun f (a Int,b Int) Int = a  + c # x\n#"},
		{"fun\nf () Int = a + b", def, "fun g () Int = a + b"},
		{"fun f() Int =  a+b", def, "fun g () Int =  a+b"},
		{"fun f() Int =  a+b", left, "fun f() Int = x1 +b"},
	} {
		s, at := syntax.Parse(head + x.text)
		if at != -1 {
			t.Fatalf("%q is not read", x.text)
		}
		old := syntax.Tokens(s.Defs[0])
		x.change(&s.Defs[0])
		s.Defs[0].Layout = print.Kept(s.Defs[0].Layout, old, syntax.Tokens(s.Defs[0]))
		if got := print.Module(s); got != head+x.want {
			t.Errorf("P7.8: the changed text is %q, not %q", got, head+x.want)
		}
	}
}
