package lex_test

import (
	"math/rand"
	"regexp"
	"slices"
	"strings"
	"testing"

	"splicery/lex"
)

// What the chapter says of blanks and tokens, but for their length.
var (
	blanksRule = regexp.MustCompile(`^(?:[ \n]|#[^\n]*)*`)
	tokenRule  = regexp.MustCompile(`^(?:[A-Za-z][A-Za-z0-9]*|[0-9]+|==|->|[(){}\[\],:.=+*/%<-])`)
)

// scanByRule divides a text by the words of the chapter.
func scanByRule(s string) ([]lex.Token, string, int) {
	if len(s) > 8192 {
		return nil, "", 8192
	}
	var l []lex.Token
	for rest := s; ; {
		blanks := blanksRule.FindString(rest)
		rest = rest[len(blanks):]
		if rest == "" {
			return l, blanks, -1
		}
		token := tokenRule.FindString(rest)
		if token == "" || len(token) > 16 {
			return nil, "", len(s) - len(rest)
		}
		l = append(l, lex.Token{Before: blanks, Text: token})
		rest = rest[len(token):]
	}
}

// obeys compares Scan and Blank of a text with the rule, and returns what Scan returns.
func obeys(t *testing.T, s string) ([]lex.Token, string, int) {
	t.Helper()
	l, end, at := scanByRule(s)
	got, rest, where := lex.Scan(s)
	if !slices.Equal(got, l) || rest != end || where != at {
		t.Fatalf("P5.1: Scan of %q returns %q, %q, %d, not %q, %q, %d", s, got, rest, where, l, end, at)
	}
	if lex.Blank(s) != (len(l) == 0 && at == -1) {
		t.Fatalf("P5.4: Blank of %q is %t", s, lex.Blank(s))
	}
	return got, rest, where
}

// hasProperties checks P5.5 and P5.8 for a text for which Scan has returned these results.
func hasProperties(t *testing.T, s string, l []lex.Token, end string, at int) {
	t.Helper()
	if at == -1 {
		if text := lex.Text(l, end); text != s {
			t.Fatalf("P5.5: Text of what Scan of %q returns is %q", s, text)
		}
		for _, k := range l {
			reads(t, "P5.5", k.Text, tokens("", k.Text), "")
			reads(t, "P5.5", k.Before, nil, k.Before)
		}
		reads(t, "P5.5", end, nil, end)
		return
	}
	if at >= 8192 {
		return
	}
	if _, _, before := lex.Scan(s[:at]); before != -1 {
		t.Fatalf("P5.8: Scan of %q returns %d, but for the text up to there it returns %d", s, at, before)
	}
	for _, tail := range []string{"", " ", "\n", "a", "1", ">", "=", "# x\n"} {
		stops(t, "P5.8", s[at:]+tail, min(8192, max(0, len(s)-at+len(tail)-8192)*8192))
	}
}

// each calls a function with all texts of an alphabet with up to n bytes.
func each(alphabet string, n int, f func(s string)) {
	var extend func(s string)
	extend = func(s string) {
		f(s)
		for i := 0; i < len(alphabet) && len(s) < n; i++ {
			extend(s + alphabet[i:i+1])
		}
	}
	extend("")
}

func TestShortTexts(t *testing.T) {
	check := func(s string) {
		l, end, at := obeys(t, s)
		hasProperties(t, s, l, end, at)
	}
	each("a0=->#\n ?", 5, check)
	each("Z9(.-=\xff#\n", 4, check)
	for i := range 1 << 16 {
		check(string([]byte{byte(i >> 8), byte(i)}))
	}
}

// maker makes texts by chance.
type maker struct{ *rand.Rand }

// token returns a token.
func (m maker) token() string {
	letters := "abcxyzABCXYZ"
	digits := "0123456789"
	switch m.Intn(5) {
	case 0:
		return keywords[m.Intn(len(keywords))]
	case 1, 2:
		s := string(letters[m.Intn(len(letters))])
		for n := m.Intn(16); len(s) <= n; {
			s += string((letters + digits)[m.Intn(len(letters+digits))])
		}
		return s
	case 3:
		s := ""
		for n := m.Intn(16); len(s) <= n; {
			s += string(digits[m.Intn(len(digits))])
		}
		return s
	}
	return signs[m.Intn(len(signs))]
}

// blanks returns up to n blanks, where each comment is followed by a line end.
func (m maker) blanks(n int) string {
	parts := []string{" ", "\n", "  ", "#\n", "# x\n", "#a = b\n", "# ? \xff\x00\t\n", "##\n"}
	s := ""
	for range n {
		s += parts[m.Intn(len(parts))]
	}
	return s
}

// text returns a text that is read, or one that most likely is not.
func (m maker) text(n int) string {
	odd := []string{"?", ">", "\t", "\xff", "ä", "abcdefghijklmnopq", "12345678901234567", "#", "# x", "a1b2", "=", "-"}
	s := m.blanks(m.Intn(2))
	for range m.Intn(n) {
		s += m.token()
		if m.Intn(3) > 0 {
			s += m.blanks(1 + m.Intn(2))
		}
		if m.Intn(40) == 0 {
			s += odd[m.Intn(len(odd))]
		}
	}
	return s
}

func TestTextsOfChance(t *testing.T) {
	m := maker{rand.New(rand.NewSource(1))}
	seen := map[bool]int{}
	for range 20000 {
		s := m.text(1 + m.Intn(40))
		l, end, at := obeys(t, s)
		hasProperties(t, s, l, end, at)
		seen[at == -1]++
	}
	for range 200 {
		s := strings.Repeat(m.text(200), 10)
		l, end, at := obeys(t, s)
		hasProperties(t, s, l, end, at)
	}
	if seen[true] < 1000 || seen[false] < 1000 {
		t.Errorf("of the texts of chance %d are read, and %d not", seen[true], seen[false])
	}
}

// arranged checks that tokens with a layout that fits them are read as these tokens with this layout, or are too long.
func arranged(t *testing.T, l, layout []string) {
	t.Helper()
	var want []lex.Token
	for i, s := range l {
		want = append(want, lex.Token{Before: layout[i], Text: s})
	}
	s := lex.Text(want, layout[len(l)])
	if len(s) > 8192 {
		stops(t, "P5.6", s, 8192)
		return
	}
	reads(t, "P5.6", s, want, layout[len(l)])
}

func TestLayouts(t *testing.T) {
	all := slices.Concat(signs, keywords, []string{"a", "b1", "Z", "0", "12", "1234567890123456", "abcdefghijklmnop"})
	for _, a := range all {
		for _, b := range all {
			l := []string{a, b, a}
			arranged(t, l, lex.Usual(l))
			for _, s := range []string{" ", "\n", "#\n", "  # x\n\n", "# ?\n#\xff\n"} {
				arranged(t, l, []string{"", s, s, ""})
				arranged(t, l, []string{s, s, s, s})
			}
		}
	}
	m := maker{rand.New(rand.NewSource(2))}
	long := 0
	for range 3000 {
		l := make([]string, m.Intn(20)*m.Intn(60))
		for i := range l {
			l[i] = m.token()
		}
		arranged(t, l, lex.Usual(l))
		layout := []string{m.blanks(m.Intn(2))}
		for range l {
			layout = append(layout, m.blanks(1+m.Intn(3)))
		}
		if len(strings.Join(layout, ""))+len(strings.Join(l, "")) > 8192 {
			long++
		}
		arranged(t, l, layout)
	}
	if long == 0 {
		t.Errorf("none of the layouts of chance makes a text too long")
	}
}

// join checks P5.7 for two texts.
func join(t *testing.T, a, b string) {
	t.Helper()
	first, end, at := lex.Scan(a)
	second, rest, where := lex.Scan(b)
	if at != -1 || where != -1 {
		return
	}
	if len(a)+1+len(b) > 8192 {
		stops(t, "P5.7", a+"\n"+b, 8192)
		return
	}
	want := slices.Concat(first, second)
	if len(second) == 0 {
		reads(t, "P5.7", a+"\n"+b, want, end+"\n"+rest)
		return
	}
	want[len(first)].Before = end + "\n" + second[0].Before
	reads(t, "P5.7", a+"\n"+b, want, rest)
}

func TestJoined(t *testing.T) {
	var short []string
	each("a0=>-#\n ", 2, func(s string) { short = append(short, s) })
	for _, a := range short {
		for _, b := range short {
			join(t, a, b)
		}
	}
	m := maker{rand.New(rand.NewSource(3))}
	for range 5000 {
		join(t, m.text(1+m.Intn(20)), m.text(1+m.Intn(20)))
	}
	blanks := strings.Repeat(" ", 8192)
	for n := range 5 {
		join(t, "a"+blanks[:4094], blanks[:4094+n]+"b")
		join(t, "a#"+blanks[:4093], "b"+blanks[:4094+n])
		join(t, blanks[:8188+n], "")
		join(t, "", blanks[:8188+n])
	}
}
