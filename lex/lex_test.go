package lex_test

import (
	"slices"
	"strings"
	"testing"

	"splicery/lex"
)

// The functions of the package have these types.
var (
	_ func(string) ([]lex.Token, string, int) = lex.Scan
	_ func([]lex.Token, string) string        = lex.Text
	_ func([]string) []string                 = lex.Usual
	_ func(string) bool                       = lex.Word
	_ func(string) bool                       = lex.Blank
)

// signs are those that the chapter lists.
var signs = strings.Fields("( ) { } [ ] , : . = == -> + - * / % <")

// keywords are those that the chapter lists.
var keywords = strings.Fields("module use rec case fun on test conv true false not and or if then else let in match fold over do len join List Int Bool")

// tokens returns tokens: for each one what stands before it, and its text.
func tokens(parts ...string) []lex.Token {
	var l []lex.Token
	for i := 0; i < len(parts); i += 2 {
		l = append(l, lex.Token{Before: parts[i], Text: parts[i+1]})
	}
	return l
}

// reads checks that Scan of a text returns these tokens, this end, and -1.
func reads(t *testing.T, promise, s string, l []lex.Token, end string) {
	t.Helper()
	if got, rest, at := lex.Scan(s); !slices.Equal(got, l) || rest != end || at != -1 {
		t.Errorf("%s: Scan of %.99q returns %.99q, %.99q, %d, not %.99q, %.99q, -1", promise, s, got, rest, at, l, end)
	}
}

// stops checks that Scan of a text returns an offset, and nothing else.
func stops(t *testing.T, promise, s string, want int) {
	t.Helper()
	if l, end, at := lex.Scan(s); len(l) != 0 || end != "" || at != want {
		t.Errorf("%s: Scan of %.99q returns %.99q, %.99q, %d, not only %d", promise, s, l, end, at, want)
	}
}

func TestScan(t *testing.T) {
	for _, x := range []struct {
		s   string
		l   []lex.Token
		end string
	}{
		{"f(a) # x", tokens("", "f", "", "(", "", "a", "", ")"), " # x"},
		{"a==-1", tokens("", "a", "", "==", "", "-", "", "1"), ""},
		{"", nil, ""},
		{" ", nil, " "},
		{"\n", nil, "\n"},
		{" \n\n  ", nil, " \n\n  "},
		{"a", tokens("", "a"), ""},
		{" a ", tokens(" ", "a"), " "},
		{"0", tokens("", "0"), ""},
		{"007", tokens("", "007"), ""},
		{"ab12cd", tokens("", "ab12cd"), ""},
		{"1a", tokens("", "1", "", "a"), ""},
		{"12ab34", tokens("", "12", "", "ab34"), ""},
		{"a.b.1.2", tokens("", "a", "", ".", "", "b", "", ".", "", "1", "", ".", "", "2"), ""},
		{"module m\n\nfun f (a Int) Int = a + 1\n", tokens("", "module", " ", "m", "\n\n", "fun", " ", "f", " ", "(", "", "a", " ", "Int", "", ")", " ", "Int", " ", "=", " ", "a", " ", "+", " ", "1"), "\n"},
		{"if then", tokens("", "if", " ", "then"), ""},
		{"iffy modules", tokens("", "iffy", " ", "modules"), ""},
		{"a\n  b", tokens("", "a", "\n  ", "b"), ""},
	} {
		reads(t, "P5.1", x.s, x.l, x.end)
	}
}

func TestScanSigns(t *testing.T) {
	for _, s := range signs {
		reads(t, "P5.1", s, tokens("", s), "")
		reads(t, "P5.1", " "+s+"\n", tokens(" ", s), "\n")
		reads(t, "P5.1", "a"+s+"1", tokens("", "a", "", s, "", "1"), "")
		reads(t, "P5.1", s+" "+s, tokens("", s, " ", s), "")
		reads(t, "P5.1", s+"#"+s, tokens("", s), "#"+s)
	}
	for _, x := range []struct {
		s    string
		want string // the tokens, with spaces between them
	}{
		{"===", "== ="},
		{"====", "== =="},
		{"=====", "== == ="},
		{"=->", "= ->"},
		{"==->", "== ->"},
		{"-->", "- ->"},
		{"--", "- -"},
		{"->->", "-> ->"},
		{"->-", "-> -"},
		{"-=", "- ="},
		{"-==", "- =="},
		{"<=", "< ="},
		{"<==", "< =="},
		{"<->", "< ->"},
		{"<<", "< <"},
		{"()[]{}", "( ) [ ] { }"},
		{"((", "( ("},
		{"..", ". ."},
		{"a-1", "a - 1"},
		{"a->b", "a -> b"},
		{"+-*/%<,:.", "+ - * / % < , : ."},
	} {
		var l []lex.Token
		for _, s := range strings.Fields(x.want) {
			l = append(l, lex.Token{Text: s})
		}
		reads(t, "P5.1", x.s, l, "")
	}
}

func TestScanComments(t *testing.T) {
	every := make([]byte, 256)
	for i := range every {
		every[i] = byte(i)
	}
	odd := strings.ReplaceAll(string(every), "\n", "")
	for _, c := range []string{"#", "##", "# x", "#?", "#a == b", "# # #", "#\x00\t\r\xff", "#äöü€", "#" + strings.Repeat("a", 40), "#" + odd} {
		reads(t, "P5.1", c, nil, c)
		reads(t, "P5.1", c+"\n", nil, c+"\n")
		reads(t, "P5.1", "a"+c, tokens("", "a"), c)
		reads(t, "P5.1", c+"\na", tokens(c+"\n", "a"), "")
		reads(t, "P5.1", "a "+c+"\n "+c+"\n\nb"+c, tokens("", "a", " "+c+"\n "+c+"\n\n", "b"), c)
		stops(t, "P5.1", c+"\n?", len(c)+1)
		stops(t, "P5.1", c+"\n"+c+"\na\t"+c, 2*len(c)+3)
	}
}

func TestScanErrors(t *testing.T) {
	for _, x := range []struct {
		s    string
		want int
	}{
		{"a ? b", 2},
		{"?", 0},
		{"\t", 0},
		{"\r", 0},
		{"\x00", 0},
		{"a\tb", 1},
		{"a\r\nb", 1},
		{"a ?", 2},
		{" \n # ?\n ?", 8},
		{"a ? b ? c", 2},
		{"a > b", 2},
		{"->>", 2},
		{"a >= b", 2},
		{"a != b", 2},
		{"a_b", 1},
		{"_a", 0},
		{"x = 'a'", 4},
		{"x = \"a\"", 4},
		{"a; b", 1},
		{"a & b", 2},
		{"a | b", 2},
		{"~a", 0},
		{"@^`\\$!", 0},
		{"ä", 0},
		{"aä", 1},
		{"a \x80", 2},
		{"a\xff", 1},
		{"a\x00", 1},
		{"1\x7f", 1},
		{"\ufeffa", 0},
		{"a\u2028b", 1},
	} {
		stops(t, "P5.1", x.s, x.want)
	}
}

// TestScanBytes has each byte alone, and between tokens.
func TestScanBytes(t *testing.T) {
	for i := range 256 {
		s := string([]byte{byte(i)})
		word := i >= 'a' && i <= 'z' || i >= 'A' && i <= 'Z'
		number := i >= '0' && i <= '9'
		switch {
		case s == " " || s == "\n" || s == "#":
			reads(t, "P5.1", s, nil, s)
			reads(t, "P5.1", "a"+s, tokens("", "a"), s)
		case word || number:
			reads(t, "P5.1", s, tokens("", s), "")
			reads(t, "P5.1", "("+s+")", tokens("", "(", "", s, "", ")"), "")
			reads(t, "P5.1", "b"+s+" ", tokens("", "b"+s), " ")
			if number {
				reads(t, "P5.1", "8"+s, tokens("", "8"+s), "")
			} else {
				reads(t, "P5.1", "8"+s, tokens("", "8", "", s), "")
			}
		case slices.Contains(signs, s):
			reads(t, "P5.1", s, tokens("", s), "")
			reads(t, "P5.1", "b"+s, tokens("", "b", "", s), "")
		default:
			stops(t, "P5.1", s, 0)
			stops(t, "P5.1", "a "+s, 2)
			stops(t, "P5.1", "a"+s+"b", 1)
			stops(t, "P5.1", "=="+s, 2)
			stops(t, "P5.1", "12"+s, 2)
			reads(t, "P5.1", "a#"+s, tokens("", "a"), "#"+s)
		}
	}
}

func TestScanLongTokens(t *testing.T) {
	letters, digits := strings.Repeat("aZ", 40), strings.Repeat("09", 40)
	for n := 1; n <= 80; n++ {
		for _, s := range []string{letters[:n], digits[:n], "x" + digits[:n-1], letters[:n/2+1] + digits[:(n-1)/2]} {
			if n <= 16 {
				reads(t, "P5.1", s, tokens("", s), "")
				reads(t, "P5.1", "f ("+s+")", tokens("", "f", " ", "(", "", s, "", ")"), "")
				continue
			}
			stops(t, "P5.1", s, 0)
			stops(t, "P5.1", "f ("+s+")", 3)
			stops(t, "P5.1", "a "+s+" ?", 2)
			stops(t, "P5.1", "? "+s, 0)
			reads(t, "P5.1", "a#"+s, tokens("", "a"), "#"+s)
		}
	}
	number, word := digits[:16], letters[:16]
	reads(t, "P5.1", number+word, tokens("", number, "", word), "")
	reads(t, "P5.1", word+" "+number, tokens("", word, " ", number), "")
	reads(t, "P5.1", word+"\n"+word, tokens("", word, "\n", word), "")
	reads(t, "P5.1", number+"."+number, tokens("", number, "", ".", "", number), "")
	stops(t, "P5.1", number+word+"a", 16)
	stops(t, "P5.1", number+"0"+word, 0)
	stops(t, "P5.1", word+number, 0)
	stops(t, "P5.1", "1"+word+"0", 1)
	stops(t, "P5.1", word+"ä", 16)
}

func TestScanLongTexts(t *testing.T) {
	for _, n := range []int{8191, 8192} {
		blanks := strings.Repeat(" ", n-1)
		comment := "#" + blanks
		reads(t, "P5.1", " "+blanks, nil, " "+blanks)
		reads(t, "P5.1", comment, nil, comment)
		reads(t, "P5.1", blanks+"a", tokens(blanks, "a"), "")
		reads(t, "P5.1", "a"+blanks, tokens("", "a"), blanks)
		stops(t, "P5.1", blanks+"?", n-1)
		stops(t, "P5.1", "?"+blanks, 0)
		stops(t, "P5.1", strings.Repeat("a", n), 0)
		stops(t, "P5.1", "a "+strings.Repeat("1", n-2), 2)
		stops(t, "P5.1", blanks[16:]+strings.Repeat("a", 17), n-17)
		reads(t, "P5.1", blanks[15:]+strings.Repeat("a", 16), tokens(blanks[15:], strings.Repeat("a", 16)), "")
		l, end, at := lex.Scan(strings.Repeat("(", n))
		if len(l) != n || end != "" || at != -1 || slices.ContainsFunc(l, func(k lex.Token) bool { return k != lex.Token{Text: "("} }) {
			t.Errorf("P5.1: Scan of %d parentheses returns %d tokens, %q, %d", n, len(l), end, at)
		}
	}
	for _, n := range []int{8193, 8194, 1 << 20} {
		for _, s := range []string{" ", "\n", "a", "1", "(", "?", "#", "\xff", "= "} {
			stops(t, "P5.1", strings.Repeat(s, n)[:n], 8192)
		}
		stops(t, "P5.1", "?"+strings.Repeat(" ", n-1), 8192)
		stops(t, "P5.1", "a"+strings.Repeat(" ", n-1), 8192)
		stops(t, "P5.1", strings.Repeat(" ", n-1)+"?", 8192)
	}
}

func TestText(t *testing.T) {
	for _, x := range []struct {
		l         []lex.Token
		end, want string
	}{
		{nil, "", ""},
		{[]lex.Token{}, "end", "end"},
		{tokens("", "a"), "", "a"},
		{tokens(" ", "a", "\n", "b"), "#", " a\nb#"},
		{tokens("", "", "", ""), "", ""},
		{tokens("x", "y", "z", ""), "?", "xyz?"},
		{tokens("\xff", "\x80", "ä", "\x00"), "\n", "\xff\x80ä\x00\n"},
		{tokens("1", "2", "3", "4", "5", "6"), "7", "1234567"},
	} {
		l := slices.Clone(x.l)
		if got := lex.Text(l, x.end); got != x.want {
			t.Errorf("P5.2: Text of %q and %q is %q, not %q", x.l, x.end, got, x.want)
		}
		if !slices.Equal(l, x.l) {
			t.Errorf("P5.2: Text changes %q to %q", x.l, l)
		}
	}
	long := strings.Repeat("ab", 1<<16)
	if got := lex.Text(tokens(long, "x", "y", long), long); got != long+"xy"+long+long {
		t.Errorf("P5.2: Text of long strings has %d bytes", len(got))
	}
	if got := lex.Text(make([]lex.Token, 1<<20), "z"); got != "z" {
		t.Errorf("P5.2: Text of empty tokens is %.99q", got)
	}
}

func TestUsual(t *testing.T) {
	for _, x := range []struct {
		l, want string // with spaces between tokens; the usual text
	}{
		{"f ( a , b ) . x", "f (a, b).x"},
		{"fun f ( a Int ) Int = a", "fun f (a Int) Int = a"},
		{"module m use k", "module m use k"},
		{"k . f ( a , - 3 )", "k.f (a, - 3)"},
		{"Point : x [ p ]", "Point : x [p]"},
		{"P { x = 1 , y = 2 }", "P { x = 1, y = 2 }"},
		{"( ( ) )", "(())"},
		{"[ ] [ ]", "[] []"},
		{"List ( Int ) [ 1 , 2 ]", "List (Int) [1, 2]"},
		{"( , )", "(,)"},
		{". . .", "..."},
		{", , ,", ",,,"},
		{"a - > b", "a - > b"},
		{"a -> b == c", "a -> b == c"},
		{"( - 1 )", "(- 1)"},
		{"{ }", "{ }"},
		{"a ) ( b", "a) (b"},
		{"] [", "] ["},
	} {
		l := strings.Fields(x.l)
		got := lex.Usual(l)
		if strings.Join(l, " ") != x.l {
			t.Errorf("P5.3: Usual changes %q to %q", x.l, l)
		}
		if len(got) != len(l)+1 {
			t.Errorf("P5.3: Usual of %q has %d elements", x.l, len(got))
			continue
		}
		text := ""
		for i, s := range l {
			text += got[i] + s
		}
		if text += got[len(l)]; text != x.want {
			t.Errorf("P5.3: the usual layout of %q is %q, not %q", x.l, text, x.want)
		}
	}
	want := []string{"", " ", "", "", " ", "", "", "", ""}
	if got := lex.Usual(strings.Fields("f ( a , b ) . x")); !slices.Equal(got, want) {
		t.Errorf("P5.3: Usual of f ( a , b ) . x is %q, not %q", got, want)
	}
}

// usualByRule says what stands between two elements that follow each other.
func usualByRule(a, b string) string {
	none := b == ")" || b == "]" || b == "," || b == "." || a == "(" || a == "[" || a == "."
	return map[bool]string{true: "", false: " "}[none]
}

// TestUsualOfAll has lists of up to three elements, of tokens and of other ones.
func TestUsualOfAll(t *testing.T) {
	for _, none := range [][]string{nil, {}} {
		if got := lex.Usual(none); !slices.Equal(got, []string{""}) {
			t.Errorf("P5.3: Usual of no tokens is %q", got)
		}
	}
	all := slices.Concat(signs, keywords[:3], []string{"a", "B1", "0", "12", "", " ", "\n", "((", "( ", " )", "()", "..", ".x", "[]", ",,", "a(", ")b", "?", "#", "# (", "\xff", "ä", ">", "=-", strings.Repeat("a", 99)})
	for _, a := range all {
		if got := lex.Usual([]string{a}); !slices.Equal(got, []string{"", ""}) {
			t.Errorf("P5.3: Usual of %q is %q", a, got)
		}
		for _, b := range all {
			if got := lex.Usual([]string{a, b}); !slices.Equal(got, []string{"", usualByRule(a, b), ""}) {
				t.Errorf("P5.3: Usual of %q and %q is %q", a, b, got)
			}
			for _, c := range all {
				if got := lex.Usual([]string{a, b, c}); !slices.Equal(got, []string{"", usualByRule(a, b), usualByRule(b, c), ""}) {
					t.Errorf("P5.3: Usual of %q, %q and %q is %q", a, b, c, got)
				}
			}
		}
	}
	if got := lex.Usual(make([]string, 1<<20)); len(got) != 1<<20+1 || got[1] != " " || got[1<<20-1] != " " || got[0] != "" || got[1<<20] != "" {
		t.Errorf("P5.3: Usual of many elements has %d elements", len(got))
	}
}

func TestWord(t *testing.T) {
	for _, x := range []struct {
		s    string
		want bool
	}{
		{"a1", true}, {"1a", false}, {"if", false}, {"", false}, {"a", true}, {"Z", true}, {"0", false}, {"12", false},
		{"a b", false}, {" a", false}, {"a ", false}, {"a\n", false}, {"a#", false}, {"#a", false}, {"a.b", false}, {"a-b", false},
		{"a_b", false}, {"ab\x00", false}, {"ä", false}, {"aä", false}, {"a\xff", false}, {"\xff", false}, {"a\tb", false},
		{"abcdefghijklmnop", true}, {"abcdefghijklmnopq", false}, {"a123456789012345", true}, {"a1234567890123456", false}, {"a12345678901234 ", false},
		{strings.Repeat("a", 1<<20), false}, {"Module", true}, {"MODULE", true}, {"IF", true}, {"list", true}, {"int", true}, {"bool", true}, {"LIST", true},
		{"if1", true}, {"iff", true}, {"i", true}, {"ifif", true}, {"use module", false}, {"if ", false}, {"ListInt", true}, {"Ints", true}, {"Boolean", true},
	} {
		if got := lex.Word(x.s); got != x.want {
			t.Errorf("P5.4: Word of %.99q is %t", x.s, got)
		}
	}
	for _, s := range signs {
		if lex.Word(s) || lex.Word("a"+s) || lex.Word(s+"a") {
			t.Errorf("P5.4: Word of %q, or with a, is true", s)
		}
	}
	for i := range 256 {
		s := string([]byte{byte(i)})
		letter := s[0]|32 >= 'a' && s[0]|32 <= 'z'
		digit := s[0] >= '0' && s[0] <= '9'
		if lex.Word(s) != letter || lex.Word("q"+s) != (letter || digit) || lex.Word("q"+s+"q") != (letter || digit) || lex.Word("1"+s) {
			t.Errorf("P5.4: Word with the byte %d is %t; in words %t, %t; in a number %t", i, lex.Word(s), lex.Word("q"+s), lex.Word("q"+s+"q"), lex.Word("1"+s))
		}
	}
}

// TestWordKeywords has the keywords, and all words that differ from one by a byte more, less or another.
func TestWordKeywords(t *testing.T) {
	known := map[string]bool{}
	for _, k := range keywords {
		known[k] = true
	}
	if len(known) != 27 {
		t.Fatalf("there are %d keywords", len(known))
	}
	letters := "abcdefghijklmnopqrstuvwxyzABCDEFGHIJKLMNOPQRSTUVWXYZ"
	check := func(s string) {
		if got := lex.Word(s); got == known[s] && s != "" {
			t.Errorf("P5.4: Word of %q is %t", s, got)
		}
	}
	for _, k := range keywords {
		reads(t, "P5.1", k, tokens("", k), "")
		check(k)
		check(strings.ToUpper(k))
		check(strings.ToLower(k))
		for i := range len(k) {
			check(k[:i])
			if i > 0 {
				check(k[:i] + k[i+1:])
			}
			for _, c := range letters {
				check(k[:i] + string(c) + k[i+1:])
				check(k[:i] + string(c) + k[i:])
				check(k + string(c))
			}
		}
		for c := range 10 {
			check(k + string(rune('0'+c)))
		}
	}
	for _, a := range letters {
		check(string(a))
		for _, b := range letters + "0123456789" {
			check(string(a) + string(b))
			for _, c := range letters {
				check(string(a) + string(b) + string(c))
			}
		}
	}
}

func TestBlank(t *testing.T) {
	for _, x := range []struct {
		s    string
		want bool
	}{
		{"", true}, {" ", true}, {"\n", true}, {" \n \n", true}, {"#", true}, {"# x", true}, {"# x\n", true}, {"# ?\n # \xff", true}, {"#\n#\n#", true},
		{"a", false}, {" a", false}, {"a ", false}, {"# x\na", false}, {"1", false}, {"?", false}, {" ?", false}, {"\t", false}, {"\r\n", false},
		{"\x00", false}, {"\u00a0", false}, {"\xff", false}, {"# x\n?", false}, {"a ?", false},
		{strings.Repeat(" ", 8192), true}, {strings.Repeat(" ", 8193), false}, {"#" + strings.Repeat("x", 8191), true}, {"#" + strings.Repeat("x", 8192), false},
		{strings.Repeat("\n", 1<<20), false}, {strings.Repeat("a", 17), false}, {"#" + strings.Repeat("a", 17), true},
	} {
		if got := lex.Blank(x.s); got != x.want {
			t.Errorf("P5.4: Blank of %.99q is %t", x.s, got)
		}
	}
	for _, s := range signs {
		if lex.Blank(s) || lex.Blank(" "+s) || !lex.Blank("#"+s) {
			t.Errorf("P5.4: Blank of %q, behind a space, in a comment: %t, %t, %t", s, lex.Blank(s), lex.Blank(" "+s), lex.Blank("#"+s))
		}
	}
}

// TestNewResults changes results, and checks that those of further calls do not change.
func TestNewResults(t *testing.T) {
	for range 2 {
		l, _, _ := lex.Scan("a = b")
		if !slices.Equal(l, tokens("", "a", " ", "=", " ", "b")) {
			t.Fatalf("P5.1: Scan returns %q", l)
		}
		l[0], l[1] = l[2], lex.Token{}
		_ = append(l[:1], l[0], l[0])
		words := []string{"a", "b", ")"}
		usual := lex.Usual(words)
		if !slices.Equal(usual, []string{"", " ", "", ""}) {
			t.Fatalf("P5.3: Usual returns %q", usual)
		}
		usual[0], usual[1], usual[3] = "x", "y", "z"
		if !slices.Equal(words, []string{"a", "b", ")"}) {
			t.Fatalf("P5.3: Usual shares memory with its argument: %q", words)
		}
	}
}
