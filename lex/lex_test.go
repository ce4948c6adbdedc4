package lex_test

import (
	"math/rand"
	"regexp"
	"slices"
	"strconv"
	"strings"
	"testing"

	"allonge/api"
	"allonge/lex"
)

func name(text string, pos int) api.Token {
	return api.Token{Kind: api.TkName, Text: text, Pos: pos}
}

func number(text string, n, pos int) api.Token {
	return api.Token{Kind: api.TkNumber, Text: text, N: n, Pos: pos}
}

func quoted(value string, pos int) api.Token {
	return api.Token{Kind: api.TkString, Text: value, Pos: pos}
}

func sign(text string, pos int) api.Token {
	return api.Token{Kind: api.TkSign, Text: text, Pos: pos}
}

// x returns n bytes 'x'.
func x(n int) string {
	return strings.Repeat("x", n)
}

func wantTokens(t *testing.T, s string, want ...api.Token) {
	t.Helper()
	if l, at, e := lex.Scan(s); !slices.Equal(l, want) || at != 0 || e != api.OK {
		t.Errorf("Scan(%q) = %v, %d, %d, want %v", s, l, at, e, want)
	}
}

func wantError(t *testing.T, s string, wantAt int, want api.Errno) {
	t.Helper()
	if l, at, e := lex.Scan(s); len(l) != 0 || at != wantAt || e != want {
		t.Errorf("Scan(%q) = %v, %d, %d, want the error %d at %d", s, l, at, e, want, wantAt)
	}
}

// P2.1: the tokens of ordinary texts, in order, with their fields.
func TestScan(t *testing.T) {
	wantTokens(t, `a1 = "x\"y"; # z`, name("a1", 0), sign("=", 3), quoted(`x"y`, 5), sign(";", 11))
	wantTokens(t, `f(2,"a")`, name("f", 0), sign("(", 1), number("2", 2, 2), sign(",", 3), quoted("a", 4), sign(")", 7))
	wantTokens(t, "order x {\n\tgrace = 10; # days\n}\n",
		name("order", 0), name("x", 6), sign("{", 8), name("grace", 11), sign("=", 17), number("10", 10, 19), sign(";", 21), sign("}", 30))
	wantTokens(t, "0", number("0", 0, 0))
	wantTokens(t, "-1", sign("-", 0), number("1", 1, 1))
	wantTokens(t, "a.b", name("a", 0), sign(".", 1), name("b", 2))
}

// P2.1: blanks and comments are no tokens, and each of them ends a token.
func TestScanBlanks(t *testing.T) {
	for _, s := range []string{"", " ", "\t", "\n", " \n\t ", "#", "##", "# a", "#\n", "# > \" 007 \x00\xff\r", "# \"\n# \"", "\n\n#\n#\n"} {
		wantTokens(t, s)
	}
	for _, blank := range []string{" ", "\t", "\n", "  ", "#\n", "#\"\n", "# > 007\n#\n", "\t# \xff\n"} {
		at := 1 + len(blank)
		wantTokens(t, "a"+blank+"b", name("a", 0), name("b", at))
		wantTokens(t, "1"+blank+"2", number("1", 1, 0), number("2", 2, at))
		wantTokens(t, "1"+blank+"0", number("1", 1, 0), number("0", 0, at))
		wantTokens(t, "="+blank+"\"\"", sign("=", 0), quoted("", at))
		wantTokens(t, blank+"a"+blank, name("a", len(blank)))
	}
	wantTokens(t, "a# b", name("a", 0))
	wantTokens(t, "1#2\n3", number("1", 1, 0), number("3", 3, 4))
	wantTokens(t, "a # b # c\nd", name("a", 0), name("d", 10))
	wantTokens(t, `"#"#"`, quoted("#", 0))
	wantTokens(t, "\"a\"# \"\n\"b\"", quoted("a", 0), quoted("b", 7))
}

// P2.1: names and numbers are as long as possible; strings and signs end by themselves.
func TestScanNeighbours(t *testing.T) {
	wantTokens(t, "a_1__B9", name("a_1__B9", 0))
	wantTokens(t, "12a", number("12", 12, 0), name("a", 2))
	wantTokens(t, "12z_", number("12", 12, 0), name("z_", 2))
	wantTokens(t, "a12", name("a12", 0))
	wantTokens(t, "1=2", number("1", 1, 0), sign("=", 1), number("2", 2, 2))
	wantTokens(t, "0a0", number("0", 0, 0), name("a0", 1))
	wantTokens(t, `a"b"c"d"1"e"`, name("a", 0), quoted("b", 1), name("c", 4), quoted("d", 5), number("1", 1, 8), quoted("e", 9))
	wantTokens(t, `"""x"`, quoted("", 0), quoted("x", 2))
	wantTokens(t, "--", sign("-", 0), sign("-", 1))
	wantTokens(t, ":=<", sign(":", 0), sign("=", 1), sign("<", 2))
}

// P2.1: each byte that is a sign, a letter or a digit begins such a token, and all bytes with which none begins are errors.
func TestScanBytes(t *testing.T) {
	for c := range 256 {
		s := string([]byte{byte(c)})
		switch {
		case strings.Contains("(),;:=<+-*.{}", s):
			wantTokens(t, s, sign(s, 0))
			wantTokens(t, "a"+s+s+"1", name("a", 0), sign(s, 1), sign(s, 2), number("1", 1, 3))
		case 'a' <= c && c <= 'z' || 'A' <= c && c <= 'Z':
			wantTokens(t, s, name(s, 0))
			wantTokens(t, "b"+s+s, name("b"+s+s, 0))
		case '0' <= c && c <= '9':
			wantTokens(t, s, number(s, c-'0', 0))
			wantTokens(t, "b"+s+s+" 1"+s, name("b"+s+s, 0), number("1"+s, 10+c-'0', 4))
		case c == 9 || c == 10 || c == 32 || c == '#':
			wantTokens(t, s)
		case c == '"':
			wantError(t, s, 0, api.ErrQuote)
		default:
			wantError(t, s, 0, api.ErrToken)
			wantError(t, "= \n"+s, 3, api.ErrToken)
			if c != '_' {
				wantError(t, "ab"+s+"c", 2, api.ErrToken)
				wantError(t, "1"+s, 1, api.ErrToken)
			}
		}
	}
	wantError(t, "a > b", 2, api.ErrToken)
	wantError(t, "1_", 1, api.ErrToken)
	wantError(t, "a\r\nb", 1, api.ErrToken)
	wantError(t, "aé", 1, api.ErrToken)
}

// P2.1: names and numbers that are not valid.
func TestScanRange(t *testing.T) {
	wantTokens(t, x(20), name(x(20), 0))
	wantTokens(t, x(18)+"_1=", name(x(18)+"_1", 0), sign("=", 20))
	wantTokens(t, "1"+x(20), number("1", 1, 0), name(x(20), 1))
	wantError(t, x(21), 0, api.ErrRange)
	wantError(t, x(19)+"_1 >", 0, api.ErrRange)
	wantError(t, "a 1"+x(21), 3, api.ErrRange)
	wantError(t, x(20000), 0, api.ErrRange)

	wantTokens(t, "1099511627776", number("1099511627776", 1<<40, 0))
	wantTokens(t, "1099511627775x", number("1099511627775", 1<<40-1, 0), name("x", 13))
	for _, s := range []string{
		"1099511627777", "1099511627780", "2000000000000", "9999999999999", "10995116277760", "9223372036854775807", "9223372036854775808",
		"18446744073709551615", "18446744073709551616", "18446744073709551617", "340282366920938463463374607431768211457", strings.Repeat("9", 1000), "1" + strings.Repeat("0", 1000),
		"00", "01", "007", "000", "0123456789012345678901234567890", "01099511627776",
	} {
		wantError(t, s, 0, api.ErrRange)
		wantError(t, s+"a", 0, api.ErrRange)
		wantError(t, "x "+s+" >", 2, api.ErrRange)
		wantError(t, "-"+s, 1, api.ErrRange)
	}
	wantError(t, "1 "+x(20)+" 12 007", 26, api.ErrRange)
}

// P2.1: the values of quoted strings, and quoted strings with errors, which are all found at the first quote.
func TestScanQuoted(t *testing.T) {
	wantTokens(t, `""`, quoted("", 0))
	wantTokens(t, `" a # b "`, quoted(" a # b ", 0))
	wantTokens(t, `"007 > _"`, quoted("007 > _", 0))
	wantTokens(t, `"\\"`, quoted(`\`, 0))
	wantTokens(t, `"\""`, quoted(`"`, 0))
	wantTokens(t, `"\\\""`, quoted(`\"`, 0))
	wantTokens(t, `"\\\\"`, quoted(`\\`, 0))
	wantTokens(t, `"\\""\""a`, quoted(`\`, 0), quoted(`"`, 4), name("a", 8))
	wantTokens(t, `"a\\n"`, quoted(`a\n`, 0))
	for _, s := range []string{`"`, `"ab`, `"\`, `"\"`, `"a\\\"`, `"a\`, `"\n"`, `"\x"`, `"\ "`, `"\'"`, `"\0"`, "\"\\\n\"", "\"a\nb\"", "\"a\n", "\"a\\", "\"# a"} {
		wantError(t, s, 0, api.ErrQuote)
		wantError(t, "a;\n"+s, 3, api.ErrQuote)
		wantError(t, `"" `+s, 3, api.ErrQuote)
	}
	wantError(t, "\" > \n 007", 0, api.ErrQuote)
	for c := range 256 {
		s := string([]byte{byte(c)})
		switch {
		case c == '"' || c == '\\':
			wantTokens(t, `"a\`+s+`b"`, quoted("a"+s+"b", 0))
		case c < 32 || c > 126:
			wantError(t, `"a`+s+`b"`, 0, api.ErrQuote)
			wantError(t, `"`+s+`"`, 0, api.ErrQuote)
			wantError(t, `"a\`+s+`b"`, 0, api.ErrQuote)
		default:
			wantTokens(t, `"a`+s+`b"`, quoted("a"+s+"b", 0))
			wantError(t, `"a\`+s+`b"`, 0, api.ErrQuote)
		}
	}
}

// P2.1: what counts for the length of a quoted string is its value.
func TestScanQuotedLength(t *testing.T) {
	wantTokens(t, `"`+x(400)+`"`, quoted(x(400), 0))
	wantTokens(t, `"`+strings.Repeat(`\"`, 400)+`"a`, quoted(strings.Repeat(`"`, 400), 0), name("a", 802))
	wantTokens(t, `"`+strings.Repeat(`\\`, 200)+x(200)+`"`, quoted(strings.Repeat(`\`, 200)+x(200), 0))
	wantError(t, `"`+x(401)+`"`, 0, api.ErrQuote)
	wantError(t, ` "`+strings.Repeat(`\"`, 401)+`"`, 1, api.ErrQuote)
	wantError(t, ` "`+x(400)+`\\"`, 1, api.ErrQuote)
	wantError(t, `"`+x(19000), 0, api.ErrQuote)
}

// P2.1: the error is the first one from the beginning, and a text that is too long is an error before all others.
func TestScanFirstError(t *testing.T) {
	wantError(t, `> 007 "`, 0, api.ErrToken)
	wantError(t, `007 > "`, 0, api.ErrRange)
	wantError(t, "a \" > 007", 2, api.ErrQuote)
	wantError(t, "a # >\n007 >", 6, api.ErrRange)
	wantError(t, "# >\n >", 5, api.ErrToken)

	wantTokens(t, strings.Repeat(" ", 20000))
	wantTokens(t, "#"+strings.Repeat(">", 19999))
	wantTokens(t, strings.Repeat(" ", 19999)+"a", name("a", 19999))
	wantError(t, strings.Repeat(" ", 19999)+">", 19999, api.ErrToken)
	wantError(t, strings.Repeat(" ", 20001), 0, api.ErrFull)
	wantError(t, "#"+strings.Repeat(">", 20000), 0, api.ErrFull)
	wantError(t, ">"+strings.Repeat(" ", 20000), 0, api.ErrFull)
	wantError(t, strings.Repeat("a ", 10001), 0, api.ErrFull)
	if l, at, e := lex.Scan(strings.Repeat("=", 20000)); len(l) != 20000 || at != 0 || e != api.OK {
		t.Errorf("20000 signs are %d tokens, %d, %d", len(l), at, e)
	}
}

// P2.2: Quote escapes quotes and backslashes, and refuses what is no value of a quoted string.
func TestQuote(t *testing.T) {
	for _, c := range []struct{ s, want string }{
		{"", `""`}, {"a b", `"a b"`}, {`a "b\`, `"a \"b\\"`}, {`\"`, `"\\\""`}, {`\n`, `"\\n"`}, {"~ ", `"~ "`}, {"#", `"#"`},
		{x(400), `"` + x(400) + `"`}, {strings.Repeat(`\`, 400), `"` + strings.Repeat(`\`, 800) + `"`},
	} {
		if q, ok := lex.Quote(c.s); q != c.want || !ok {
			t.Errorf("Quote(%q) = %q, %v, want %q", c.s, q, ok, c.want)
		}
	}
	for _, s := range []string{"\n", "\t", "\x00", "\x1f", "\x7f", "\x80", "\xff", "a\x7f", "é", "日本", x(401), strings.Repeat(`"`, 401), x(400) + "\n", x(100000)} {
		if q, ok := lex.Quote(s); q != "" || ok {
			t.Errorf("Quote(%q) = %q, %v", s, q, ok)
		}
	}
}

// P2.2: Print puts one blank between tokens, and quotes strings whatever they contain; kind and text may be anything.
func TestPrint(t *testing.T) {
	for _, c := range []struct {
		l    []api.Token
		want string
	}{
		{nil, ""}, {[]api.Token{}, ""},
		{[]api.Token{name("a", 0)}, "a"},
		{[]api.Token{name("f", 0), sign("(", 1), number("2", 2, 2), sign(",", 3), quoted("a", 4), sign(")", 7)}, `f ( 2 , "a" )`},
		{[]api.Token{quoted(`a"b\`, 0), quoted("", 0)}, `"a\"b\\" ""`},
		{[]api.Token{quoted("\n\x00\xff", 0)}, "\"\n\x00\xff\""},
		{[]api.Token{quoted(x(401), 0)}, `"` + x(401) + `"`},
		{[]api.Token{{}}, ""}, {[]api.Token{{}, {}}, " "}, {[]api.Token{name("a", 0), {}, sign("b", 0)}, "a  b"},
		{[]api.Token{{Kind: api.TkNumber, Text: "x", N: 7}, {Kind: api.TkNumber, N: 7}, {Kind: api.TkSign, Text: `"\ `}}, `x  "\ `},
		{[]api.Token{{Kind: -1, Text: `"`}, {Kind: api.TkKinds, Text: "\\\n"}, {Kind: 1 << 62, Text: "é", Pos: -1}}, "\" \\\n é"},
	} {
		if s := lex.Print(c.l); s != c.want {
			t.Errorf("Print(%v) = %q, want %q", c.l, s, c.want)
		}
	}
}

// P2.3: Name accepts letters, digits and '_' after a letter, up to 20 bytes.
func TestName(t *testing.T) {
	for _, s := range []string{"a", "z", "A", "Z", "a_1", "aB2_", "x9", "a__", x(19), x(20), "a" + strings.Repeat("_", 19)} {
		if !lex.Name(s) {
			t.Errorf("Name(%q) = false", s)
		}
	}
	for _, s := range []string{"", "1a", "_a", "_", "1", "a b", " a", "a ", "a\n", "a-b", "a.b", "a#", `"a"`, "a\x00", "é", "aé", "a>", x(21), x(1000), "a" + strings.Repeat("_", 20)} {
		if lex.Name(s) {
			t.Errorf("Name(%q) = true", s)
		}
	}
	for c := range 256 {
		s := string([]byte{byte(c)})
		letter := 'a' <= c && c <= 'z' || 'A' <= c && c <= 'Z'
		if got := lex.Name(s); got != letter {
			t.Errorf("Name(%q) = %v", s, got)
		}
		if got := lex.Name("a" + s); got != (letter || '0' <= c && c <= '9' || c == '_') {
			t.Errorf("Name(%q) = %v", "a"+s, got)
		}
	}
}

// P2.3: Number reads 0, and numbers without a 0 in front up to 2^40.
func TestNumber(t *testing.T) {
	for n := range 2000 {
		wantNumber(t, n)
	}
	for shift := range 40 {
		wantNumber(t, 1<<shift)
		wantNumber(t, 1<<40-1<<shift)
	}
	wantNumber(t, 1<<40)
	for _, s := range []string{
		"", " ", "00", "01", "012", "-1", "-0", "+1", "1a", "a", "a1", "1 ", " 1", "1\n", "1_0", "1.0", "1,0", "0x1", "1e3", "/", ":", "1/", "1:", "٣", "\x00", "\xb1",
		"1099511627777", "1099511627780", "9999999999999", "10995116277760", "9223372036854775807", "9223372036854775808", "18446744073709551616", "18446744073709551617", "36893488147419103233",
		strings.Repeat("9", 1000), "1" + strings.Repeat("0", 64), "01099511627776", strings.Repeat("0", 1000), "1099511627777x",
	} {
		if n, ok := lex.Number(s); n != 0 || ok {
			t.Errorf("Number(%q) = %d, %v", s, n, ok)
		}
	}
}

func wantNumber(t *testing.T, n int) {
	t.Helper()
	s := strconv.Itoa(n)
	if got, ok := lex.Number(s); got != n || !ok {
		t.Errorf("Number(%q) = %d, %v", s, got, ok)
	}
	wantTokens(t, s, number(s, n, 0))
}

// P2.4: tokens are not modified, and what lies beyond the length of a list is not read.
func TestArgumentsStay(t *testing.T) {
	all := []api.Token{name("a", 0), quoted(`"`, 2), sign("=", 7), number("1", 1, 9)}
	before := slices.Clone(all)
	if s := lex.Print(all[:2]); s != `a "\""` || !slices.Equal(all, before) {
		t.Errorf("Print: %q, and the argument is %v", s, all)
	}
}

// P2.4: a change of a result changes no other one.
func TestResultsAreFresh(t *testing.T) {
	const s = `a = "b"`
	first, _, _ := lex.Scan(s)
	second, _, _ := lex.Scan(s)
	first = append(first, name("c", 9))
	for i := range first {
		first[i] = api.Token{Kind: -1, Text: "?", N: 9, Pos: 9}
	}
	if want := []api.Token{name("a", 0), sign("=", 2), quoted("b", 4)}; !slices.Equal(second, want) {
		t.Errorf("the second result is %v", second)
	}
	wantTokens(t, s, second...)
}

// Tokens as regular expressions, and a scanner written from the definitions with them.
var (
	plainBlanks = regexp.MustCompile(`^(?:[\t\n ]|#[^\n]*)*`)
	plainName   = regexp.MustCompile(`^[A-Za-z][A-Za-z0-9_]*`)
	plainNumber = regexp.MustCompile(`^[0-9]+`)
	plainQuoted = regexp.MustCompile(`^"(?:[ !#-\[\]-~]|\\"|\\\\)*"`)
	plainSign   = regexp.MustCompile(`^[(),;:=<+\-*.{}]`)
	plainValue  = strings.NewReplacer(`\"`, `"`, `\\`, `\`)
)

func plainScan(s string) ([]api.Token, int, api.Errno) {
	if len(s) > 20000 {
		return nil, 0, api.ErrFull
	}
	var l []api.Token
	for at := len(plainBlanks.FindString(s)); at < len(s); {
		text, token, e := plainToken(s[at:])
		if e != api.OK {
			return nil, at, e
		}
		token.Pos = at
		l = append(l, token)
		at += len(text)
		at += len(plainBlanks.FindString(s[at:]))
	}
	return l, 0, api.OK
}

func plainToken(s string) (string, api.Token, api.Errno) {
	if text := plainName.FindString(s); text != "" {
		if len(text) > 20 {
			return "", api.Token{}, api.ErrRange
		}
		return text, name(text, 0), api.OK
	}
	if text := plainNumber.FindString(s); text != "" {
		n, err := strconv.Atoi(text)
		if err != nil || strconv.Itoa(n) != text || n > 1<<40 {
			return "", api.Token{}, api.ErrRange
		}
		return text, number(text, n, 0), api.OK
	}
	if s[0] == '"' {
		text := plainQuoted.FindString(s)
		if text == "" || len(plainValue.Replace(text[1:len(text)-1])) > 400 {
			return "", api.Token{}, api.ErrQuote
		}
		return text, quoted(plainValue.Replace(text[1:len(text)-1]), 0), api.OK
	}
	if text := plainSign.FindString(s); text != "" {
		return text, sign(text, 0), api.OK
	}
	return "", api.Token{}, api.ErrToken
}

// shortTexts returns all texts of at most n bytes of the alphabet.
func shortTexts(alphabet string, n int) []string {
	all := []string{""}
	for first := 0; len(all[first]) < n; first++ {
		for i := range len(alphabet) {
			all = append(all, all[first]+alphabet[i:i+1])
		}
	}
	return all
}

// longTexts returns texts of pieces in a disorder that is always the same.
func longTexts() []string {
	pieces := []string{
		"a", "Z9_", x(20), "0", "7", "10", "1099511627776", `""`, `"a b"`, `"\""`, `"\\"`, `"` + x(400) + `"`, "(", ")", ",", ";", ":", "=", "<", "+", "-", "*", ".", "{", "}",
		" ", " ", "\t", "\n", "\n", "# c\n", "#\"\n", " # \xff >\n",
	}
	wrong := []string{">", "_", "\r", "\xc3", x(21), "007", "1099511627777", `"`, `"\n"`, "\"\n\"", `"` + x(401) + `"`}
	r := rand.New(rand.NewSource(2))
	var all []string
	for i := range 3000 {
		var b strings.Builder
		for range r.Intn(40) {
			b.WriteString(pieces[r.Intn(len(pieces))])
		}
		if i%3 == 0 {
			b.WriteString(wrong[r.Intn(len(wrong))])
			b.WriteString(pieces[r.Intn(len(pieces))])
		}
		all = append(all, b.String())
	}
	return all
}

func someTexts() []string {
	return append(shortTexts("a01_\"\\#\n (>", 5), longTexts()...)
}

// P2.1 to P2.3: on all short texts, and on many long ones, the functions do as the definitions say.
func TestPlain(t *testing.T) {
	for _, s := range someTexts() {
		if t.Failed() {
			return
		}
		l, at, e := plainScan(s)
		if e == api.OK {
			wantTokens(t, s, l...)
		} else {
			wantError(t, s, at, e)
		}
		if got, want := lex.Name(s), len(l) == 1 && l[0].Kind == api.TkName && l[0].Text == s; got != want {
			t.Errorf("Name(%q) = %v", s, got)
		}
		n, ok := lex.Number(s)
		if want := len(l) == 1 && l[0].Kind == api.TkNumber && l[0].Text == s; ok != want || want && n != l[0].N || !want && n != 0 {
			t.Errorf("Number(%q) = %d, %v", s, n, ok)
		}
	}
}

// P2.5: what is printed is scanned as the same tokens, and those are printed as the same text.
func TestPrintedAgain(t *testing.T) {
	for _, s := range someTexts() {
		l, _, e := lex.Scan(s)
		printed := lex.Print(l)
		if e != api.OK || len(printed) > api.MaxSource {
			continue
		}
		again, at, e := lex.Scan(printed)
		same := slices.EqualFunc(l, again, func(a, b api.Token) bool {
			return a.Kind == b.Kind && a.Text == b.Text && a.N == b.N
		})
		if !same || at != 0 || e != api.OK {
			t.Fatalf("%q is printed as %q, which is scanned as %v, %d, %d", s, printed, again, at, e)
		}
		if third := lex.Print(again); third != printed {
			t.Fatalf("%q is printed as %q, and that as %q", s, printed, third)
		}
	}
}

// source returns the bytes of a token in its text.
func source(token api.Token) string {
	if token.Kind != api.TkString {
		return token.Text
	}
	q, _ := lex.Quote(token.Text)
	return q
}

// P2.6: tokens are in order and do not overlap, and only blanks and comments lie between them; what precedes an error has tokens.
func TestBetweenTokens(t *testing.T) {
	for _, s := range someTexts() {
		l, at, e := lex.Scan(s)
		text := s
		if e != api.OK {
			text = s[:at]
			if l, at, e = lex.Scan(text); at != 0 || e != api.OK {
				t.Fatalf("of %q, what precedes the error, %q, has the error %d at %d", s, text, e, at)
			}
		}
		end := 0
		for _, token := range l {
			if token.Pos < end || !strings.HasPrefix(text[token.Pos:], source(token)) {
				t.Fatalf("%q has the token %v after the offset %d", text, token, end)
			}
			wantBlanks(t, text[end:token.Pos])
			end = token.Pos + len(source(token))
		}
		wantBlanks(t, text[end:])
	}
}

func wantBlanks(t *testing.T, s string) {
	t.Helper()
	if plainBlanks.FindString(s) != s {
		t.Fatalf("%q lies between tokens", s)
	}
}

// P2.6: two texts with a byte 10 between them have the tokens of both, or the first error of them.
func TestTogether(t *testing.T) {
	short := shortTexts("a0\"\\#\n>", 3)
	for _, s := range short {
		for _, u := range short {
			checkTogether(t, s, u)
		}
	}
	long := longTexts()
	for i := range len(long) - 1 {
		checkTogether(t, long[i], long[i+1])
	}
	checkTogether(t, x(20), strings.Repeat("a ", 9000))
	checkTogether(t, "a", strings.Repeat(" ", 19997)+"b")
	checkTogether(t, "a", strings.Repeat(" ", 19997)+">")
	wantError(t, "a\n"+strings.Repeat(" ", 19998)+"b", 0, api.ErrFull)
}

func checkTogether(t *testing.T, s, u string) {
	t.Helper()
	want, at, e := lex.Scan(s)
	if e != api.OK {
		wantError(t, s+"\n"+u, at, e)
		return
	}
	second, at, e := lex.Scan(u)
	if e != api.OK {
		wantError(t, s+"\n"+u, len(s)+1+at, e)
		return
	}
	for _, token := range second {
		token.Pos += len(s) + 1
		want = append(want, token)
	}
	wantTokens(t, s+"\n"+u, want...)
}

// P2.7: what Quote returns is one token with the value.
func TestQuoteScanned(t *testing.T) {
	values := append(shortTexts("a\"\\# ~", 5), x(400), strings.Repeat(`"`, 400), strings.Repeat(`\`, 400), strings.Repeat(`\"`, 200), strings.Repeat(`"\ `, 133))
	for c := 32; c <= 126; c++ {
		values = append(values, string(rune(c)))
	}
	for _, s := range values {
		q, ok := lex.Quote(s)
		if !ok {
			t.Errorf("Quote(%q) refuses", s)
		}
		wantTokens(t, q, quoted(s, 0))
		if q != lex.Print([]api.Token{quoted(s, 0)}) {
			t.Errorf("Quote(%q) = %q, and Print writes it otherwise", s, q)
		}
	}
}
