package wire_test

import (
	"math"
	"slices"
	"strconv"
	"strings"
	"testing"

	"allonge/wire"
)

// Texts that may follow an encoding, some of which look like a part of one.
var followers = []string{"", ";", "0", "7;", "-", "-1;", "1;x", "x", "\x00", "\xff"}

var someInts = []int{
	0, 1, -1, 9, -9, 10, -10, 11, 99, 100, -100, 101, 1234567890, -1234567890, 1000000000000000000,
	math.MaxInt32, math.MinInt32, math.MaxInt - 1, math.MaxInt, math.MinInt + 1, math.MinInt,
}

var someStrings = []string{
	"", ";", "a", "ab;", "-1;", "3;abc", "0;0;", "\x00", "\xff\xfe", "\n", "日本;", "123456789", "1234567890",
	strings.Repeat("x", 99), strings.Repeat("-", 100), strings.Repeat(";", 1001),
}

func someIntLists() [][]int {
	l := [][]int{nil, {}, {0}, {4, 0}, {-1, 10}, {0, 0, 0}, someInts, make([]int, 9), make([]int, 10), make([]int, 1000)}
	for _, n := range someInts {
		l = append(l, []int{n})
	}
	return l
}

func someStringLists() [][]string {
	l := [][]string{nil, {}, {""}, {"", "x"}, {"", "", ""}, {"1;", "2;"}, someStrings, make([]string, 9), make([]string, 10), make([]string, 1000)}
	for _, s := range someStrings {
		l = append(l, []string{s})
	}
	return l
}

// P1.1: Int writes the digits without zeros in front, and '-' only before what is less than 0.
func TestInt(t *testing.T) {
	for _, c := range []struct {
		n    int
		want string
	}{
		{0, "0;"}, {1, "1;"}, {-1, "-1;"}, {-7, "-7;"}, {9, "9;"}, {10, "10;"}, {-10, "-10;"}, {100, "100;"}, {1020, "1020;"}, {-120, "-120;"},
		{math.MaxInt, "9223372036854775807;"}, {math.MaxInt - 1, "9223372036854775806;"},
		{math.MinInt, "-9223372036854775808;"}, {math.MinInt + 1, "-9223372036854775807;"},
	} {
		if got := wire.Int(c.n); got != c.want {
			t.Errorf("Int(%d) = %q, want %q", c.n, got, c.want)
		}
	}
	for _, n := range someInts {
		checkInt(t, n)
	}
	for n := -2000; n <= 2000; n++ {
		checkInt(t, n)
	}
	for shift := range 63 {
		for d := -1; d <= 1; d++ {
			checkInt(t, 1<<shift+d)
			checkInt(t, -1<<shift+d)
		}
	}
}

func checkInt(t *testing.T, n int) {
	t.Helper()
	want := strconv.Itoa(n) + ";"
	if got := wire.Int(n); got != want {
		t.Errorf("Int(%d) = %q, want %q", n, got, want)
	}
	if got, rest, ok := wire.ReadInt(want); got != n || rest != "" || !ok {
		t.Errorf("ReadInt(%q) = %d, %q, %v", want, got, rest, ok)
	}
}

// P1.1: String writes the number of bytes, and the bytes as they are.
func TestString(t *testing.T) {
	for _, c := range []struct{ s, want string }{
		{"", "0;"}, {"a", "1;a"}, {"ab;", "3;ab;"}, {"-1;", "3;-1;"}, {"\x00\n\xff", "3;\x00\n\xff"}, {"é", "2;é"},
		{"123456789", "9;123456789"}, {"1234567890", "10;1234567890"}, {strings.Repeat("y", 100), "100;" + strings.Repeat("y", 100)},
	} {
		if got := wire.String(c.s); got != c.want {
			t.Errorf("String(%q) = %q, want %q", c.s, got, c.want)
		}
	}
}

// P1.1: Ints writes the number of elements, and the elements in order.
func TestInts(t *testing.T) {
	for _, c := range []struct {
		l    []int
		want string
	}{
		{nil, "0;"}, {[]int{}, "0;"}, {[]int{0}, "1;0;"}, {[]int{4, 0}, "2;4;0;"}, {[]int{0, 4}, "2;0;4;"}, {[]int{-1, 10, -1}, "3;-1;10;-1;"},
		{[]int{math.MinInt, math.MaxInt}, "2;-9223372036854775808;9223372036854775807;"},
		{make([]int, 10), "10;" + strings.Repeat("0;", 10)},
	} {
		if got := wire.Ints(c.l); got != c.want {
			t.Errorf("Ints(%d) = %q, want %q", c.l, got, c.want)
		}
	}
}

// P1.1: Strings writes the number of elements, and the elements in order.
func TestStrings(t *testing.T) {
	for _, c := range []struct {
		l    []string
		want string
	}{
		{nil, "0;"}, {[]string{}, "0;"}, {[]string{""}, "1;0;"}, {[]string{"", "x"}, "2;0;1;x"}, {[]string{"x", ""}, "2;1;x0;"}, {[]string{"1;", "ab;"}, "2;2;1;3;ab;"},
		{make([]string, 10), "10;" + strings.Repeat("0;", 10)},
	} {
		if got := wire.Strings(c.l); got != c.want {
			t.Errorf("Strings(%q) = %q, want %q", c.l, got, c.want)
		}
	}
}

// P1.2: ReadInt reads the int with which a text begins, and leaves what follows.
func TestReadInt(t *testing.T) {
	for _, c := range []struct {
		s    string
		n    int
		rest string
	}{
		{"0;", 0, ""}, {"-7;", -7, ""}, {"12;ab", 12, "ab"}, {"-3;;", -3, ";"}, {"0;0;", 0, "0;"}, {"1;-", 1, "-"}, {"10;", 10, ""}, {"-10;x", -10, "x"},
		{"9223372036854775806;", math.MaxInt - 1, ""}, {"9223372036854775807;1", math.MaxInt, "1"},
		{"-9223372036854775807;", math.MinInt + 1, ""}, {"-9223372036854775808;x", math.MinInt, "x"},
	} {
		if n, rest, ok := wire.ReadInt(c.s); n != c.n || rest != c.rest || !ok {
			t.Errorf("ReadInt(%q) = %d, %q, %v", c.s, n, rest, ok)
		}
	}
}

// Texts that begin with no encoding of an int, and therefore with none of any value.
var noInts = []string{
	"", ";", ";1;", "x", "-", "-;", "--1;", "-x;", "1-;", "+1;", "-+1;", " 1;", "1 ;", "\n1;", "1", "-1", "12x;", "1,0;", "1_0;", "0x1;", "1e3;", "1.0;",
	"-0;", "-00;", "00;", "01;", "007;", "-01;", "-07;", "0123456789012345678901234567890;",
	"/;", ":;", "1/;", "1:;", "٣;", "\x00;", "\xb1;", "1\x00;",
	"9223372036854775808;", "-9223372036854775809;", "9223372036854775810;", "-9223372036854775810;", "9999999999999999999;", "-9999999999999999999;",
	"10000000000000000000;", "18446744073709551615;", "18446744073709551616;", "18446744073709551617;", "-18446744073709551615;", "-18446744073709551616;", "-18446744073709551617;",
	"92233720368547758070;", "-92233720368547758080;", "184467440737095516160;", "340282366920938463463374607431768211457;",
	strings.Repeat("9", 1000) + ";", "-" + strings.Repeat("1", 1000) + ";", strings.Repeat("0", 1000) + ";",
}

// P1.2: texts with which no encoding of an int begins are refused by all readers.
func TestReadsNoInt(t *testing.T) {
	for _, s := range noInts {
		refuseInt(t, s)
		refuseString(t, s)
		refuseInts(t, s)
		refuseStrings(t, s)
		// Elements and their lengths are held to the same as numbers that stand alone.
		refuseInts(t, "1;"+s)
		refuseStrings(t, "1;"+s)
		refuseInts(t, "2;7;"+s)
		refuseStrings(t, "2;1;x"+s)
	}
}

// P1.2: ReadString reads as many bytes as the length says.
func TestReadString(t *testing.T) {
	for _, c := range []struct{ s, want, rest string }{
		{"0;", "", ""}, {"0;abc", "", "abc"}, {"3;ab;", "ab;", ""}, {"3;a;bcd", "a;b", "cd"}, {"1;;;", ";", ";"}, {"4;-12;7", "-12;", "7"}, {"2;\x00\xffz", "\x00\xff", "z"},
		{"10;0123456789x", "0123456789", "x"},
	} {
		if got, rest, ok := wire.ReadString(c.s); got != c.want || rest != c.rest || !ok {
			t.Errorf("ReadString(%q) = %q, %q, %v", c.s, got, rest, ok)
		}
	}
	for _, s := range []string{
		"-1;", "-1;a", "-3;abc", "-9223372036854775808;abc", "1;", "2;a", "4;abc", "10;123456789", "03;abc", "3abc", "3;ab",
		"9223372036854775807;", "9223372036854775807;abc", "9223372036854775806;abc", "4294967296;", "4294967299;abc", "1000000000000;abc",
	} {
		refuseString(t, s)
	}
}

// P1.2: ReadInts reads as many ints as the number of elements says.
func TestReadInts(t *testing.T) {
	for _, c := range []struct {
		s    string
		want []int
		rest string
	}{
		{"0;", nil, ""}, {"0;1;", nil, "1;"}, {"0;x", nil, "x"}, {"1;0;", []int{0}, ""}, {"2;4;0;", []int{4, 0}, ""}, {"2;-1;10;z", []int{-1, 10}, "z"}, {"1;5;6;", []int{5}, "6;"},
		{"2;9223372036854775807;-9223372036854775808;-", []int{math.MaxInt, math.MinInt}, "-"},
		{"10;" + strings.Repeat("0;", 11), make([]int, 10), "0;"},
	} {
		if got, rest, ok := wire.ReadInts(c.s); !slices.Equal(got, c.want) || rest != c.rest || !ok {
			t.Errorf("ReadInts(%q) = %d, %q, %v", c.s, got, rest, ok)
		}
	}
	for _, s := range []string{
		"-1;", "-1;1;", "-9223372036854775808;1;", "1;", "2;1;", "2;1;2", "3;1;2;x;", "2;1;02;", "2;1;-0;", "2;1;-;", "2;1;;", "02;1;1;", "2;1 ;1;",
		"2;1;9223372036854775808;", "9223372036854775807;", "9223372036854775807;1;2;3;", "4294967296;", "4294967297;1;", "1000000000000;1;",
	} {
		refuseInts(t, s)
	}
}

// P1.2: ReadStrings reads as many strings as the number of elements says.
func TestReadStrings(t *testing.T) {
	for _, c := range []struct {
		s    string
		want []string
		rest string
	}{
		{"0;", nil, ""}, {"0;0;", nil, "0;"}, {"0;x", nil, "x"}, {"1;0;", []string{""}, ""}, {"2;0;1;x", []string{"", "x"}, ""}, {"2;0;2;x;q", []string{"", "x;"}, "q"}, {"1;1;a1;b", []string{"a"}, "1;b"},
		{"1;4;1;1;;", []string{"1;1;"}, ";"}, {"10;" + strings.Repeat("0;", 11), make([]string, 10), "0;"},
	} {
		if got, rest, ok := wire.ReadStrings(c.s); !slices.Equal(got, c.want) || rest != c.rest || !ok {
			t.Errorf("ReadStrings(%q) = %q, %q, %v", c.s, got, rest, ok)
		}
	}
	for _, s := range []string{
		"-1;", "-1;0;", "-9223372036854775808;0;", "1;", "1;2;x", "1;-1;", "1;-1;x", "2;1;a", "2;1;a1;", "3;0;0;", "2;1;a-1;b", "2;1;a01;b", "02;0;0;", "1;9223372036854775807;x",
		"1000000;", "9223372036854775807;", "9223372036854775807;0;0;", "4294967296;", "4294967297;0;", "1000000000000;0;",
	} {
		refuseStrings(t, s)
	}
}

func refuseInt(t *testing.T, s string) {
	t.Helper()
	if n, rest, ok := wire.ReadInt(s); n != 0 || rest != "" || ok {
		t.Errorf("ReadInt(%q) = %d, %q, %v", s, n, rest, ok)
	}
}

func refuseString(t *testing.T, s string) {
	t.Helper()
	if x, rest, ok := wire.ReadString(s); x != "" || rest != "" || ok {
		t.Errorf("ReadString(%q) = %q, %q, %v", s, x, rest, ok)
	}
}

func refuseInts(t *testing.T, s string) {
	t.Helper()
	if l, rest, ok := wire.ReadInts(s); len(l) != 0 || rest != "" || ok {
		t.Errorf("ReadInts(%q) = %d, %q, %v", s, l, rest, ok)
	}
}

func refuseStrings(t *testing.T, s string) {
	t.Helper()
	if l, rest, ok := wire.ReadStrings(s); len(l) != 0 || rest != "" || ok {
		t.Errorf("ReadStrings(%q) = %q, %q, %v", s, l, rest, ok)
	}
}

// P1.3: lists are not modified, and what lies beyond their length is neither read nor written.
func TestArgumentsStay(t *testing.T) {
	ints := []int{1, -2, 3, 4}
	if got := wire.Ints(ints[:2]); got != "2;1;-2;" || !slices.Equal(ints, []int{1, -2, 3, 4}) {
		t.Errorf("Ints: %q, and the argument is %d", got, ints)
	}
	texts := []string{"a", "", "c", "d"}
	if got := wire.Strings(texts[:2]); got != "2;1;a0;" || !slices.Equal(texts, []string{"a", "", "c", "d"}) {
		t.Errorf("Strings: %q, and the argument is %q", got, texts)
	}
}

// P1.3: a change of a list that was read, or written, changes no other result.
func TestResultsAreFresh(t *testing.T) {
	first, _, _ := wire.ReadInts("2;4;0;")
	second, _, _ := wire.ReadInts("2;4;0;")
	first[0], first[1] = 9, 9
	third, _, _ := wire.ReadInts("2;4;0;")
	if want := []int{4, 0}; !slices.Equal(second, want) || !slices.Equal(third, want) {
		t.Errorf("ReadInts: %d, %d", second, third)
	}
	one, _, _ := wire.ReadStrings("2;0;1;x")
	two, _, _ := wire.ReadStrings("2;0;1;x")
	one[0], one[1] = "9", "9"
	three, _, _ := wire.ReadStrings("2;0;1;x")
	if want := []string{"", "x"}; !slices.Equal(two, want) || !slices.Equal(three, want) {
		t.Errorf("ReadStrings: %q, %q", two, three)
	}
	ints, texts := []int{1, 2}, []string{"a", "b"}
	s, u := wire.Ints(ints), wire.Strings(texts)
	ints[0], texts[0] = 7, "z"
	if s != "2;1;2;" || u != "2;1;a1;b" {
		t.Errorf("a later change of the argument shows: %q, %q", s, u)
	}
}

// P1.4: what was written is read as the same value, whatever follows it.
func TestWrittenIsRead(t *testing.T) {
	for _, after := range followers {
		for _, n := range someInts {
			if got, rest, ok := wire.ReadInt(wire.Int(n) + after); got != n || rest != after || !ok {
				t.Errorf("%d before %q is read as %d, %q, %v", n, after, got, rest, ok)
			}
		}
		for _, s := range someStrings {
			if got, rest, ok := wire.ReadString(wire.String(s) + after); got != s || rest != after || !ok {
				t.Errorf("%q before %q is read as %q, %q, %v", s, after, got, rest, ok)
			}
		}
		for _, l := range someIntLists() {
			if got, rest, ok := wire.ReadInts(wire.Ints(l) + after); !slices.Equal(got, l) || rest != after || !ok {
				t.Errorf("%d before %q is read as %d, %q, %v", l, after, got, rest, ok)
			}
		}
		for _, l := range someStringLists() {
			if got, rest, ok := wire.ReadStrings(wire.Strings(l) + after); !slices.Equal(got, l) || rest != after || !ok {
				t.Errorf("%q before %q is read as %q, %q, %v", l, after, got, rest, ok)
			}
		}
	}
}

// The readers as the definition of an encoding gives them, by the library's numbers.

func plainInt(s string) (int, string, bool) {
	digits, rest, found := strings.Cut(s, ";")
	n, err := strconv.Atoi(digits)
	if !found || err != nil || strconv.Itoa(n) != digits {
		return 0, "", false
	}
	return n, rest, true
}

func plainString(s string) (string, string, bool) {
	n, rest, ok := plainInt(s)
	if !ok || n < 0 || n > len(rest) {
		return "", "", false
	}
	return rest[:n], rest[n:], true
}

func plainList[T any](s string, read func(string) (T, string, bool)) ([]T, string, bool) {
	n, rest, ok := plainInt(s)
	var l []T
	for ok && len(l) < n {
		var x T
		x, rest, ok = read(rest)
		l = append(l, x)
	}
	if !ok || n < 0 {
		return nil, "", false
	}
	return l, rest, true
}

// P1.2 and P1.4: of all short texts of digits, signs and other bytes, exactly those are read that begin with an encoding, as the value that would be written so.
func TestShortTexts(t *testing.T) {
	for _, s := range shortTexts("-0129;x", 6) {
		if t.Failed() {
			return
		}
		n, rest, ok := wire.ReadInt(s)
		if wantN, wantRest, wantOK := plainInt(s); n != wantN || rest != wantRest || ok != wantOK || ok && wire.Int(n)+rest != s {
			t.Errorf("ReadInt(%q) = %d, %q, %v", s, n, rest, ok)
		}
		x, rest, ok := wire.ReadString(s)
		if wantX, wantRest, wantOK := plainString(s); x != wantX || rest != wantRest || ok != wantOK || ok && wire.String(x)+rest != s {
			t.Errorf("ReadString(%q) = %q, %q, %v", s, x, rest, ok)
		}
		ints, rest, ok := wire.ReadInts(s)
		if wantL, wantRest, wantOK := plainList(s, plainInt); !slices.Equal(ints, wantL) || rest != wantRest || ok != wantOK || ok && wire.Ints(ints)+rest != s {
			t.Errorf("ReadInts(%q) = %d, %q, %v", s, ints, rest, ok)
		}
		texts, rest, ok := wire.ReadStrings(s)
		if wantL, wantRest, wantOK := plainList(s, plainString); !slices.Equal(texts, wantL) || rest != wantRest || ok != wantOK || ok && wire.Strings(texts)+rest != s {
			t.Errorf("ReadStrings(%q) = %q, %q, %v", s, texts, rest, ok)
		}
	}
}

// shortTexts returns all texts of at most n bytes of the alphabet.
func shortTexts(alphabet string, n int) []string {
	all := []string{""}
	for first := 0; len(all[first]) < n; first++ {
		for _, c := range alphabet {
			all = append(all, all[first]+string(c))
		}
	}
	return all
}

// P1.5: no proper beginning of an encoding is read by the same reader.
func TestCutOff(t *testing.T) {
	for _, n := range someInts {
		checkCuts(t, wire.Int(n), refuseInt)
	}
	for _, s := range someStrings {
		checkCuts(t, wire.String(s), refuseString)
	}
	for _, l := range someIntLists() {
		checkCuts(t, wire.Ints(l), refuseInts)
	}
	for _, l := range someStringLists() {
		checkCuts(t, wire.Strings(l), refuseStrings)
	}
}

func checkCuts(t *testing.T, s string, refuse func(*testing.T, string)) {
	t.Helper()
	for end := range len(s) {
		refuse(t, s[:end])
	}
}

// P1.5: encodings of all sorts can be put one after the other, and into strings.
func TestTogether(t *testing.T) {
	inner := wire.Int(-7) + wire.Strings([]string{"", "x;"}) + wire.String("12;") + wire.Ints([]int{4, 0})
	outer := wire.String(inner) + wire.Strings([]string{inner, wire.String(inner), ""}) + wire.Int(0)

	text, rest, ok := wire.ReadString(outer)
	if text != inner || !ok {
		t.Fatalf("the string is read as %q, %v", text, ok)
	}
	list, rest, ok := wire.ReadStrings(rest)
	if !slices.Equal(list, []string{inner, wire.String(inner), ""}) || !ok {
		t.Fatalf("the strings are read as %q, %v", list, ok)
	}
	if n, rest, ok := wire.ReadInt(rest); n != 0 || rest != "" || !ok {
		t.Fatalf("the int is read as %d, %q, %v", n, rest, ok)
	}

	n, rest, ok := wire.ReadInt(text)
	if n != -7 || !ok {
		t.Fatalf("the inner int is read as %d, %v", n, ok)
	}
	list, rest, ok = wire.ReadStrings(rest)
	if !slices.Equal(list, []string{"", "x;"}) || !ok {
		t.Fatalf("the inner strings are read as %q, %v", list, ok)
	}
	text, rest, ok = wire.ReadString(rest)
	if text != "12;" || !ok {
		t.Fatalf("the inner string is read as %q, %v", text, ok)
	}
	if l, rest, ok := wire.ReadInts(rest); !slices.Equal(l, []int{4, 0}) || rest != "" || !ok {
		t.Fatalf("the inner ints are read as %d, %q, %v", l, rest, ok)
	}
}
