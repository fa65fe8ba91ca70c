package text_test

import (
	"math"
	"math/big"
	"math/rand"
	"regexp"
	"slices"
	"strconv"
	"strings"
	"testing"
	"unicode/utf8"

	"till/api"
	"till/text"
)

// strew calls f with every row of at most most parts.
func strew(parts []string, most int, f func(string)) {
	f("")
	if most == 0 {
		return
	}
	for _, p := range parts {
		strew(parts, most-1, func(rest string) { f(p + rest) })
	}
}

func TestP2_1CheckExamples(t *testing.T) {
	good := []string{"tea", "Tea-2", "a.b_c", "é", "\u00a0", "\u0080", "\ufffd", "\U0010ffff", strings.Repeat("x", 64), strings.Repeat("é", 32)}
	for _, s := range good {
		if e := text.Check(s); e != api.OK {
			t.Errorf("Check(%q): %d", s, e)
		}
	}
	bad := []string{"", strings.Repeat("x", 65), strings.Repeat("é", 33), "a b", "a/b", "\x80", "\xed\xa0\x80", "\xed\xbf\xbf", "a\xff", "\xc0\x80", "\xf4\x90\x80\x80", "a\xe2\x82"}
	for _, s := range bad {
		if e := text.Check(s); e != api.ErrTextName {
			t.Errorf("Check(%q): %d", s, e)
		}
	}
}

func TestP2_1CheckEachCodePoint(t *testing.T) {
	const bare = "abcdefghijklmnopqrstuvwxyzABCDEFGHIJKLMNOPQRSTUVWXYZ0123456789-._"
	for c := rune(0); c <= 0x3000; c++ {
		want := api.ErrTextName
		if c > 127 || strings.ContainsRune(bare, c) {
			want = api.OK
		}
		for _, s := range []string{string(c), "a" + string(c), string(c) + "a"} {
			if e := text.Check(s); e != want {
				t.Errorf("Check(%q): %d, want %d", s, e, want)
			}
		}
	}
}

func TestP2_2FoldExamples(t *testing.T) {
	cases := [][2]string{
		{"", ""}, {"Tea-É×Ω", "tea-é×Ω"}, {"\xffA", "\xffa"}, {"ÀÖ×ØÞßà÷ÿ", "àö×øþßà÷ÿ"},
		{"@AZ[`az{", "@az[`az{"}, {"\xc3", "\xc3"}, {"\xc3A", "\xc3a"}, {"\xc3\x80\x80", "\xc3\xa0\x80"}, {"\xed\xa0\x80A", "\xed\xa0\x80a"},
	}
	for _, c := range cases {
		if g := text.Fold(c[0]); g != c[1] {
			t.Errorf("Fold(%q): %q, want %q", c[0], g, c[1])
		}
	}
}

func TestP2_2FoldEachCodePoint(t *testing.T) {
	for c := rune(0); c <= 0x3000; c++ {
		want := c
		if 0x41 <= c && c <= 0x5a || 0xc0 <= c && c <= 0xde && c != 0xd7 {
			want += 32
		}
		if g := text.Fold("\x80" + string(c) + "z"); g != "\x80"+string(want)+"z" {
			t.Errorf("Fold of %U: %q", c, g)
		}
	}
}

func TestP2_2FoldKeepsLengthAndCheck(t *testing.T) {
	parts := []string{"A", "z", "É", "×", "Ω", " ", "\xc3", "\x80", "\xff"}
	strew(parts, 4, func(s string) {
		f := text.Fold(s)
		if len(f) != len(s) || text.Fold(f) != f || text.Check(f) != text.Check(s) {
			t.Errorf("Fold(%q): %q", s, f)
		}
	})
}

var wholeForm = regexp.MustCompile(`^(0|-?[1-9][0-9]*)$`)

// wantWhole says by the form's words and exact numbers what Whole must answer.
func wantWhole(s string) (int64, api.Errno) {
	if !wholeForm.MatchString(s) {
		return 0, api.ErrTextAmount
	}
	n, _ := new(big.Int).SetString(s, 10)
	if n.CmpAbs(big.NewInt(1<<53)) > 0 {
		return 0, api.ErrTextOver
	}
	return n.Int64(), api.OK
}

func expectWhole(t *testing.T, s string) {
	t.Helper()
	n, e := wantWhole(s)
	if g, ge := text.Whole(s); g != n || ge != e {
		t.Errorf("Whole(%.60q): %d, %d, want %d, %d", s, g, ge, n, e)
	}
}

func TestP2_3WholeExamples(t *testing.T) {
	for s, n := range map[string]int64{"0": 0, "-7": -7, "9007199254740992": 1 << 53, "-9007199254740992": -1 << 53} {
		if g, e := text.Whole(s); g != n || e != api.OK {
			t.Errorf("Whole(%q): %d, %d", s, g, e)
		}
	}
	for _, s := range []string{"", "-", "-0", "00", "+1", "1.0", " 1", "1\x80", "1'000", "٣", strings.Repeat("9", 100) + "x"} {
		if g, e := text.Whole(s); g != 0 || e != api.ErrTextAmount {
			t.Errorf("Whole(%q): %d, %d", s, g, e)
		}
	}
	for _, s := range []string{"9007199254740993", "-9007199254740993", "1" + strings.Repeat("0", 100)} {
		if g, e := text.Whole(s); g != 0 || e != api.ErrTextOver {
			t.Errorf("Whole(%q): %d, %d", s, g, e)
		}
	}
}

func TestP2_3WholeAllShortTexts(t *testing.T) {
	strew([]string{"0", "1", "9", "-", "+", ".", "'", " ", "\xff"}, 5, func(s string) { expectWhole(t, s) })
}

func TestP2_3WholeLong(t *testing.T) {
	draw := rand.New(rand.NewSource(1))
	for size := 1; size <= 60; size++ {
		for range 200 {
			b := make([]byte, size)
			for i := range b {
				b[i] = byte('0' + draw.Intn(10))
			}
			expectWhole(t, string(b))
			expectWhole(t, "-"+string(b))
		}
		expectWhole(t, strings.Repeat("9", size))
		expectWhole(t, "1"+strings.Repeat("0", size))
	}
}

func TestP2_3Digits(t *testing.T) {
	for n, s := range map[int64]string{0: "0", -1: "-1", 10: "10", math.MaxInt64: "9223372036854775807", math.MinInt64: "-9223372036854775808"} {
		if g := text.Digits(n); g != s {
			t.Errorf("Digits(%d): %q", n, g)
		}
	}
	draw := rand.New(rand.NewSource(2))
	for range 5000 {
		n := draw.Int63n(1<<54+1) - 1<<53
		if g, e := text.Whole(text.Digits(n)); g != n || e != api.OK {
			t.Errorf("Whole of Digits(%d): %d, %d", n, g, e)
		}
	}
}

var amountForm = regexp.MustCompile(`^(0|[1-9][0-9]*|[1-9][0-9]{0,2}('[0-9]{3})+)(\.[0-9]{2})?$`)

// wantAmount says by the form's words and exact numbers what Amount must answer.
func wantAmount(s string) (int64, api.Errno) {
	if !amountForm.MatchString(s) {
		return 0, api.ErrTextAmount
	}
	head, tail, _ := strings.Cut(s, ".")
	n, _ := new(big.Int).SetString(strings.ReplaceAll(head, "'", "")+(tail + "00")[:2], 10)
	if n.Cmp(big.NewInt(1<<40)) > 0 {
		return 0, api.ErrTextOver
	}
	return n.Int64(), api.OK
}

func expectAmount(t *testing.T, s string) {
	t.Helper()
	n, e := wantAmount(s)
	if g, ge := text.Amount(s); g != n || ge != e {
		t.Errorf("Amount(%.60q): %d, %d, want %d, %d", s, g, ge, n, e)
	}
}

func TestP2_4AmountExamples(t *testing.T) {
	for s, n := range map[string]int64{"0": 0, "7": 700, "0.05": 5, "1234.50": 123450, "1'234.50": 123450, "10'995'116'277.76": 1 << 40} {
		if g, e := text.Amount(s); g != n || e != api.OK {
			t.Errorf("Amount(%q): %d, %d", s, g, e)
		}
	}
	bad := []string{"", "00", "01", ".50", "5.", "1.2", "1.234", "-1", "1'23", "1234'567", "'123", "1''234", "0'000", "1'234'", "1.٣", "1.\xff\xff", "1.5\xff", strings.Repeat("9", 100) + ".5", "1.+5"}
	for _, s := range bad {
		if g, e := text.Amount(s); g != 0 || e != api.ErrTextAmount {
			t.Errorf("Amount(%q): %d, %d", s, g, e)
		}
	}
	for _, s := range []string{"10995116277.77", "10995116278", "10'995'116'278.00", "1" + strings.Repeat("0", 100), "1" + strings.Repeat("'000", 33) + ".00"} {
		if g, e := text.Amount(s); g != 0 || e != api.ErrTextOver {
			t.Errorf("Amount(%q): %d, %d", s, g, e)
		}
	}
}

func TestP2_4AmountAllShortTexts(t *testing.T) {
	strew([]string{"0", "12", "'", ".", "-", "\x80"}, 7, func(s string) { expectAmount(t, s) })
	strew([]string{"0", "123", "'456", ".78", "9"}, 6, func(s string) { expectAmount(t, s) })
}

func TestP2_4AmountLong(t *testing.T) {
	draw := rand.New(rand.NewSource(3))
	for range 20000 {
		n := new(big.Int).Rand(draw, new(big.Int).Lsh(big.NewInt(1), uint(1+draw.Intn(80))))
		s := n.String()
		expectAmount(t, s)
		expectAmount(t, s+".99")
		if at := 1 + draw.Intn(4); at < len(s) {
			expectAmount(t, s[:at]+"'"+s[at:])
		}
	}
}

// wantMoney lays the groups by exact numbers.
func wantMoney(n int64) string {
	digits := new(big.Int).Abs(big.NewInt(n)).String()
	for len(digits) < 3 {
		digits = "0" + digits
	}
	whole, cents := digits[:len(digits)-2], digits[len(digits)-2:]
	s := "." + cents
	for len(whole) > 3 {
		s = "'" + whole[len(whole)-3:] + s
		whole = whole[:len(whole)-3]
	}
	s = whole + s
	if n < 0 {
		return "-" + s
	}
	return s
}

func TestP2_5Money(t *testing.T) {
	for n, s := range map[int64]string{0: "0.00", -5: "-0.05", 10: "0.10", 123450: "1'234.50", 99999: "999.99", 100000: "1'000.00", -100: "-1.00", math.MinInt64: "-92'233'720'368'547'758.08", math.MaxInt64: "92'233'720'368'547'758.07"} {
		if g := text.Money(n); g != s {
			t.Errorf("Money(%d): %q, want %q", n, g, s)
		}
	}
	draw := rand.New(rand.NewSource(4))
	for range 20000 {
		n := int64(draw.Uint64()) >> draw.Intn(64)
		if g := text.Money(n); g != wantMoney(n) {
			t.Errorf("Money(%d): %q, want %q", n, g, wantMoney(n))
		}
	}
}

func TestP2_5AmountOfMoney(t *testing.T) {
	expect := func(n int64) {
		t.Helper()
		if g, e := text.Amount(text.Money(n)); g != n || e != api.OK {
			t.Errorf("Amount of Money(%d): %d, %d", n, g, e)
		}
	}
	for n := range int64(3000) {
		expect(n)
		expect(1<<40 - n)
	}
	draw := rand.New(rand.NewSource(5))
	for range 5000 {
		expect(draw.Int63n(1<<40 + 1))
	}
	if g, e := text.Amount(text.Money(1<<40 + 1)); g != 0 || e != api.ErrTextOver {
		t.Errorf("Amount of Money above MaxAmount: %d, %d", g, e)
	}
}

const wordForm = `([^ \t"\\]+|"([^"\\]|\\["\\])*")`

var (
	rowForm  = regexp.MustCompile(`^[ \t]*(` + wordForm + `([ \t]+` + wordForm + `)*[ \t]*)?$`)
	oneWord  = regexp.MustCompile(wordForm)
	forbids  = regexp.MustCompile(`[\x00-\x08\x0a-\x1f\x7f]`)
	unescape = strings.NewReplacer(`\"`, `"`, `\\`, `\`)
)

// wantWords says by the form's words what Words must answer.
func wantWords(line string) ([]string, api.Errno) {
	if len(line) > 1024 || !utf8.ValidString(line) || forbids.MatchString(line) || !rowForm.MatchString(line) {
		return nil, api.ErrTextLine
	}
	list := oneWord.FindAllString(line, -1)
	if len(list) > 32 {
		return nil, api.ErrTextLine
	}
	for i, w := range list {
		if w[0] == '"' {
			list[i] = unescape.Replace(w[1 : len(w)-1])
		}
	}
	return list, api.OK
}

func expectWords(t *testing.T, line string) {
	t.Helper()
	list, e := wantWords(line)
	if g, ge := text.Words(line); !slices.Equal(g, list) || ge != e {
		t.Errorf("Words(%.60q): %q, %d, want %q, %d", line, g, ge, list, e)
	}
}

func TestP2_6WordsExamples(t *testing.T) {
	cases := []struct {
		line string
		want []string
	}{
		{"  sale 0\ttea \"green tea\" 2 \"\"", []string{"sale", "0", "tea", "green tea", "2", ""}},
		{"", nil}, {" \t", nil}, {`"\\\""`, []string{`\"`}}, {`é"`, nil}, {"\"\t\" \ufffd", []string{"\t", "\ufffd"}},
	}
	for _, c := range cases {
		want := api.OK
		if strings.HasPrefix(c.line, "é") {
			want = api.ErrTextLine
		}
		if g, e := text.Words(c.line); !slices.Equal(g, c.want) || e != want {
			t.Errorf("Words(%q): %q, %d", c.line, g, e)
		}
	}
	bad := []string{`a"b`, `"a"b`, `"a`, `"\n"`, `a\`, `\`, `"\`, `"\"`, `"""`, "a\x80", "\"\xff\"", "a\rb", "\"\x00\"", "\x7f", "a\n", "\xed\xa0\x80"}
	for _, s := range bad {
		if g, e := text.Words(s); len(g) != 0 || e != api.ErrTextLine {
			t.Errorf("Words(%q): %q, %d", s, g, e)
		}
	}
}

func TestP2_6WordsAllShortLines(t *testing.T) {
	strew([]string{"a", "é", `"`, `\`, " ", "\t", "\x01"}, 6, func(s string) { expectWords(t, s) })
}

func TestP2_6WordsEachCodePoint(t *testing.T) {
	for c := rune(0); c < 0x300; c++ {
		for _, s := range []string{string(c), "a" + string(c) + "b", `"` + string(c) + `"`, `"\` + string(c) + `"`, `"a"` + string(c)} {
			expectWords(t, s)
		}
	}
}

func TestP2_6WordsLimits(t *testing.T) {
	lines := []string{
		strings.Repeat("a ", 32), strings.Repeat(" a", 33), strings.Repeat(`"" `, 32), strings.Repeat(`"" `, 33),
		strings.Repeat("x", 1024), strings.Repeat("x", 1025), strings.Repeat(" ", 1025), strings.Repeat("é", 512), strings.Repeat("é", 512) + " ",
		`"` + strings.Repeat(" ", 1022) + `"`, strings.Repeat("a ", 32) + `"`, strings.Repeat("a ", 33) + `"`,
	}
	for _, s := range lines {
		expectWords(t, s)
	}
	if g, _ := text.Words(lines[0]); len(g) != 32 {
		t.Errorf("32 words: %d", len(g))
	}
}

func TestP2_7AnyBytes(t *testing.T) {
	draw := rand.New(rand.NewSource(6))
	for range 20000 {
		b := make([]byte, draw.Intn(20))
		for i := range b {
			b[i] = byte(draw.Intn(256))
		}
		s := string(b)
		text.Check(s)
		text.Fold(s)
		expectWhole(t, s)
		expectAmount(t, s)
		expectWords(t, s)
	}
}

func TestP2_7WordsOwnMemory(t *testing.T) {
	const line = `a "b c" d`
	first, _ := text.Words(line)
	second, _ := text.Words(line)
	_ = append(first[:1], "x")
	for i := range first {
		first[i] = strconv.Itoa(i)
	}
	if !slices.Equal(second, []string{"a", "b c", "d"}) {
		t.Errorf("two answers share memory: %q", second)
	}
}
