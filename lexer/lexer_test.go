package lexer_test

import (
	"regexp"
	"slices"
	"strings"
	"testing"
	"unsafe"

	"quittance/api"
	"quittance/lexer"
)

func word(at int, s string) api.Token   { return api.Token{Kind: api.TokWord, At: at, Text: s} }
func number(at int, s string) api.Token { return api.Token{Kind: api.TokNumber, At: at, Text: s} }
func sign(at int, s string) api.Token   { return api.Token{Kind: api.TokSign, At: at, Text: s} }
func end(at int) api.Token              { return api.Token{Kind: api.TokEnd, At: at} }

var (
	passedForm = regexp.MustCompile(`\A(?:[ \t\n]|#[^\n]*)*`)
	signForm   = regexp.MustCompile(`\A(?:([A-Za-z][A-Za-z0-9\-]*)|(-?[0-9][0-9.\-/%]*)|([{};]))`)
)

// wanted is what All is to answer of s.
func wanted(s string) ([]api.Token, int, api.Errno) {
	if len(s) > api.MaxText {
		return nil, 0, api.ErrRange
	}
	var l []api.Token
	at := len(passedForm.FindString(s))
	for at < len(s) {
		m := signForm.FindStringSubmatch(s[at:])
		if m == nil {
			return nil, at, api.ErrToken
		}
		for i, kind := range []int{api.TokWord, api.TokNumber, api.TokSign} {
			if m[i+1] != "" {
				l = append(l, api.Token{Kind: kind, At: at, Text: m[0]})
			}
		}
		at += len(m[0])
		at += len(passedForm.FindString(s[at:]))
	}
	return append(l, end(len(s))), 0, api.OK
}

// short is a text as a test tells it.
func short(s string) string {
	return s[:min(len(s), 60)]
}

// check holds All of s against what is wanted.
func check(t *testing.T, s string) {
	t.Helper()
	want, wantAt, wantErrno := wanted(s)
	l, at, e := lexer.All(s)
	if !slices.Equal(l, want) || at != wantAt || e != wantErrno {
		t.Errorf("P7.1: All(%q): %+v, %d, error %d; want %+v, %d, %d", short(s), l, at, e, want, wantAt, wantErrno)
	}
}

// texts calls f with each text of at most n of these bytes.
func texts(of string, n int, f func(s string)) {
	var grow func(s string)
	grow = func(s string) {
		f(s)
		if len(s) == n {
			return
		}
		for i := range len(of) {
			grow(s + of[i:i+1])
		}
	}
	grow("")
}

func TestAll(t *testing.T) {
	for _, r := range []struct {
		s    string
		want []api.Token
	}{
		{"", []api.Token{end(0)}},
		{"rate 5%;", []api.Token{word(0, "rate"), number(5, "5%"), sign(7, ";"), end(8)}},
		{
			"product home {\n  late 30 5.00; # a fee\n}\n",
			[]api.Token{
				word(0, "product"), word(8, "home"), sign(13, "{"), word(17, "late"), number(22, "30"), number(25, "5.00"),
				sign(29, ";"), sign(39, "}"), end(41),
			},
		},
		{"holiday 2024-12-25;", []api.Token{word(0, "holiday"), number(8, "2024-12-25"), sign(18, ";"), end(19)}},
		// Words: both kinds of letters, all that may follow, and what ends them.
		{"a", []api.Token{word(0, "a"), end(1)}},
		{"AZaz09-", []api.Token{word(0, "AZaz09-"), end(7)}},
		{"a--", []api.Token{word(0, "a--"), end(3)}},
		{"a-1 a1-", []api.Token{word(0, "a-1"), word(4, "a1-"), end(7)}},
		{"a{b}c;d", []api.Token{word(0, "a"), sign(1, "{"), word(2, "b"), sign(3, "}"), word(4, "c"), sign(5, ";"), word(6, "d"), end(7)}},
		// Numbers: all that may follow, a hyphen ahead, and what ends them.
		{"0", []api.Token{number(0, "0"), end(1)}},
		{"-0", []api.Token{number(0, "-0"), end(2)}},
		{"0123456789.-/%", []api.Token{number(0, "0123456789.-/%"), end(14)}},
		{"-1-2", []api.Token{number(0, "-1-2"), end(4)}},
		{"1-", []api.Token{number(0, "1-"), end(2)}},
		{"1-a", []api.Token{number(0, "1-"), word(2, "a"), end(3)}},
		{"5a5", []api.Token{number(0, "5"), word(1, "a5"), end(3)}},
		{"5%x-5", []api.Token{number(0, "5%"), word(2, "x-5"), end(5)}},
		{"1e5", []api.Token{number(0, "1"), word(1, "e5"), end(3)}},
		{"1 -2", []api.Token{number(0, "1"), number(2, "-2"), end(4)}},
		{"1;-2", []api.Token{number(0, "1"), sign(1, ";"), number(2, "-2"), end(4)}},
		// Signs stand by themselves.
		{"{{;;}}", []api.Token{sign(0, "{"), sign(1, "{"), sign(2, ";"), sign(3, ";"), sign(4, "}"), sign(5, "}"), end(6)}},
		// What is passed over.
		{" ", []api.Token{end(1)}},
		{"\t\n \n\t", []api.Token{end(5)}},
		{"\n\ta\t\n", []api.Token{word(2, "a"), end(5)}},
		{"#", []api.Token{end(1)}},
		{"#\n", []api.Token{end(2)}},
		{"#a", []api.Token{end(2)}},
		{"# , \r \x00 \xff \u00e9 #\na", []api.Token{word(15, "a"), end(16)}},
		{"#1\n#2\n #3\n;#4", []api.Token{sign(10, ";"), end(13)}},
		{"a#\n#b\nc", []api.Token{word(0, "a"), word(6, "c"), end(7)}},
		{"5#5", []api.Token{number(0, "5"), end(3)}},
		{"-5#\n-5", []api.Token{number(0, "-5"), number(4, "-5"), end(6)}},
		{"{#}\n}", []api.Token{sign(0, "{"), sign(4, "}"), end(5)}},
	} {
		if l, at, e := lexer.All(r.s); !slices.Equal(l, r.want) || at != 0 || e != api.OK {
			t.Errorf("P7.1: All(%q): %+v, %d, error %d; want %+v, 0, 0", r.s, l, at, e, r.want)
		}
		check(t, r.s)
	}
}

func TestAllRefuses(t *testing.T) {
	for _, r := range []struct {
		s  string
		at int
	}{
		{",", 0}, {"-", 0}, {"--1", 0}, {"-a", 0}, {"- 1", 0}, {"-.5", 0}, {"-%", 0}, {"-#", 0}, {"-\n1", 0}, {"-\xff", 0},
		{".", 0}, {".5", 0}, {"/", 0}, {"%", 0}, {"+5", 0}, {"_", 0}, {"_a", 0}, {"(", 0}, {"[", 0}, {":", 0}, {"\"", 0},
		{"@", 0}, {"`", 0}, {"|", 0}, {"~", 0}, {"!", 0}, {"\x7f", 0}, {"\x00", 0}, {"\r", 0}, {"\v", 0}, {"\f", 0},
		{"\x80", 0}, {"\xff", 0}, {"\u00a0", 0}, {"\u00e9", 0}, {"\ufeffa", 0}, {"\u2028", 0}, {"\u0661", 0}, {"\u212a", 0},
		// The first that is none is told, with what is passed over ahead of it.
		{"a ,,", 2}, {" \t\n,", 3}, {"# ,\n,", 4}, {"a b ; { } 5 ?", 12}, {"a\r\nb", 1}, {"rate 5,25%;", 6}, {"a -b", 2}, {"a.b", 1},
		{"a/b", 1}, {"a%", 1}, {"a_b", 1}, {"a+", 1}, {"5+5", 1}, {"5,", 1}, {"5_000", 1}, {"5 .5", 2}, {"5 -", 2}, {";-", 1}, {"5%x-5%", 5},
		{"a\x00", 1}, {"a\u00e9", 1}, {"5\u00e9", 1}, {"{\xff}", 1}, {"#\n\xff#", 2},
	} {
		if l, at, e := lexer.All(r.s); len(l) != 0 || at != r.at || e != api.ErrToken {
			t.Errorf("P7.1: All(%q): %+v, %d, error %d; want none, %d, 6", r.s, l, at, e, r.at)
		}
		check(t, r.s)
	}
}

func TestAllOfLongTexts(t *testing.T) {
	fill := func(s string, n int) string { return strings.Repeat(s, n/len(s)+1)[:n] }
	for _, s := range []string{" ", "\n", "a", "a-", "Z9", "5", "-5", "1.%/-", ";", "{", "}", "#", "#\n", "a ", "5;", "# a\nb 5%;\t"} {
		check(t, fill(s, api.MaxText-1))
		check(t, fill(s, api.MaxText))
		check(t, fill(s, api.MaxText-1)+",")
		for _, long := range []string{fill(s, api.MaxText+1), fill(s, api.MaxText) + ",", "," + fill(s, api.MaxText), fill(s, 1<<20)} {
			// How long it is is told first, whatever else is wrong, and without a place.
			if l, at, e := lexer.All(long); len(l) != 0 || at != 0 || e != api.ErrRange {
				t.Errorf("P7.1: All of %d bytes, %q ..: %d signs, %d, error %d; want none, 0, 3", len(long), short(long), len(l), at, e)
			}
		}
	}
	whole := fill("a", api.MaxText)
	if l, at, e := lexer.All(whole); !slices.Equal(l, []api.Token{word(0, whole), end(api.MaxText)}) || at != 0 || e != api.OK {
		t.Errorf("P7.1: All of one word of MaxText bytes: %d signs, %d, error %d", len(l), at, e)
	}
	if l, at, e := lexer.All(fill(";", api.MaxText)); len(l) != api.MaxText+1 || at != 0 || e != api.OK {
		t.Errorf("P7.1: All of MaxText signs: %d signs, %d, error %d", len(l), at, e)
	}
	if _, at, e := lexer.All(fill(" ", api.MaxText-1) + "-"); at != api.MaxText-1 || e != api.ErrToken {
		t.Errorf("P7.1: All of a hyphen at the end of MaxText bytes: %d, error %d", at, e)
	}
}

func TestAllOfEveryPairOfBytes(t *testing.T) {
	for a := range 256 {
		check(t, string([]byte{byte(a)}))
		for b := range 256 {
			check(t, string([]byte{byte(a), byte(b)}))
		}
	}
}

// TestAllOfEveryByteInside: each byte ahead of, within and behind a sign of each kind, and in a remark.
func TestAllOfEveryByteInside(t *testing.T) {
	for a := range 256 {
		b := string([]byte{byte(a)})
		for _, s := range []string{"x", "x-", "5", "-5", "5.", "{", "}", ";", "#", "#x", "\n"} {
			for _, tail := range []string{"", "x", "5", "-", ";", " ", "\n", "#"} {
				check(t, s+b+tail)
				check(t, " "+b+s+tail)
			}
		}
	}
}

func TestAllOfShortTexts(t *testing.T) {
	texts("a5-.{# \n,", 5, func(s string) { check(t, s) })
}

// TestSignsStandWhereTheyStood: each sign's text is what stands at its place; the places rise, and what
// lies between is passed over.
func TestSignsStandWhereTheyStood(t *testing.T) {
	texts("Zx09-%; \t\n#", 4, func(s string) {
		l, _, e := lexer.All(s)
		if e != api.OK {
			return
		}
		behind := 0
		for i, token := range l {
			if token.At < behind || !strings.HasPrefix(s[token.At:], token.Text) {
				t.Fatalf("P7.1: All(%q): %+v", s, l)
			}
			if gap := s[behind:token.At]; passedForm.FindString(gap) != gap {
				t.Fatalf("P7.1: All(%q): %+v: %q is passed over", s, l, gap)
			}
			if last := i == len(l)-1; last != (token.Kind == api.TokEnd) || last != (token.Text == "") {
				t.Fatalf("P7.1: All(%q): %+v: the end is told elsewhere than at the end", s, l)
			}
			behind = token.At + len(token.Text)
		}
		if l[len(l)-1] != end(len(s)) {
			t.Fatalf("P7.1: All(%q): %+v: no end", s, l)
		}
	})
}

func TestAnswersAreNewMemory(t *testing.T) {
	const s = "rate 5.25%; # as it was\n{a}"
	text := strings.Clone(s)
	first, _, _ := lexer.All(text)
	want := slices.Clone(first)
	for _, token := range first[:len(first)-1] {
		if unsafe.StringData(token.Text) == unsafe.StringData(text[token.At:]) {
			t.Errorf("R3: the sign %+v is a piece of the text", token)
		}
	}
	clear(first[:cap(first)])
	second, at, e := lexer.All(text)
	if !slices.Equal(second, want) || at != 0 || e != api.OK || text != s {
		t.Errorf("R2, R3: All, again: %+v, %d, error %d; want %+v", second, at, e, want)
	}
	// What was refused leaves nothing behind.
	lexer.All(", ")
	if third, at, e := lexer.All(text); !slices.Equal(third, want) || at != 0 || e != api.OK {
		t.Errorf("R2: All, behind a refusal: %+v, %d, error %d; want %+v", third, at, e, want)
	}
}
