package token

import (
	"slices"
	"strings"
	"testing"

	"turntable/api"
)

const (
	aloneBytes    = "(){}=:"
	togetherBytes = "abcdefghijklmnopqrstuvwxyzABCDEFGHIJKLMNOPQRSTUVWXYZ0123456789.%@-_"
	blankBytes    = "\t\n\r "
)

// texts are the words of a list alone, without where they stand.
func texts(l []api.Token) []string {
	var list []string
	for _, w := range l {
		list = append(list, w.Text)
	}
	return list
}

// isOne says whether b is one of the bytes of set.
func isOne(b byte, set string) bool { return strings.IndexByte(set, b) >= 0 }

// slowSplit is promise 2.1 told byte by byte, from each place on anew.
func slowSplit(text string) ([]api.Token, api.Err) {
	var l []api.Token
	for at := 0; at < len(text); {
		end := at + 1
		switch {
		case isOne(text[at], blankBytes):
		case text[at] == '#':
			for end < len(text) && text[end] != 10 && text[end] != 13 {
				end++
			}
		case isOne(text[at], aloneBytes):
			l = append(l, api.Token{Text: text[at:end], At: at})
		case isOne(text[at], togetherBytes):
			for end < len(text) && isOne(text[end], togetherBytes) {
				end++
			}
			l = append(l, api.Token{Text: text[at:end], At: at})
		default:
			return nil, api.Err{Code: api.ErrText, At: at}
		}
		at = end
	}
	return l, api.Err{}
}

// mustSplit asks for the words that a text has, and for nothing wrong.
func mustSplit(t *testing.T, text string, want ...api.Token) {
	t.Helper()
	got, e := Split(text)
	if e != (api.Err{}) || !slices.Equal(got, want) {
		t.Errorf("Split(%.60q) = %v, %v, want %v", text, got, e, want)
	}
}

// mustRefuse asks for a code, its place, and no words beside it (R2).
func mustRefuse(t *testing.T, text string, want api.Err) {
	t.Helper()
	if got, e := Split(text); e != want || len(got) != 0 {
		t.Errorf("Split(%.60q) = %d words, %v, want %v", text, len(got), e, want)
	}
}

// TestSplitExample: the chapter's example, with where each word stands.
func TestSplitExample(t *testing.T) {
	mustSplit(t, "%1 = add.i(x) # y\n z:",
		api.Token{Text: "%1", At: 0}, api.Token{Text: "=", At: 3}, api.Token{Text: "add.i", At: 5},
		api.Token{Text: "(", At: 10}, api.Token{Text: "x", At: 11}, api.Token{Text: ")", At: 12},
		api.Token{Text: "z", At: 19}, api.Token{Text: ":", At: 20})
}

// TestSplitNothing: promise 2.1, texts in which no word stands.
func TestSplitNothing(t *testing.T) {
	for _, text := range []string{
		"", " ", "\t", "\n", "\r", "\r\n", " \t\r\n \t", "#", "##", "# a", "#a\n", "#(\n#)\n", "\n#", " # = \r",
		"#?\x00\x7f\xff\u00e9\n", "#\xe2\x82\n", "#\xe2\x82",
	} {
		mustSplit(t, text)
	}
}

// TestSplitAlone: promise 2.1, the six words of one sign, alone, side by side, and beside others.
func TestSplitAlone(t *testing.T) {
	for i := range len(aloneBytes) {
		a := aloneBytes[i : i+1]
		mustSplit(t, a, api.Token{Text: a, At: 0})
		mustSplit(t, "b"+a, api.Token{Text: "b", At: 0}, api.Token{Text: a, At: 1})
		mustSplit(t, a+"b", api.Token{Text: a, At: 0}, api.Token{Text: "b", At: 1})
		mustSplit(t, "%-"+a+"@.", api.Token{Text: "%-", At: 0}, api.Token{Text: a, At: 2}, api.Token{Text: "@.", At: 3})
		for j := range len(aloneBytes) {
			b := aloneBytes[j : j+1]
			mustSplit(t, a+b, api.Token{Text: a, At: 0}, api.Token{Text: b, At: 1})
		}
	}
	got, e := Split("(){}=:")
	if want := []string{"(", ")", "{", "}", "=", ":"}; e != (api.Err{}) || !slices.Equal(texts(got), want) {
		t.Errorf("%v, %v", got, e)
	}
}

// TestSplitTogether: promise 2.1, what stands together is one word, whatever stands first in it.
func TestSplitTogether(t *testing.T) {
	mustSplit(t, togetherBytes, api.Token{Text: togetherBytes, At: 0})
	for i := range len(togetherBytes) {
		a := togetherBytes[i : i+1]
		mustSplit(t, a, api.Token{Text: a, At: 0})
		for j := range len(togetherBytes) {
			ab := a + togetherBytes[j:j+1]
			mustSplit(t, " "+ab, api.Token{Text: ab, At: 1})
		}
	}
}

// TestSplitBetween: promise 2.1, each of the four bytes, and a note, stands between words.
func TestSplitBetween(t *testing.T) {
	for _, gap := range []string{" ", "\t", "\n", "\r", "\r\n", "  ", " \t ", "\n\n", "#\n", "#\r", "# # (\n", "#b\n#c\r", "#\x80?\n"} {
		mustSplit(t, "a"+gap+"b", api.Token{Text: "a", At: 0}, api.Token{Text: "b", At: 1 + len(gap)})
		mustSplit(t, "="+gap+":", api.Token{Text: "=", At: 0}, api.Token{Text: ":", At: 1 + len(gap)})
		mustSplit(t, gap+"a"+gap, api.Token{Text: "a", At: len(gap)})
	}
}

// TestSplitNotes: promise 2.1, a note goes up to the end of its line, by either end of lines, or of the text.
func TestSplitNotes(t *testing.T) {
	a := api.Token{Text: "a", At: 0}
	mustSplit(t, "a#", a)
	mustSplit(t, "a# b", a)
	mustSplit(t, "a # b = c", a)
	mustSplit(t, "a#b\n", a)
	mustSplit(t, "a#b\nc", a, api.Token{Text: "c", At: 4})
	mustSplit(t, "a#b\rc", a, api.Token{Text: "c", At: 4})
	mustSplit(t, "a#b\r\nc", a, api.Token{Text: "c", At: 5})
	mustSplit(t, "a#\tb\tc", a)
	mustSplit(t, "a#b\n#c", a)
	mustSplit(t, "a#\n(", a, api.Token{Text: "(", At: 3})
	mustSplit(t, "a#\u00e9\u20ac\U0001f600\nb", a, api.Token{Text: "b", At: 12})
	mustSplit(t, "a#\xff\xc3\nb", a, api.Token{Text: "b", At: 5})
	mustRefuse(t, "a#?\n?", api.Err{Code: api.ErrText, At: 4})
	mustRefuse(t, "a#?\r?", api.Err{Code: api.ErrText, At: 4})
	mustRefuse(t, "#\u20ac\n\u20ac", api.Err{Code: api.ErrText, At: 5})
}

// TestSplitBytes: promise 2.1, each of the 256 bytes alone, behind a word, and inside one.
func TestSplitBytes(t *testing.T) {
	for b := range 256 {
		c := string([]byte{byte(b)})
		if isOne(byte(b), aloneBytes+togetherBytes+blankBytes+"#") {
			if _, e := Split("ab" + c + "d"); e != (api.Err{}) {
				t.Errorf("byte %d: %v", b, e)
			}
			continue
		}
		mustRefuse(t, c, api.Err{Code: api.ErrText, At: 0})
		mustRefuse(t, "ab"+c, api.Err{Code: api.ErrText, At: 2})
		mustRefuse(t, "ab"+c+"d", api.Err{Code: api.ErrText, At: 2})
		mustRefuse(t, "( "+c+c, api.Err{Code: api.ErrText, At: 2})
		mustRefuse(t, "a\n"+c+"\n?", api.Err{Code: api.ErrText, At: 2})
		mustSplit(t, "a #"+c, api.Token{Text: "a", At: 0})
	}
}

// TestSplitWrong: promise 2.1, ErrText at the first wrong byte, and letters of more than one byte.
func TestSplitWrong(t *testing.T) {
	rows := []struct {
		text string
		at   int
	}{
		{"?", 0}, {"a ? b", 2}, {"a?b", 1}, {"a b !", 4}, {"? !", 0}, {"+1", 0}, {"a+1", 1}, {"a,b", 1},
		{"[a]", 0}, {"a]", 1}, {"\"a\"", 0}, {"a/b", 1}, {"a;", 1}, {"a<b", 1}, {"a$", 1}, {"\\", 0}, {"a^`", 1},
		{"a\x00b", 1}, {"a\x0bb", 1}, {"a\x0cb", 1}, {"a\x7f", 1}, {"a\xa0", 1}, {"a\x85", 1},
		{"\u00e9", 0}, {"a\u00e9", 1}, {"ab \u00e4", 3}, {"\u0661", 0}, {"x\uff11", 1}, {"a\u00a0b", 1}, {"a\u2028b", 1},
		{"\ufeffa", 0}, {"a\U0001f600", 1}, {"\ufffd", 0}, {"a \xe2\x82", 2}, {"\xed\xa0\x80", 0}, {"# x\n\xff", 4},
		{"\u0128", 0}, {"a\u0161", 1}, {"a\u013a", 1},
	}
	for _, r := range rows {
		mustRefuse(t, r.text, api.Err{Code: api.ErrText, At: r.at})
	}
}

// TestSplitLimit: promise 2.1, just MaxText bytes, and one more, whatever these are (R6: ErrLimit is named first).
func TestSplitLimit(t *testing.T) {
	long := strings.Repeat("a", api.MaxText)
	mustSplit(t, long, api.Token{Text: long, At: 0})
	mustSplit(t, long[1:], api.Token{Text: long[1:], At: 0})
	mustSplit(t, strings.Repeat(" ", api.MaxText))
	mustSplit(t, strings.Repeat(" ", api.MaxText-1)+"=", api.Token{Text: "=", At: api.MaxText - 1})
	mustSplit(t, "#"+strings.Repeat("?", api.MaxText-1))
	mustRefuse(t, long[1:]+"?", api.Err{Code: api.ErrText, At: api.MaxText - 1})
	if got, e := Split(strings.Repeat("(", api.MaxText)); e != (api.Err{}) || len(got) != api.MaxText || got[api.MaxText-1].At != api.MaxText-1 {
		t.Errorf("%d words, %v", len(got), e)
	}
	tooLong := api.Err{Code: api.ErrLimit, At: api.MaxText}
	for _, text := range []string{
		long + "a", long + " ", long + "?", "?" + long, strings.Repeat(" ", api.MaxText+1), strings.Repeat("?", api.MaxText+1),
		"#" + long, strings.Repeat("\u00e9", api.MaxText/2+1), strings.Repeat("\n", 3*api.MaxText),
	} {
		mustRefuse(t, text, tooLong)
	}
	// Bytes count, not letters.
	mustSplit(t, "# "+strings.Repeat("\u00e9", api.MaxText/2-1))
	mustRefuse(t, "#"+strings.Repeat("\u00e9", api.MaxText/2), tooLong)
}

// TestSplitAllShort: promises 2.1, 2.3 and 2.4, all short texts of bytes of each kind.
func TestSplitAllShort(t *testing.T) {
	var try func(text string, room int)
	try = func(text string, room int) {
		want, wrong := slowSplit(text)
		got, e := Split(text)
		if e != wrong || !slices.Equal(got, want) {
			t.Fatalf("Split(%q) = %v, %v, want %v, %v", text, got, e, want, wrong)
		}
		if again, e := Split(Join(got)); e != (api.Err{}) || !slices.Equal(texts(again), texts(got)) {
			t.Fatalf("Split(Join(Split(%q))) = %v, %v", text, again, e)
		}
		if room == 0 {
			return
		}
		for _, c := range []string{"a", "Z", "7", "%", "(", ":", " ", "\n", "\r", "#", "?", "\xc3", "\xa9"} {
			try(text+c, room-1)
		}
	}
	try("", 5)
}

// TestName: promise 2.2.
func TestName(t *testing.T) {
	for _, s := range []string{
		"a", "z", "m", "main", "a_1", "a1", "a_", "a__", "z9", "z0", "x_y_z", "a_1_b2",
		strings.Repeat("a", api.MaxName), "a" + strings.Repeat("9", api.MaxName-1), "a" + strings.Repeat("_", api.MaxName-1),
		strings.Repeat("z", api.MaxName-1),
	} {
		if !Name(s) {
			t.Errorf("Name(%q) is false", s)
		}
	}
	for _, s := range []string{
		"", "A", "Z", "Aa", "aA", "mainZ", "0", "9", "0a", "9a", "_", "_a", "__", "1_", "a.", "a.b", "%1", "%a", "@a", "-a", "a-b", "a-",
		" ", " a", "a ", "a b", "a\n", "\ta", "a\x00", "a(", "a:", "a=", "#", "a#", "`", "{", "a`", "a{", "a/", "a@", "a[",
		"\u00e9", "a\u00e9", "\u0661", "a\u0661", "a\uff11", "\xff", "a\xff", "a\u0161", "\u0161",
		strings.Repeat("a", api.MaxName+1), strings.Repeat("a", api.MaxName) + "_", strings.Repeat("a", api.MaxName-1) + "B",
		strings.Repeat("a", api.MaxText), "a" + strings.Repeat("\u00e9", 20),
	} {
		if Name(s) {
			t.Errorf("Name(%q) is true", s)
		}
	}
}

// TestNameBytes: promise 2.2, each byte first, behind another, and last of MaxName.
func TestNameBytes(t *testing.T) {
	for b := range 256 {
		c := string([]byte{byte(b)})
		letter := b >= 'a' && b <= 'z'
		if Name(c) != letter || Name(c+"a") != letter {
			t.Errorf("byte %d first", b)
		}
		behind := letter || b >= '0' && b <= '9' || b == '_'
		if Name("a"+c) != behind || Name("a"+c+"a") != behind || Name(strings.Repeat("a", api.MaxName-1)+c) != behind {
			t.Errorf("byte %d behind another", b)
		}
	}
}

// TestJoin: promise 2.3, a blank between each two words and nowhere else, wherever the words stood.
func TestJoin(t *testing.T) {
	rows := []struct {
		l    []api.Token
		want string
	}{
		{nil, ""},
		{[]api.Token{}, ""},
		{[]api.Token{{Text: "a"}}, "a"},
		{[]api.Token{{Text: "a", At: 7}}, "a"},
		{[]api.Token{{Text: "a"}, {Text: "b", At: 20}}, "a b"},
		{[]api.Token{{Text: "b", At: 20}, {Text: "a"}}, "b a"},
		{[]api.Token{{Text: "%1"}, {Text: "="}, {Text: "add.i"}, {Text: "("}, {Text: "x"}, {Text: ")"}}, "%1 = add.i ( x )"},
		{[]api.Token{{Text: "("}, {Text: "("}}, "( ("},
		{[]api.Token{{Text: ""}, {Text: "a"}, {Text: ""}}, " a "},
		{[]api.Token{{Text: "a", At: -1}, {Text: "a", At: -1}}, "a a"},
	}
	for _, r := range rows {
		if got := Join(r.l); got != r.want {
			t.Errorf("Join(%v) = %q, want %q", r.l, got, r.want)
		}
	}
}

// TestJoinLeaves: R3, what is handed in stays, and what lies behind the list's length is not read.
func TestJoinLeaves(t *testing.T) {
	whole := []api.Token{{Text: "a", At: 1}, {Text: "b", At: 2}, {Text: "c", At: 3}}
	before := slices.Clone(whole)
	if got := Join(whole[:2]); got != "a b" {
		t.Errorf("%q", got)
	}
	if !slices.Equal(whole, before) {
		t.Errorf("%v", whole)
	}
}

// TestSplitAnew: R3, each answer is new memory.
func TestSplitAnew(t *testing.T) {
	one, _ := Split("a b")
	two, _ := Split("a b")
	one[0] = api.Token{Text: "x", At: 9}
	if two[0] != (api.Token{Text: "a", At: 0}) {
		t.Errorf("%v", two)
	}
	mustSplit(t, "a b", api.Token{Text: "a", At: 0}, api.Token{Text: "b", At: 2})
}

// TestJoinSplit: promise 2.4, words put together are these words again, and each stands where Join put it.
func TestJoinSplit(t *testing.T) {
	words := []string{"(", ")", "{", "}", "=", ":", "a", "main", "%1", "add.i", "-5", "@x", "_", "b0", "Z", togetherBytes}
	check := func(list ...string) {
		var l, want []api.Token
		at := 0
		for _, w := range list {
			l = append(l, api.Token{Text: w, At: 1000 - at})
			want = append(want, api.Token{Text: w, At: at})
			at += len(w) + 1
		}
		mustSplit(t, Join(l), want...)
	}
	check()
	for _, a := range words {
		check(a)
		for _, b := range words {
			check(a, b)
			for _, c := range words {
				check(a, b, c)
			}
		}
	}
	check(words...)
	// As many as a text has room for.
	check(strings.Split(strings.Repeat("(,", api.MaxText/2-1)+"ab", ",")...)
}
