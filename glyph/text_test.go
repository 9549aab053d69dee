package glyph

import (
	"math"
	"slices"
	"strings"
	"testing"
	"unicode/utf8"
)

// P5.2: the signs that bytes represent.
func TestDecode(t *testing.T) {
	tests := []struct{ text, want string }{
		{"", ""},
		{" ", " "}, {"\t", " "}, {"\t\t \t", "    "}, {"a\tb", "a b"}, {"\ta", " a"}, {"a\t", "a "},
		{"A\u2190\u2373\t3", "A\u2190\u2373 3"},
		{"\u00af1.5E\u00af3", "\u00af1.5E\u00af3"},
		{"'it''s'", "'it''s'"},
		{"\\/\u233f\u2340", "\\/\u233f\u2340"},
		{"\"#$%&@^`{}", "\"#$%&@^`{}"},
		{"+\u00d7\u25cb\u235d\u25ca", "+\u00d7\u25cb\u235d\u25ca"},
		{strings.Repeat("\u2374 ", 3000), strings.Repeat("\u2374 ", 3000)},
	}
	for _, test := range tests {
		l, ok := Decode(test.text)
		if !ok || !slices.Equal(l, []rune(test.want)) {
			t.Errorf("Decode(%q) = %q, %v", test.text, string(l), ok)
		}
	}
}

// Every sign that has a kind is read, and no other but the tab.
func TestDecodeEverySign(t *testing.T) {
	want := kinds(t)
	for c := rune(0); c <= utf8.MaxRune; c++ {
		if !utf8.ValidRune(c) {
			continue
		}
		text := "a" + string(c) + "b"
		l, ok := Decode(text)
		switch {
		case c == 9:
			if !ok || string(l) != "a b" {
				t.Errorf("Decode(%q) = %q, %v", text, string(l), ok)
			}
		case want[c] != None:
			if !ok || !slices.Equal(l, []rune{'a', c, 'b'}) {
				t.Errorf("Decode(%q) = %q, %v", text, string(l), ok)
			}
		case ok || len(l) != 0:
			t.Errorf("Decode(%q) = %q, %v", text, string(l), ok)
		}
	}
}

// P5.2: bytes that are not UTF-8, and signs that are not of the language.
func TestDecodeWrong(t *testing.T) {
	wrong := []string{
		// Not UTF-8: bytes that begin nothing, that are cut short, too long.
		"\x80", "\xbf", "\xff", "\xfe", "\xc3", "\xe2", "\xe2\x8d", "\xf0", "\xf0\x9f", "\xf0\x9f\x98",
		"\xc2\xaf\xaf", "\xe2\x8d\xb4\xb4", "\xaf", "\xe2a\x8d", "\xe2\x8da", "\xd7\xf7",
		"\xc1\xa1", "\xc0\xa0", "\xc0\x80", "\xe0\x81\xa1", "\xe0\x82\xaf", "\xf0\x80\x81\xa1", "\xf0\x82\x8d\xb4", "\xf8\x80\x80\x81\xa1", "\xfc\x80\x80\x80\x81\xa1",
		// Surrogates, alone and in pairs; code points beyond the last one.
		"\xed\xa0\x80", "\xed\xbf\xbf", "\xed\xa0\xbd\xed\xb8\x80", "\xf4\x90\x80\x80", "\xf7\xbf\xbf\xbf",
		// Signs that are not of the language.
		"\ufffd", "\u20ac", "\u00e9", "\x00", "\x01", "\x02", "\n", "\r", "\v", "\f", "\b", "\x1b", "\x7f", "\u0080", "\u0085", "\u00a0", "\u2028", "\ufeff", "\uffff", "\U0010ffff", "\U0001f600",
		"\u2205", "\u2207\u0301", "\u00d6", "\u00b0", "\u2212", "\u03c1", "\u2044", "\u22c6", "\u223c",
	}
	for _, s := range wrong {
		for _, text := range []string{s, "a" + s, s + "a", "ab\t" + s + "\u2374c", " " + s + " ", strings.Repeat("a", 1000) + s} {
			if l, ok := Decode(text); ok || len(l) != 0 {
				t.Errorf("Decode(%q) = %q, %v", text, string(l), ok)
			}
		}
	}
}

// Every text of up to three bytes out of some, against the library's reading.
func TestDecodeBytes(t *testing.T) {
	want := kinds(t)
	some := []byte{0, 9, 10, 32, 'a', 0x7f, 0x80, 0x8d, 0x90, 0xa0, 0xaf, 0xb4, 0xbf, 0xc0, 0xc2, 0xc3, 0xdf, 0xe0, 0xe2, 0xed, 0xef, 0xf0, 0xf4, 0xf5, 0xff}
	texts := []string{""}
	for range 3 {
		for _, text := range texts {
			for _, b := range some {
				texts = append(texts, text+string([]byte{b}))
			}
		}
		slices.Sort(texts)
		texts = slices.Compact(texts)
	}
	for _, text := range texts {
		right := utf8.ValidString(text)
		for _, c := range text {
			right = right && (c == 9 || want[c] != None)
		}
		l, ok := Decode(text)
		if ok != right {
			t.Errorf("Decode(%q) = %q, %v", text, string(l), ok)
		}
		if !ok && len(l) != 0 {
			t.Errorf("Decode(%q) = %q beside false", text, string(l))
		}
		if ok && string(l) != strings.ReplaceAll(text, "\t", " ") {
			t.Errorf("Decode(%q) = %q", text, string(l))
		}
	}
}

// P5.2: signs as bytes.
func TestEncode(t *testing.T) {
	if s := Encode(); s != "" {
		t.Errorf("Encode() = %q", s)
	}
	if s := Encode([]rune(nil)...); s != "" {
		t.Errorf("Encode(nil) = %q", s)
	}
	tests := []struct {
		signs []rune
		want  string
	}{
		{[]rune{}, ""},
		{[]rune{'a'}, "a"},
		{[]rune{0xaf}, "\xc2\xaf"},
		{[]rune{0x2374}, "\xe2\x8d\xb4"},
		{[]rune{'A', 0x2190, 0x2373, ' ', '3'}, "A\xe2\x86\x90\xe2\x8d\xb3 3"},
		{[]rune{' ', ' '}, "  "},
		{[]rune{'\\', '"', '\''}, "\\\"'"},
		{[]rune{0x1f600}, "\xf0\x9f\x98\x80"},
		{[]rune{0}, "\x00"},
		{[]rune{9, 10}, "\t\n"},
	}
	for _, test := range tests {
		l := clone(test.signs)
		if got := Encode(l...); got != test.want {
			t.Errorf("Encode(%U) = %q", test.signs, got)
		}
		checkKept(t, "Encode", l, test.signs)
	}
	if s := Encode('a', 0xaf, '1'); s != "a\u00af1" {
		t.Errorf("Encode = %q", s)
	}
}

// Whatever it is given, Encode answers UTF-8, and keeps nothing of it.
func TestEncodeAnything(t *testing.T) {
	l := []rune{math.MinInt32, -1, 0xd800, 'a', 0x110000, math.MaxInt32}
	s := Encode(l...)
	if !utf8.ValidString(s) || utf8.RuneCountInString(s) != len(l) {
		t.Errorf("Encode = %q", s)
	}
	l = []rune("abc")
	s = Encode(l...)
	l[1] = 'x'
	if s != "abc" {
		t.Errorf("the text is now %q", s)
	}
}

// P5.4: Encode of what Decode returns is the original text, except for tabs.
func TestThereAndBack(t *testing.T) {
	var signs []rune
	for c := range kinds(t) {
		signs = append(signs, c)
	}
	slices.Sort(signs)
	for at := range signs {
		for size := range 12 {
			text := string(slices.Concat(signs, signs[:11])[at : at+size])
			l, ok := Decode(text)
			if !ok || Encode(l...) != text {
				t.Errorf("Decode(%q) = %q, %v", text, string(l), ok)
			}
			tabs := strings.ReplaceAll(text, " ", "\t") + "\t"
			l, ok = Decode(tabs)
			if !ok || Encode(l...) != text+" " {
				t.Errorf("Decode(%q) = %q, %v", tabs, string(l), ok)
			}
		}
	}
}

// P5.3: signs without the blanks at both ends.
func TestTrim(t *testing.T) {
	tests := []struct{ text, want string }{
		{"", ""}, {" ", ""}, {"  ", ""}, {"   ", ""},
		{"a", "a"}, {" a", "a"}, {"a ", "a"}, {" a ", "a"}, {"   a    ", "a"},
		{"a b", "a b"}, {"  a b ", "a b"}, {" a  b", "a  b"}, {"a   b   ", "a   b"},
		{"\t a \t", "\t a \t"}, {" \t ", "\t"}, {"\n", "\n"}, {" \u00a0 ", "\u00a0"}, {"\u2003a", "\u2003a"},
		{" \u2374 \u2373 ", "\u2374 \u2373"}, {" '' ", "''"},
	}
	for _, test := range tests {
		l := clone([]rune(test.text))
		got := Trim(l)
		if string(got) != test.want {
			t.Errorf("Trim(%q) = %q", test.text, string(got))
		}
		checkKept(t, "Trim", l, []rune(test.text))
	}
	if l := Trim(nil); len(l) != 0 {
		t.Errorf("Trim(nil) = %q", string(l))
	}
}

// Signs that are none stay as they are.
func TestTrimAnything(t *testing.T) {
	l := []rune{' ', -1, ' ', math.MinInt32, 0xd800, math.MaxInt32, ' '}
	if got := Trim(l); !slices.Equal(got, l[1:6]) {
		t.Errorf("Trim = %d", got)
	}
}

// What Trim answers is memory of its own, its spare room too.
func TestTrimShared(t *testing.T) {
	for _, text := range []string{"ab", " ab", "ab ", "  ab  "} {
		l := clone([]rune(text))
		got := Trim(l)
		got[0], got[1] = 'Q', 'R'
		_ = append(got, 'S')
		checkKept(t, "Trim", l, []rune(text))
		got = Trim(l)
		for at := range l {
			l[at] = 'T'
		}
		if string(got) != "ab" {
			t.Errorf("Trim(%q) is now %q", text, string(got))
		}
	}
}

// P5.3: the texts between blanks.
func TestWords(t *testing.T) {
	tests := []struct {
		text string
		want []string
	}{
		{"", nil}, {" ", nil}, {"   ", nil},
		{"a", []string{"a"}}, {" a", []string{"a"}}, {"a ", []string{"a"}}, {"  a  ", []string{"a"}},
		{" a b ", []string{"a", "b"}}, {"a b", []string{"a", "b"}}, {"a  b", []string{"a", "b"}}, {"   ab   cd  e ", []string{"ab", "cd", "e"}},
		{")SAVE MY\u2206WS", []string{")SAVE", "MY\u2206WS"}},
		{"a a a", []string{"a", "a", "a"}},
		{"a\tb", []string{"a\tb"}}, {"a\u00a0b c", []string{"a\u00a0b", "c"}}, {"a\nb", []string{"a\nb"}},
		{"'x y'", []string{"'x", "y'"}}, {"\u2374 \u2373", []string{"\u2374", "\u2373"}},
		{strings.Repeat("ab ", 700), slices.Repeat([]string{"ab"}, 700)},
	}
	for _, test := range tests {
		l := clone([]rune(test.text))
		if got := Words(l); !slices.Equal(got, test.want) {
			t.Errorf("Words(%q) = %q", test.text, got)
		}
		checkKept(t, "Words", l, []rune(test.text))
	}
	if got := Words(nil); len(got) != 0 {
		t.Errorf("Words(nil) = %q", got)
	}
}

// What Words answers does not change with its argument.
func TestWordsShared(t *testing.T) {
	l := []rune(" ab cd")
	got := Words(l)
	for at := range l {
		l[at] = 'x'
	}
	if !slices.Equal(got, []string{"ab", "cd"}) {
		t.Errorf("Words is now %q", got)
	}
}

// Words and Trim, against the library's, for every text of some signs.
func TestAgainstTheLibrary(t *testing.T) {
	texts := []string{""}
	for range 6 {
		for _, text := range texts {
			texts = append(texts, text+" ", text+"a", text+"\u2374")
		}
		slices.Sort(texts)
		texts = slices.Compact(texts)
	}
	for _, text := range texts {
		l := []rune(text)
		if got := string(Trim(l)); got != strings.Trim(text, " ") {
			t.Errorf("Trim(%q) = %q", text, got)
		}
		if got := Words(l); !slices.Equal(got, strings.Fields(text)) {
			t.Errorf("Words(%q) = %q", text, got)
		}
	}
}
