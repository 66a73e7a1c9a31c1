package tests

// Promise 3: the names of words, and which of them name the same word.

import (
	"strings"
	"testing"

	"loop.example/g00787/impl"
)

// upper replaces the 26 letters one by one and leaves all other bytes.
func upper(text string) string {
	for c := 'a'; c <= 'z'; c++ {
		text = strings.ReplaceAll(text, string(c), string(c-'a'+'A'))
	}
	return text
}

func TestUpperOf(t *testing.T) {
	for text, want := range map[string]string{
		"": "", "dup": "DUP", "Dup": "DUP", "DUP": "DUP", "az": "AZ", "2dup": "2DUP", "a b": "A B", "`{": "`{", "@[": "@[", "\x00a\n": "\x00A\n",
		"é": "é", "ß": "ß", "ſ": "ſ", "ı": "ı", "ÿa": "ÿA", "\xff": "\xff", "\xe1a\x80": "\xe1A\x80", "a\xc3": "A\xc3",
	} {
		if got := impl.UpperOf(text); got != want {
			t.Errorf("UpperOf(%q) = %q, want %q", text, got, want)
		}
	}
	for c := range 256 {
		for _, text := range []string{string([]byte{byte(c)}), string([]byte{'q', byte(c), 'Q', byte(c), 'q'})} {
			if got, want := impl.UpperOf(text), upper(text); got != want {
				t.Errorf("UpperOf(%q) = %q, want %q", text, got, want)
			}
		}
	}
}

func TestUpperOfLongTexts(t *testing.T) {
	for _, n := range []int{13, maxLine + 1, impl.MaxText - 1, impl.MaxText} {
		if got := impl.UpperOf(strings.Repeat("x", n)); got != strings.Repeat("X", n) {
			t.Errorf("UpperOf of %d bytes is wrong: %d bytes, %.20q ..", n, len(got), got)
		}
	}
	for _, n := range []int{impl.MaxText + 1, 2 * impl.MaxText} {
		for _, c := range []string{"x", "X", " "} {
			if got := impl.UpperOf(strings.Repeat(c, n)); got != "" {
				t.Errorf("UpperOf of %d bytes is %.20q ..", n, got)
			}
		}
	}
}

func TestWordNames(t *testing.T) {
	for _, name := range []string{"a", "Z", "0", "_", "!", "~", "(", ")", `\`, "+", "-1", "2dup", "[char]", `."`, "twelve-bytes", "~~~~~~~~~~~~", "!!!!!!!!!!!!"} {
		if !impl.WordOK(name) {
			t.Errorf("WordOK(%q) is false", name)
		}
	}
	for _, name := range []string{"", " ", "a b", " a", "a ", "\t", "a\n", "\x00", "a\x7f", "\x80", "\xff", "é", "thirteenbytes", "twelve-bytes ", "~~~~~~~~~~~~~", strings.Repeat("a", impl.MaxText), strings.Repeat("a", impl.MaxText+1)} {
		if impl.WordOK(name) {
			t.Errorf("WordOK(%.20q) is true", name)
		}
	}
}

func TestWordNamesByteByByte(t *testing.T) {
	for c := range 256 {
		for n := 1; n <= impl.MaxName+1; n++ {
			for at := range n {
				name := strings.Repeat("n", at) + string([]byte{byte(c)}) + strings.Repeat("n", n-at-1)
				want := n <= 12 && c >= 33 && c <= 126
				if got := impl.WordOK(name); got != want {
					t.Fatalf("WordOK(%q) is %v", name, got)
				}
				if got := impl.SameWord(name, name); got != want {
					t.Fatalf("SameWord(%q, %q) is %v", name, name, got)
				}
			}
		}
	}
}

func TestSameWord(t *testing.T) {
	for _, v := range [][2]string{{"a", "A"}, {"dup", "dup"}, {"Dup", "dUP"}, {"2dup", "2DUP"}, {"TWELVE-BYTES", "twelve-bytes"}, {"(", "("}, {"z~z", "Z~Z"}, {"!", "!"}} {
		if !impl.SameWord(v[0], v[1]) || !impl.SameWord(v[1], v[0]) {
			t.Errorf("%q and %q are not the same word", v[0], v[1])
		}
	}
	for _, v := range [][2]string{
		{"", ""}, {"a", ""}, {"a", "b"}, {"dup", "dup2"}, {"dup", "du"}, {"dup", "pud"}, {"-", "_"}, {"1", "!"}, {"@", "`"}, {"[", "{"}, {"^", "~"}, {"a", "1"},
		{"a b", "a b"}, {"a ", "a "}, {"a", "a "}, {"\t", "\t"}, {"\x80", "\x80"}, {"é", "é"}, {"É", "é"}, {"\x7f", "\x7f"}, {"ſ", "s"},
		{"thirteenbytes", "thirteenbytes"}, {"twelve-bytes", "twelve-bytes2"}, {strings.Repeat("a", impl.MaxText+1), strings.Repeat("b", impl.MaxText+1)}, {strings.Repeat("a", impl.MaxText+1), ""}, {"a", strings.Repeat("a", impl.MaxText+1)},
	} {
		if impl.SameWord(v[0], v[1]) || impl.SameWord(v[1], v[0]) {
			t.Errorf("%.20q and %.20q are the same word", v[0], v[1])
		}
	}
}

func TestSameWordsOfOneByte(t *testing.T) {
	for a := range 256 {
		for b := range 256 {
			x, y := string([]byte{byte(a)}), string([]byte{byte(b)})
			want := a >= 33 && a <= 126 && b >= 33 && b <= 126 && upper(x) == upper(y)
			if got := impl.SameWord(x, y); got != want {
				t.Fatalf("SameWord(%q, %q) is %v", x, y, got)
			}
		}
	}
}
