package tests

import (
	"strings"
	"testing"

	"loop.example/g00787/impl"
)

func TestNames(t *testing.T) {
	for _, name := range []string{"a", "z", "A", "Z", "_", "_9", "a0", "Forth_83", "abcdefghijkl", "____________"} {
		if !impl.NameOK(name) {
			t.Errorf("NameOK(%q) is false", name)
		}
	}
	for _, name := range []string{"", "0", "9a", "abcdefghijklm", "a b", " a", "a ", "a-b", "+", "a\x00", "é", "aé", "a\n", "@", "[", "`", "{", "a/", "a:", "a\xff", strings.Repeat("a", impl.MaxText+1)} {
		if impl.NameOK(name) {
			t.Errorf("NameOK(%.20q) is true", name)
		}
	}
}

func TestNamesByteByByte(t *testing.T) {
	const letters = "abcdefghijklmnopqrstuvwxyzABCDEFGHIJKLMNOPQRSTUVWXYZ_"
	for c := range 256 {
		one := string([]byte{byte(c)})
		if got, want := impl.NameOK(one), strings.Contains(letters, one); got != want {
			t.Errorf("NameOK(%q) is %v", one, got)
		}
		if got, want := impl.NameOK("x"+one), strings.Contains(letters+"0123456789", one); got != want {
			t.Errorf("NameOK(%q) is %v", "x"+one, got)
		}
	}
}

func TestCodeWords(t *testing.T) {
	words := map[int]string{
		impl.OK: "ok", impl.ErrBad: "bad", impl.ErrLong: "long", impl.ErrForm: "form", impl.ErrRange: "range",
		impl.ErrNone: "none", impl.ErrMany: "many", impl.ErrFull: "full", impl.ErrSize: "size", impl.ErrKind: "kind",
		impl.ErrName: "name", impl.ErrState: "state", impl.ErrControl: "control", impl.ErrToken: "token", impl.ErrFuel: "fuel",
		impl.ErrThrown: "thrown", impl.ErrDenied: "denied", impl.ErrSealed: "sealed", impl.ErrSame: "same",
	}
	for code := range 19 {
		word := words[code]
		if word == "" {
			t.Fatalf("no constant has the value %d", code)
		}
		if got := impl.CodeWord(code); got != word {
			t.Errorf("CodeWord(%d) = %q, want %q", code, got, word)
		}
		if got := impl.CodeOf(word); got != code {
			t.Errorf("CodeOf(%q) = %d, want %d", word, got, code)
		}
	}
}

func TestOtherCodesHaveNoWord(t *testing.T) {
	for _, code := range []int{-1, 19, 256, minInt, maxInt} {
		if word := impl.CodeWord(code); word != "" {
			t.Errorf("CodeWord(%d) = %q", code, word)
		}
	}
	for _, word := range []string{"", "x", "OK", "Ok", "ok ", " ok", "o", "oks", "same\x00", strings.Repeat("ok", impl.MaxText)} {
		if code := impl.CodeOf(word); code != -1 {
			t.Errorf("CodeOf(%.20q) = %d", word, code)
		}
	}
}
