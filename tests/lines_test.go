package tests

// Promise 3: the words of a line are those that the document defines, and
// none of them is part of a comment.

import (
	"fmt"
	"slices"
	"strings"
	"testing"

	"loop.example/g00787/impl"
)

const maxLine = 400

// runsOf splits a line at each space; of the pieces only the empty ones are
// no words.
func runsOf(line string) []string {
	return slices.DeleteFunc(strings.Split(line, " "), func(run string) bool { return run == "" })
}

// wordsOf follows the definition of comments from the front of the line to
// its end, and reports whether all of them are closed.
func wordsOf(runs []string) ([]string, bool) {
	if len(runs) == 0 || runs[0] == `\` {
		return nil, true
	}
	if runs[0] != "(" {
		rest, closed := wordsOf(runs[1:])
		return append([]string{runs[0]}, rest...), closed
	}
	end := slices.IndexFunc(runs[1:], func(run string) bool { return strings.HasSuffix(run, ")") })
	if end < 0 {
		return nil, false
	}
	return wordsOf(runs[1+end+1:])
}

func checkLine(t *testing.T, line string) {
	t.Helper()
	words, code := impl.LineWords(line)
	want, closed := wordsOf(runsOf(line))
	wantCode := impl.OK
	if !closed {
		want, wantCode = nil, impl.ErrForm
	}
	if code != wantCode || !slices.Equal(words, want) {
		t.Fatalf("LineWords(%q) = %q, %d, want %q, %d", line, words, code, want, wantCode)
	}
}

func TestMaxLine(t *testing.T) {
	if impl.MaxLine != maxLine {
		t.Errorf("MaxLine is %d", impl.MaxLine)
	}
}

func TestLineWords(t *testing.T) {
	for _, v := range []struct {
		line string
		want []string
	}{
		{"", nil}, {" ", nil}, {"     ", nil},
		{"dup", []string{"dup"}}, {" dup", []string{"dup"}}, {"dup ", []string{"dup"}}, {"   dup    DROP  1   ", []string{"dup", "DROP", "1"}},
		{"1 2 + .", []string{"1", "2", "+", "."}}, {"dup dup", []string{"dup", "dup"}}, {"Dup dUP", []string{"Dup", "dUP"}},
		{"a\tb", []string{"a\tb"}}, {"\t", []string{"\t"}}, {"\n \r", []string{"\n", "\r"}}, {"a\x00b \x00", []string{"a\x00b", "\x00"}}, {"\u00a0 \u2003 \u0085 \x85", []string{"\u00a0", "\u2003", "\u0085", "\x85"}}, {"\ufffd a\u3000b", []string{"\ufffd", "a\u3000b"}},
		{"é ß", []string{"é", "ß"}}, {"\xff \xc3 \xa9", []string{"\xff", "\xc3", "\xa9"}}, {"\xe2\x80 x", []string{"\xe2\x80", "x"}}, {"\xf0\x9f  \xf0", []string{"\xf0\x9f", "\xf0"}},
	} {
		if words, code := impl.LineWords(v.line); code != impl.OK || !slices.Equal(words, v.want) {
			t.Errorf("LineWords(%q) = %q, %d, want %q", v.line, words, code, v.want)
		}
	}
}

func TestCommentsToTheEndOfTheLine(t *testing.T) {
	for _, v := range []struct {
		line string
		want []string
	}{
		{`\`, nil}, {` \ `, nil}, {`\ a b`, nil}, {`a \`, []string{"a"}}, {`a \ b`, []string{"a"}}, {`a \ b \ c`, []string{"a"}},
		{`a \ ( b`, []string{"a"}}, {`a \ ( b ) c`, []string{"a"}}, {`\ (`, nil}, {`a \ )`, []string{"a"}},
		{`\a b`, []string{`\a`, "b"}}, {`a\ b`, []string{`a\`, "b"}}, {`\\ b`, []string{`\\`, "b"}}, {`a\b c`, []string{`a\b`, "c"}}, {`\( b`, []string{`\(`, "b"}}, {`\) b`, []string{`\)`, "b"}},
		{"a \\\tb c", []string{"a", "\\\tb", "c"}}, {"a \\\nb", []string{"a", "\\\nb"}}, {"/ b", []string{"/", "b"}},
	} {
		if words, code := impl.LineWords(v.line); code != impl.OK || !slices.Equal(words, v.want) {
			t.Errorf("LineWords(%q) = %q, %d, want %q", v.line, words, code, v.want)
		}
	}
}

func TestCommentsInParentheses(t *testing.T) {
	for _, v := range []struct {
		line string
		want []string
	}{
		{"( )", nil}, {"( a )", nil}, {"( a ) b", []string{"b"}}, {"a ( b ) c", []string{"a", "c"}}, {"a (   b   )   c", []string{"a", "c"}},
		{"( a) b", []string{"b"}}, {"( a b) c", []string{"c"}}, {"( )) b", []string{"b"}}, {"( () b", []string{"b"}}, {"( (a) b", []string{"b"}}, {"( \\) b", []string{"b"}}, {"( \xc3) b", []string{"b"}}, {"( é) b", []string{"b"}},
		{"( a)b ) c", []string{"c"}}, {"( a)b c) d", []string{"d"}}, {"( )a b) c", []string{"c"}}, {"( )( ) c", []string{"c"}}, {"( a)\t b) c", []string{"c"}}, {"( a)\x00 ) c", []string{"c"}},
		{"( ( ) b", []string{"b"}}, {"( ( ) )", []string{")"}}, {"( ( a ( b) c ) d", []string{"c", ")", "d"}},
		{"( a ) ( b ) c", []string{"c"}}, {"( a) ( b) ( c) d", []string{"d"}}, {"( a) b ( c) d ( e)", []string{"b", "d"}},
		{`( \ ) b`, []string{"b"}}, {`( \ a) b`, []string{"b"}}, {`( a ) \ ( b`, nil}, {`( a ) b \ ) c`, []string{"b"}},
		{")", []string{")"}}, {"a ) b", []string{"a", ")", "b"}}, {"a b) c", []string{"a", "b)", "c"}}, {") ( )", []string{")"}}, {"( a ) ) b", []string{")", "b"}},
		{"(a b", []string{"(a", "b"}}, {"(a b) c", []string{"(a", "b)", "c"}}, {"(( a", []string{"((", "a"}}, {"() a", []string{"()", "a"}}, {"a( b", []string{"a(", "b"}}, {`(\ a`, []string{`(\`, "a"}}, {"(\t) a", []string{"(\t)", "a"}},
	} {
		if words, code := impl.LineWords(v.line); code != impl.OK || !slices.Equal(words, v.want) {
			t.Errorf("LineWords(%q) = %q, %d, want %q", v.line, words, code, v.want)
		}
	}
}

func TestCommentsThatAreNotClosed(t *testing.T) {
	for _, line := range []string{"(", " ( ", "a (", "( a", "a ( b", "( (", "( a)b", "( )a", `( \`, `( a \ b`, `a ( b \ c`, "( a ) (", "( a) b ( c", "(a) (", "( a)\t", "( a]", "( \xff"} {
		if words, code := impl.LineWords(line); len(words) != 0 || code != impl.ErrForm {
			t.Errorf("LineWords(%q) = %q, %d", line, words, code)
		}
	}
}

func TestLengthsOfLines(t *testing.T) {
	for _, v := range []struct {
		line        string
		words, code int
	}{
		{strings.Repeat(" ", maxLine), 0, impl.OK}, {strings.Repeat("x", maxLine), 1, impl.OK}, {strings.Repeat("x ", maxLine/2), maxLine / 2, impl.OK}, {strings.Repeat("é", maxLine/2), 1, impl.OK}, {`\` + strings.Repeat(" ", maxLine-1), 0, impl.OK},
		{strings.Repeat(" ", maxLine+1), 0, impl.ErrSize}, {strings.Repeat("x", maxLine+1), 0, impl.ErrSize}, {strings.Repeat("x ", maxLine/2) + "x", 0, impl.ErrSize}, {strings.Repeat("é", maxLine/2) + "x", 0, impl.ErrSize}, {`\` + strings.Repeat(" ", maxLine), 0, impl.ErrSize},
		{"( " + strings.Repeat("x", maxLine-2), 0, impl.ErrForm}, {"( " + strings.Repeat("x", maxLine-1), 0, impl.ErrSize},
		{"( " + strings.Repeat("x", maxLine-3) + ")", 0, impl.OK}, {"( " + strings.Repeat("x", maxLine-2) + ")", 0, impl.ErrSize},
		{strings.Repeat(" ", impl.MaxText), 0, impl.ErrSize}, {strings.Repeat("( ", impl.MaxText/2), 0, impl.ErrSize},
		{strings.Repeat(" ", impl.MaxText+1), 0, impl.ErrLong}, {strings.Repeat("( ", impl.MaxText), 0, impl.ErrLong},
	} {
		if words, code := impl.LineWords(v.line); len(words) != v.words || code != v.code {
			t.Errorf("LineWords of %d bytes, %.10q ..: %d words, code %d, want %d, %d", len(v.line), v.line, len(words), code, v.words, v.code)
		}
	}
}

func TestAllShortLines(t *testing.T) {
	const alphabet = ` x()\`
	lines := []string{""}
	for range 7 {
		var longer []string
		for _, line := range lines {
			checkLine(t, line)
			for i := range alphabet {
				longer = append(longer, line+alphabet[i:i+1])
			}
		}
		lines = longer
	}
	for _, line := range lines {
		checkLine(t, line)
	}
}

func TestEveryByteInALine(t *testing.T) {
	for c := range 256 {
		one := string([]byte{byte(c)})
		for _, form := range []string{"%s", "a%sb", "%sa", "a%s", "a %s b", "%s%s", `\%s a`, `\ %s a`, "(%s a", "( a%s", "( a%s ) b", "( a)%s ) b", "( %s) b", "a %s\xa9 \xc3%s"} {
			checkLine(t, strings.ReplaceAll(form, "%s", one))
		}
	}
}

// pieces are words and comments of which any sequence is a line, as long as
// nothing follows the comment to its end.
func pieces() (words, comments []string) {
	return []string{"dup", "(a", "b)", ")", "()", "((", `x\`, `\y`, "\t", "\xff", "é", ":", ";", "-12"},
		[]string{"( )", "( a )", "( n -- n)", "( ( x)", `( \ )`, "(  a)b  c)", "( \xff)"}
}

func TestNoWordIsPartOfAComment(t *testing.T) {
	words, comments := pieces()
	for n := range 2000 {
		var line string
		var want []string
		for k := range 1 + n%9 {
			i := (n*(k+3) + k*k*7 + n/5) % (len(words) + len(comments))
			gap := strings.Repeat(" ", 1+(n+k)%3)
			if i < len(words) {
				want = append(want, words[i])
				line += words[i] + gap
			} else {
				line += comments[i-len(words)] + gap
			}
		}
		if n%4 == 0 {
			line += `\ dup ( drop`
		}
		if got, code := impl.LineWords(line); code != impl.OK || !slices.Equal(got, want) {
			t.Fatalf("LineWords(%q) = %q, %d, want %q", line, got, code, want)
		}
	}
}

func TestWordsOfALineAreTheWordsOfTheirLine(t *testing.T) {
	for _, line := range []string{"a ( b ) ) c", "a  (b c) ( d) e \\ f", "x\\ \\y ( )", "\t \xff ( \\ )"} {
		words, _ := impl.LineWords(line)
		again, code := impl.LineWords(strings.Join(words, " "))
		if code != impl.OK || !slices.Equal(again, words) {
			t.Errorf("the words of %q are %q, and theirs are %q, %d", line, words, again, code)
		}
	}
}

func TestWordsOfLinesShareNoMemory(t *testing.T) {
	const line = "a ( b ) c d e \\ f"
	want := fmt.Sprintf("%q", []string{"a", "c", "d", "e"})
	first, _ := impl.LineWords(line)
	second, _ := impl.LineWords(line)
	all := first[:cap(first)]
	for i := range all {
		all[i] = "changed"
	}
	third, _ := impl.LineWords(line)
	for _, words := range [][]string{second, third} {
		if got := fmt.Sprintf("%q", words); got != want {
			t.Errorf("LineWords(%q) = %s, want %s", line, got, want)
		}
	}
}
