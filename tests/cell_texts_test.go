package tests

import (
	"math/big"
	"strings"
	"testing"

	"loop.example/g00787/impl"
)

const allDigits = "0123456789ABCDEFG"

func badBases() []int {
	return []int{minInt, -10, -1, 0, 1, 17, 36, maxInt}
}

func TestCellTexts(t *testing.T) {
	for _, v := range []struct {
		n, base int
		text    string
	}{
		{0, 2, "0"}, {0, 16, "0"}, {1, 2, "1"}, {-1, 2, "-1"}, {5, 2, "101"}, {-255, 16, "-FF"}, {11259375, 16, "ABCDEF"},
		{maxCell, 10, "2147483647"}, {minCell, 10, "-2147483648"}, {maxCell, 16, "7FFFFFFF"}, {minCell, 16, "-80000000"},
		{maxCell, 2, strings.Repeat("1", 31)}, {minCell, 2, "-1" + strings.Repeat("0", 31)},
	} {
		if text, code := impl.CellText(v.n, v.base); text != v.text || code != impl.OK {
			t.Errorf("CellText(%d, %d) = %q, %d, want %q", v.n, v.base, text, code, v.text)
		}
	}
}

func TestCellsAreRecoveredFromTheirTexts(t *testing.T) {
	for base := 2; base <= 16; base++ {
		for _, n := range cells() {
			text, code := impl.CellText(n, base)
			if want := strings.ToUpper(whole(n).Text(base)); text != want || code != impl.OK {
				t.Fatalf("CellText(%d, %d) = %q, %d, want %q", n, base, text, code, want)
			}
			for _, same := range sameTexts(text) {
				if got, code := impl.ReadCell(same, base); got != n || code != impl.OK {
					t.Fatalf("ReadCell(%q, %d) = %d, %d, want %d", same, base, got, code, n)
				}
			}
			long := withLeadingZeros(text, 33)
			if got, code := impl.ReadCell(long, base); got != 0 || code != impl.ErrForm {
				t.Fatalf("ReadCell(%q, %d) = %d, %d", long, base, got, code)
			}
		}
	}
}

// sameTexts returns other texts of the same number, up to 32 digits.
func sameTexts(text string) []string {
	digits := strings.TrimPrefix(text, "-")
	return []string{text, strings.ToLower(text), withLeadingZeros(text, min(len(digits)+1, 32)), strings.ToLower(withLeadingZeros(text, 32))}
}

func withLeadingZeros(text string, width int) string {
	digits, negative := strings.CutPrefix(text, "-")
	padded := strings.Repeat("0", width-len(digits)) + digits
	if negative {
		return "-" + padded
	}
	return padded
}

func TestCellTextErrors(t *testing.T) {
	for _, n := range notCells() {
		for _, base := range append(badBases(), 2, 10, 16) {
			if text, code := impl.CellText(n, base); text != "" || code != impl.ErrRange {
				t.Errorf("CellText(%d, %d) = %q, %d", n, base, text, code)
			}
		}
	}
	for _, base := range badBases() {
		if text, code := impl.CellText(1, base); text != "" || code != impl.ErrRange {
			t.Errorf("CellText(1, %d) = %q, %d", base, text, code)
		}
	}
}

func TestReadCellWraps(t *testing.T) {
	for base := 2; base <= 16; base++ {
		highest := allDigits[base-1 : base]
		for _, digits := range []string{strings.Repeat(highest, 32), strings.Repeat("1", 32), "1" + strings.Repeat("0", 31), strings.Repeat(highest, 17), strings.Repeat("10", 16)} {
			for _, text := range []string{digits, "-" + digits, strings.ToLower(digits)} {
				number, _ := new(big.Int).SetString(text, base)
				if got, code := impl.ReadCell(text, base); got != wrapBig(number) || code != impl.OK {
					t.Errorf("ReadCell(%q, %d) = %d, %d, want %d", text, base, got, code, wrapBig(number))
				}
			}
		}
	}
}

func TestReadCellOrdinaryTexts(t *testing.T) {
	for _, v := range []struct {
		text    string
		base, n int
	}{
		{"0", 10, 0}, {"-0", 10, 0}, {"00", 2, 0}, {"-000", 16, 0}, {"007", 10, 7}, {"-007", 8, -7}, {"ff", 16, 255}, {"Ff", 16, 255}, {"-fF", 16, -255}, {"a", 11, 10},
		{"2147483647", 10, maxCell}, {"2147483648", 10, minCell}, {"4294967295", 10, -1}, {"4294967296", 10, 0}, {"-2147483648", 10, minCell}, {"-2147483649", 10, maxCell}, {"ffffffff", 16, -1}, {"-ffffffff", 16, 1},
	} {
		if got, code := impl.ReadCell(v.text, v.base); got != v.n || code != impl.OK {
			t.Errorf("ReadCell(%q, %d) = %d, %d, want %d", v.text, v.base, got, code, v.n)
		}
	}
}

func TestReadCellTakesOnlyDigitsOfTheBase(t *testing.T) {
	for base := 2; base <= 16; base++ {
		digits := allDigits[:base] + strings.ToLower(allDigits[:base])
		for c := range 256 {
			one := string([]byte{byte(c)})
			isDigit := strings.Contains(digits, one)
			for _, text := range []string{one, "1" + one, one + "1", "-" + one} {
				if one == "-" && text == "-1" {
					continue
				}
				got, code := impl.ReadCell(text, base)
				if isDigit && code != impl.OK || !isDigit && (got != 0 || code != impl.ErrForm) {
					t.Fatalf("ReadCell(%q, %d) = %d, %d", text, base, got, code)
				}
			}
		}
	}
}

func TestReadCellErrors(t *testing.T) {
	for _, text := range []string{"", "-", "--1", "-+1", "+1", " 1", "1 ", "1-", "- 1", "1_0", "0x1", "1.0", "1e3", "-" + strings.Repeat("0", 33), strings.Repeat("1", 33), strings.Repeat("1", impl.MaxText)} {
		for _, base := range []int{2, 10} {
			if got, code := impl.ReadCell(text, base); got != 0 || code != impl.ErrForm {
				t.Errorf("ReadCell(%.40q, %d) = %d, %d", text, base, got, code)
			}
		}
		for _, base := range badBases() {
			if got, code := impl.ReadCell(text, base); got != 0 || code != impl.ErrRange {
				t.Errorf("ReadCell(%.40q, %d) = %d, %d", text, base, got, code)
			}
		}
	}
	long := strings.Repeat("1", impl.MaxText+1)
	for _, base := range append(badBases(), 2, 10, 16) {
		if got, code := impl.ReadCell(long, base); got != 0 || code != impl.ErrLong {
			t.Errorf("ReadCell of %d bytes in base %d = %d, %d", len(long), base, got, code)
		}
	}
}
