package tests

// Promise 6: every primitive has its documented effect, and cells below its
// operands stay. The effects are written out here as in chapter 6, and what
// they compute is worked out with math/big.

import (
	"fmt"
	"math/big"
	"slices"
	"strconv"
	"strings"
	"testing"

	"loop.example/g00787/impl"
)

const primCount = 52

// effectTexts has, for each primitive, what it takes from Stack and what it
// leaves there. A letter stands for an operand, n for a cell that is computed.
var effectTexts = allEffectTexts()

func allEffectTexts() map[string]string {
	texts := map[string]string{
		"DUP": "c -> c c", "DROP": "c ->", "SWAP": "b c -> c b", "OVER": "b c -> b c b", "ROT": "a b c -> b c a",
		"NIP": "b c -> c", "TUCK": "b c -> c b c", "?DUP": "c -> c c", "2DUP": "b c -> b c b c", "2DROP": "b c ->", "DEPTH": "-> n",
		">R": "c ->", "R>": "-> n", "R@": "-> n", "I": "-> n", "UNLOOP": "->",
		"@": "c -> n", "!": "b c ->", "+!": "b c ->", "HERE": "-> n", "ALLOT": "c ->", ",": "c ->",
		"EMIT": "c ->", ".": "c ->", "CR": "->", "SPACE": "->", "DECIMAL": "->", "HEX": "->",
	}
	for _, name := range strings.Fields("+ - * / MOD AND OR XOR LSHIFT RSHIFT MIN MAX = <> < > U<") {
		texts[name] = "b c -> n"
	}
	for _, name := range strings.Fields("NEGATE ABS INVERT 1+ 1- 0= 0<") {
		texts[name] = "c -> n"
	}
	return texts
}

func primNames() []string {
	return kernelNames()[0]
}

func primOf(name string) int {
	return slices.Index(primNames(), name) + 1
}

// sides has the letters on both sides of the arrow.
func sides(name string) ([]string, []string) {
	left, right, _ := strings.Cut(effectTexts[name], "->")
	return strings.Fields(left), strings.Fields(right)
}

// primResult is what ApplyPrim should return.
func primResult(d impl.Data, name string, floor int) (impl.Data, int) {
	letters, left := sides(name)
	want := clonedData(d)
	rest := len(d.Stack) - len(letters)
	if rest < 0 {
		return d, -4
	}
	needs := map[string]int{"R>": 1, "R@": 1, "I": 1, "UNLOOP": 2}
	if len(d.Back) < floor+needs[name] {
		return d, -6
	}
	operands := map[string]int{}
	for i, letter := range letters {
		operands[letter] = d.Stack[rest+i]
	}
	if name == "?DUP" && operands["c"] == 0 {
		left = left[1:]
	}
	n, throw := primWork(&want, name, operands["b"], operands["c"])
	if throw != 0 {
		return d, throw
	}
	operands["n"] = n
	want.Stack = want.Stack[:rest]
	for _, letter := range left {
		want.Stack = append(want.Stack, operands[letter])
	}
	if len(want.Stack) > maxStack {
		return d, -3
	}
	return want, 0
}

// primWork changes everything but Stack, and returns the cell that the
// primitive computes, if it computes one.
func primWork(d *impl.Data, name string, b, c int) (int, int) {
	switch name {
	case "DEPTH":
		return len(d.Stack), 0
	case ">R", "R>", "R@", "I", "UNLOOP":
		return backWork(d, name, c)
	case "@", "!", "+!", "HERE", "ALLOT", ",":
		return cellWork(d, name, b, c)
	case "EMIT":
		return 0, outWork(d, string([]byte{byte(unsignedBig(whole(c)).Int64() % 256)}))
	case ".":
		return 0, outWork(d, strings.ToUpper(whole(c).Text(d.Base))+" ")
	case "CR":
		return 0, outWork(d, "\n")
	case "SPACE":
		return 0, outWork(d, " ")
	case "DECIMAL":
		d.Base = 10
	case "HEX":
		d.Base = 16
	default:
		if strings.HasSuffix(effectTexts[name], "n") {
			return numberWork(name, b, c)
		}
	}
	return 0, 0
}

func backWork(d *impl.Data, name string, c int) (int, int) {
	last := len(d.Back) - 1
	switch name {
	case ">R":
		if len(d.Back) == maxStack {
			return 0, -5
		}
		d.Back = append(d.Back, c)
		return 0, 0
	case "UNLOOP":
		d.Back = d.Back[:last-1]
		return 0, 0
	}
	top := d.Back[last]
	if name == "R>" {
		d.Back = d.Back[:last]
	}
	return top, 0
}

func cellWork(d *impl.Data, name string, b, c int) (int, int) {
	place := placeOf(*d, c)
	switch name {
	case "HERE":
		return 4096 + d.Here*4, 0
	case "ALLOT":
		next, throw := allotted(*d, c)
		*d = clonedData(next)
		return 0, throw
	case ",":
		if d.Here == maxCells {
			return 0, -8
		}
		d.Cells[d.Here] = c
		d.Here++
		return 0, 0
	}
	if place < 0 {
		return 0, -9
	}
	switch name {
	case "!":
		d.Cells[place] = b
	case "+!":
		d.Cells[place] = wrapBig(new(big.Int).Add(whole(d.Cells[place]), whole(b)))
	}
	return d.Cells[place], 0
}

func outWork(d *impl.Data, text string) int {
	d.Out += text
	if len(d.Out) > maxOut {
		return -17
	}
	return 0
}

func numberWork(name string, b, c int) (int, int) {
	x, y := whole(b), whole(c)
	bits, otherBits := unsignedBig(x), unsignedBig(y)
	switch name {
	case "+":
		return wrapBig(new(big.Int).Add(x, y)), 0
	case "-":
		return wrapBig(new(big.Int).Sub(x, y)), 0
	case "*":
		return wrapBig(new(big.Int).Mul(x, y)), 0
	case "/", "MOD":
		return divisionWork(name, x, y)
	case "AND":
		return wrapBig(new(big.Int).And(bits, otherBits)), 0
	case "OR":
		return wrapBig(new(big.Int).Or(bits, otherBits)), 0
	case "XOR":
		return wrapBig(new(big.Int).Xor(bits, otherBits)), 0
	case "LSHIFT", "RSHIFT":
		return shiftWork(name, bits, c), 0
	case "NEGATE":
		return wrapBig(new(big.Int).Neg(y)), 0
	case "ABS":
		return wrapBig(new(big.Int).Abs(y)), 0
	case "INVERT":
		return wrapBig(new(big.Int).Sub(whole(-1), y)), 0
	case "1+":
		return wrapBig(new(big.Int).Add(y, whole(1))), 0
	case "1-":
		return wrapBig(new(big.Int).Sub(y, whole(1))), 0
	case "MIN", "MAX":
		if (x.Cmp(y) < 0) == (name == "MIN") {
			return b, 0
		}
		return c, 0
	}
	if truthWork(name, x, y) {
		return -1, 0
	}
	return 0, 0
}

func divisionWork(name string, x, y *big.Int) (int, int) {
	if y.Sign() == 0 {
		return 0, -10
	}
	// The quotient of the exact division by |y| is rounded down by big.Int.Div.
	positive := new(big.Int).Abs(y)
	dividend := new(big.Int).Set(x)
	if y.Sign() < 0 {
		dividend.Neg(dividend)
	}
	quotient := new(big.Int).Div(dividend, positive)
	if name == "/" {
		return wrapBig(quotient), 0
	}
	return wrapBig(new(big.Int).Sub(x, new(big.Int).Mul(quotient, y))), 0
}

func shiftWork(name string, bits *big.Int, by int) int {
	if by < 0 || by > 31 {
		return 0
	}
	if name == "LSHIFT" {
		return wrapBig(new(big.Int).Lsh(bits, uint(by)))
	}
	return wrapBig(new(big.Int).Rsh(bits, uint(by)))
}

func truthWork(name string, x, y *big.Int) bool {
	switch name {
	case "=":
		return x.Cmp(y) == 0
	case "<>":
		return x.Cmp(y) != 0
	case "<":
		return x.Cmp(y) < 0
	case ">":
		return x.Cmp(y) > 0
	case "U<":
		return unsignedBig(x).Cmp(unsignedBig(y)) < 0
	case "0=":
		return y.Sign() == 0
	case "0<":
		return y.Sign() < 0
	}
	panic("no primitive: " + name)
}

// checkPrim compares ApplyPrim with primResult.
func checkPrim(t *testing.T, d impl.Data, name string, floor int) {
	t.Helper()
	want, wantThrow := primResult(d, name, floor)
	got, throw, code := impl.ApplyPrim(d, primOf(name), floor)
	if code != impl.OK || throw != wantThrow || !equalData(got, want) {
		t.Fatalf("%s with floor %d on %v = %v, %d, %d, not %v, %d", name, floor, d, got, throw, code, want, wantThrow)
	}
}

// operandCells has cells of every sort that a primitive takes: edges, shifts,
// and addresses.
func operandCells() []int {
	return []int{minCell, minCell + 1, -65536, -257, -256, -255, -128, -33, -32, -31, -8, -4, -2, -1, 0, 1, 2, 3, 4, 8, 10, 16, 30, 31, 32, 33, 65, 127, 128, 255, 256, 65535, 65536, 4095, 4096, 4097, 4100, 4104, 4216, 4220, 4224, 4228, maxCell - 1, maxCell}
}

func TestPrimsOnAllOperands(t *testing.T) {
	for _, name := range primNames() {
		for _, b := range operandCells() {
			for _, c := range operandCells() {
				d := dataOf(0, 4, 5)
				d.Stack = []int{71, 72, b, c}
				checkPrim(t, d, name, 0)
			}
		}
	}
}

func TestPrimsOnManyData(t *testing.T) {
	for _, name := range primNames() {
		for _, d := range validData() {
			for floor := range len(d.Back) + 1 {
				checkPrim(t, d, name, floor)
			}
		}
	}
}

func TestPrimsOnEveryNumberOfCells(t *testing.T) {
	for _, name := range primNames() {
		for stack := range maxStack + 1 {
			for back := range maxStack + 1 {
				d := dataOf(stack, back, 5)
				checkPrim(t, d, name, 0)
				checkPrim(t, d, name, back)
				checkPrim(t, d, name, max(0, back-1))
				checkPrim(t, d, name, max(0, back-2))
				checkPrim(t, d, name, back/2)
			}
		}
	}
}

func TestPrimsOnEveryAddress(t *testing.T) {
	for _, name := range strings.Fields("@ ! +!") {
		for _, here := range []int{0, 1, 2, 5, 31, 32} {
			for _, at := range addresses() {
				if at < minCell || at > maxCell {
					continue
				}
				for _, n := range []int{minCell, -1, 0, 1, maxCell} {
					d := dataOf(0, 2, here)
					d.Stack = []int{71, n, at}
					checkPrim(t, d, name, 0)
				}
			}
		}
	}
}

func TestPrimsOnEveryHere(t *testing.T) {
	for here := range maxCells + 1 {
		d := dataOf(0, 2, here)
		for n := -4*maxCells - 9; n <= 4*maxCells+9; n++ {
			d.Stack = []int{71, n}
			for _, name := range strings.Fields("HERE ALLOT ,") {
				checkPrim(t, d, name, 0)
			}
		}
	}
}

func TestOutputOfPrims(t *testing.T) {
	for base := 2; base <= 16; base++ {
		for _, n := range cells() {
			d := dataOf(0, 2, 3)
			d.Base, d.Stack = base, []int{71, n}
			for _, name := range strings.Fields("EMIT . CR SPACE DECIMAL HEX") {
				checkPrim(t, d, name, 0)
			}
		}
	}
	for n := -600; n <= 600; n++ {
		d := dataOf(0, 2, 3)
		d.Stack = []int{71, n}
		checkPrim(t, d, "EMIT", 0)
		checkPrim(t, d, ".", 0)
	}
}

func TestOutputOfPrimsUpToMaxOut(t *testing.T) {
	for size := maxOut - 36; size <= maxOut; size++ {
		for _, n := range []int{minCell, -12, -1, 0, 7, 4096, maxCell} {
			for _, base := range []int{2, 10, 16} {
				d := dataOf(0, 2, 3)
				d.Base, d.Out, d.Stack = base, strings.Repeat("o", size), []int{71, n}
				for _, name := range strings.Fields("EMIT . CR SPACE") {
					checkPrim(t, d, name, 0)
				}
			}
		}
	}
}

func TestTakesOf(t *testing.T) {
	for i, name := range primNames() {
		letters, _ := sides(name)
		if n, code := impl.TakesOf(i + 1); n != len(letters) || code != impl.OK {
			t.Errorf("TakesOf %s = %d, %d, not %d", name, n, code, len(letters))
		}
	}
	for _, prim := range notPrims() {
		if n, code := impl.TakesOf(prim); n != 0 || code != impl.ErrKind {
			t.Errorf("TakesOf(%d) = %d, %d", prim, n, code)
		}
	}
}

func notPrims() []int {
	return []int{minInt, minInt + 1, minInt + 33, -(1 << 32), minCell, -52, -1, 0, 53, 54, 57, 83, 84, 1000, maxCell, 1 << 32, 1<<32 + 1, 1<<62 + 1, maxInt}
}

// twoStacks reads Stack and, behind a bar, Back.
func twoStacks(text string) ([]int, []int) {
	stack, back, _ := strings.Cut(text, "|")
	return cellList(stack), cellList(back)
}

func cellList(text string) []int {
	var list []int
	for _, word := range strings.Fields(text) {
		n, err := strconv.Atoi(word)
		if err != nil {
			panic(err)
		}
		list = append(list, n)
	}
	return list
}

func TestPrimsOnBothStacks(t *testing.T) {
	for _, v := range []struct{ name, before, after string }{
		{"DUP", "7 8 5|1 2", "7 8 5 5|1 2"}, {"DROP", "7 8 5|1 2", "7 8|1 2"}, {"SWAP", "7 8 5|1 2", "7 5 8|1 2"}, {"OVER", "7 8 5|1 2", "7 8 5 8|1 2"},
		{"ROT", "6 7 8 5|1 2", "6 8 5 7|1 2"}, {"NIP", "7 8 5|1 2", "7 5|1 2"}, {"TUCK", "7 8 5|1 2", "7 5 8 5|1 2"},
		{"?DUP", "7 5|1", "7 5 5|1"}, {"?DUP", "7 0|1", "7 0|1"}, {"?DUP", "7 -1|1", "7 -1 -1|1"},
		{"2DUP", "7 8 5|1", "7 8 5 8 5|1"}, {"2DROP", "7 8 5|1", "7|1"}, {"DEPTH", "|1 2", "0|1 2"}, {"DEPTH", "7 8 5|1 2", "7 8 5 3|1 2"},
		{">R", "7 8|1 2", "7|1 2 8"}, {"R>", "7 8|1 2", "7 8 2|1"}, {"R@", "7 8|1 2", "7 8 2|1 2"}, {"I", "7 8|1 2", "7 8 2|1 2"}, {"UNLOOP", "7 8|1 2 3", "7 8|1"},
		{"+", "9 7 5|1", "9 12|1"}, {"+", "9 2147483647 2147483647|1", "9 -2|1"}, {"+", "9 -2147483648 -2147483648|1", "9 0|1"},
		{"-", "9 7 5|1", "9 2|1"}, {"-", "9 -2147483648 1|1", "9 2147483647|1"}, {"*", "9 7 5|1", "9 35|1"}, {"*", "9 65536 65536|1", "9 0|1"}, {"*", "9 -2147483648 -1|1", "9 -2147483648|1"},
		{"/", "9 7 2|1", "9 3|1"}, {"/", "9 7 -2|1", "9 -4|1"}, {"/", "9 -2147483648 -1|1", "9 -2147483648|1"}, {"MOD", "9 7 -2|1", "9 -1|1"}, {"MOD", "9 -7 2|1", "9 1|1"},
		{"AND", "9 -1 12|1", "9 12|1"}, {"OR", "9 5 10|1", "9 15|1"}, {"XOR", "9 -1 5|1", "9 -6|1"},
		{"LSHIFT", "9 3 30|1", "9 -1073741824|1"}, {"LSHIFT", "9 3 32|1", "9 0|1"}, {"RSHIFT", "9 -2 1|1", "9 2147483647|1"}, {"RSHIFT", "9 1 -1|1", "9 0|1"},
		{"NEGATE", "9 5|1", "9 -5|1"}, {"NEGATE", "9 -2147483648|1", "9 -2147483648|1"}, {"ABS", "9 -5|1", "9 5|1"}, {"ABS", "9 5|1", "9 5|1"}, {"ABS", "9 -2147483648|1", "9 -2147483648|1"},
		{"INVERT", "9 5|1", "9 -6|1"}, {"INVERT", "9 -2147483648|1", "9 2147483647|1"}, {"1+", "9 5|1", "9 6|1"}, {"1+", "9 2147483647|1", "9 -2147483648|1"}, {"1-", "9 5|1", "9 4|1"}, {"1-", "9 -2147483648|1", "9 2147483647|1"},
		{"MIN", "9 2 -3|1", "9 -3|1"}, {"MIN", "9 -3 2|1", "9 -3|1"}, {"MAX", "9 2 -3|1", "9 2|1"}, {"MAX", "9 -3 2|1", "9 2|1"},
		{"=", "9 4 4|1", "9 -1|1"}, {"=", "9 4 5|1", "9 0|1"}, {"<>", "9 4 4|1", "9 0|1"}, {"<>", "9 4 5|1", "9 -1|1"},
		{"<", "9 -4 4|1", "9 -1|1"}, {"<", "9 4 4|1", "9 0|1"}, {"<", "9 5 4|1", "9 0|1"}, {">", "9 -4 4|1", "9 0|1"}, {">", "9 4 4|1", "9 0|1"}, {">", "9 5 4|1", "9 -1|1"},
		{"<", "9 -2147483648 2147483647|1", "9 -1|1"}, {"U<", "9 -2147483648 2147483647|1", "9 0|1"}, {"U<", "9 2147483647 -2147483648|1", "9 -1|1"}, {"U<", "9 3 3|1", "9 0|1"}, {"U<", "9 3 4|1", "9 -1|1"}, {"U<", "9 -1 -2|1", "9 0|1"},
		{"0=", "9 0|1", "9 -1|1"}, {"0=", "9 1|1", "9 0|1"}, {"0=", "9 -1|1", "9 0|1"}, {"0<", "9 0|1", "9 0|1"}, {"0<", "9 1|1", "9 0|1"}, {"0<", "9 -1|1", "9 -1|1"}, {"0<", "9 -2147483648|1", "9 -1|1"},
		{"@", "9 4100|1", "9 41|1"}, {"!", "9 5 4100|1", "9|1"}, {"+!", "9 5 4100|1", "9|1"}, {"HERE", "9|1", "9 4108|1"}, {"ALLOT", "9 8|1", "9|1"}, {",", "9 8|1", "9|1"},
		{"EMIT", "9 65|1", "9|1"}, {".", "9 65|1", "9|1"}, {"CR", "9 65|1", "9 65|1"}, {"SPACE", "9 65|1", "9 65|1"}, {"DECIMAL", "9 65|1", "9 65|1"}, {"HEX", "9 65|1", "9 65|1"},
	} {
		d := impl.NewData()
		d.Here, d.Cells[0], d.Cells[1], d.Cells[2] = 3, 40, 41, 42
		d.Stack, d.Back = twoStacks(v.before)
		stack, back := twoStacks(v.after)
		got, throw, code := impl.ApplyPrim(d, primOf(v.name), 0)
		if throw != 0 || code != impl.OK || !slices.Equal(got.Stack, stack) || !slices.Equal(got.Back, back) {
			t.Errorf("%s on %s = %v | %v, %d, %d, not %s", v.name, v.before, got.Stack, got.Back, throw, code, v.after)
		}
	}
}

func TestPrimsOnCellsAndOutput(t *testing.T) {
	base := func(turn func(d *impl.Data)) impl.Data {
		d := impl.Data{Stack: []int{9}, Back: []int{1}, Cells: make([]int, maxCells), Here: 3, Base: 7, Out: "so "}
		d.Cells[0], d.Cells[1], d.Cells[2], d.Cells[3], d.Cells[4] = 40, 41, 42, 43, 44
		turn(&d)
		return d
	}
	for _, v := range []struct {
		name    string
		takes   []int
		changes func(d *impl.Data)
	}{
		{"!", []int{5, 4104}, func(d *impl.Data) { d.Cells[2] = 5 }},
		{"!", []int{minCell, 4096}, func(d *impl.Data) { d.Cells[0] = minCell }},
		{"+!", []int{-2, 4100}, func(d *impl.Data) { d.Cells[1] = 39 }},
		{"+!", []int{maxCell, 4100}, func(d *impl.Data) { d.Cells[1] = minCell + 40 }},
		{"ALLOT", []int{8}, func(d *impl.Data) { d.Here, d.Cells[3], d.Cells[4] = 5, 0, 0 }},
		{"ALLOT", []int{-8}, func(d *impl.Data) { d.Here = 1 }},
		{"ALLOT", []int{0}, func(*impl.Data) {}},
		{",", []int{-6}, func(d *impl.Data) { d.Here, d.Cells[3] = 4, -6 }},
		{"EMIT", []int{65}, func(d *impl.Data) { d.Out = "so A" }},
		{"EMIT", []int{-1}, func(d *impl.Data) { d.Out = "so \xff" }},
		{"EMIT", []int{minCell}, func(d *impl.Data) { d.Out = "so \x00" }},
		{"EMIT", []int{256 + 0xc3}, func(d *impl.Data) { d.Out = "so \xc3" }},
		{".", []int{-50}, func(d *impl.Data) { d.Out = "so -101 " }},
		{".", []int{0}, func(d *impl.Data) { d.Out = "so 0 " }},
		{"CR", nil, func(d *impl.Data) { d.Out = "so \n" }},
		{"SPACE", nil, func(d *impl.Data) { d.Out = "so  " }},
		{"DECIMAL", nil, func(d *impl.Data) { d.Base = 10 }},
		{"HEX", nil, func(d *impl.Data) { d.Base = 16 }},
	} {
		d := base(func(d *impl.Data) { d.Stack = append(d.Stack, v.takes...) })
		got, throw, code := impl.ApplyPrim(d, primOf(v.name), 1)
		wantData(t, fmt.Sprint(v.name, v.takes), got, base(v.changes), throw, 0, code)
	}
}

func TestEveryPrimitiveIsListed(t *testing.T) {
	if len(primNames()) != primCount || len(effectTexts) != primCount {
		t.Fatalf("%d names, %d effects", len(primNames()), len(effectTexts))
	}
	for _, name := range primNames() {
		if _, listed := effectTexts[name]; !listed {
			t.Errorf("%s has no effect", name)
		}
	}
}
