package tests

// Promise 7, the calls: a granted call has its documented effect and is
// recorded as a deed, and what a call leaves with a throw is host and data as
// they were.

import (
	"fmt"
	"slices"
	"testing"

	"loop.example/g00787/impl"
)

// dataOn has these cells on Stack.
func dataOn(stack ...int) impl.Data {
	d := dataOf(0, 3, 5)
	d.Stack = stack
	return d
}

// wantCall checks a call of HostCall with valid arguments.
func wantCall(t *testing.T, what string, h impl.Host, d impl.Data, c int, hostThen impl.Host, dataThen impl.Data, wantThrow int) {
	t.Helper()
	gotHost, gotData, throw, code := impl.HostCall(h, d, c)
	wantHost(t, what, gotHost, hostThen, code, impl.OK)
	wantData(t, what, gotData, dataThen, throw, wantThrow, code)
}

// wantCallThrow also checks that the throw leaves host and data unchanged.
func wantCallThrow(t *testing.T, what string, h impl.Host, d impl.Data, c, wantThrow int) {
	t.Helper()
	hostBefore, dataBefore := clonedHost(h), clonedData(d)
	wantCall(t, what, h, d, c, hostBefore, dataBefore, wantThrow)
	if !equalHosts(h, hostBefore) || !equalData(d, dataBefore) {
		t.Errorf("%s changes an argument", what)
	}
}

// callThrow is the throw that a call should have.
func callThrow(h impl.Host, d impl.Data, c int) int {
	size := len(d.Stack)
	needs := map[int]int{0: 1, 1: 2, 2: 1, 3: 0}[c]
	switch {
	case !h.Granted[c]:
		return -100
	case len(h.Deeds) == maxDeeds:
		return -8
	case size < needs:
		return -4
	case c == 3 && size == maxStack:
		return -3
	case (c == 0 || c == 1) && !slices.Contains([]int{0, 1, 2, 3, 4, 5, 6, 7}, d.Stack[size-1]):
		return -9
	}
	return 0
}

// callResult is what HostCall should return.
func callResult(h impl.Host, d impl.Data, c int) (impl.Host, impl.Data, int) {
	if throw := callThrow(h, d, c); throw != 0 {
		return h, d, throw
	}
	h, d = clonedHost(h), clonedData(d)
	top := len(d.Stack) - 1
	deed := impl.Deed{Cap: c}
	switch c {
	case 0:
		deed.A = d.Stack[top]
		deed.Result = h.Store[deed.A]
		d.Stack[top] = deed.Result
	case 1:
		deed.A, deed.B = d.Stack[top], d.Stack[top-1]
		h.Store[deed.A] = deed.B
		d.Stack = d.Stack[:top-1]
	case 2:
		deed.A = d.Stack[top]
		queue := append(h.Answers, 0)
		deed.Result = queue[0]
		h.Answers = queue[1:max(1, len(queue)-1)]
		d.Stack[top] = deed.Result
	case 3:
		deed.Result = h.Clock
		d.Stack = append(d.Stack, deed.Result)
	}
	h.Deeds = append(h.Deeds, deed)
	return h, d, 0
}

func TestCallsAndTheirDeeds(t *testing.T) {
	h := impl.Host{Granted: []bool{true, true, true, true}, Store: []int{20, 21, 22, minCell, 24, 25, 26, 27}, Answers: []int{61, maxCell}, Clock: 90, Deeds: []impl.Deed{{Cap: 2, A: 5, B: 0, Result: 6}}}
	for _, v := range []struct {
		c           int
		stack, left []int
		deed        impl.Deed
		change      func(h *impl.Host)
	}{
		{0, []int{0}, []int{20}, impl.Deed{Cap: 0, A: 0, Result: 20}, nil},
		{0, []int{5, 6, 7}, []int{5, 6, 27}, impl.Deed{Cap: 0, A: 7, Result: 27}, nil},
		{0, []int{-1, 3}, []int{-1, minCell}, impl.Deed{Cap: 0, A: 3, Result: minCell}, nil},
		{1, []int{5, 0}, nil, impl.Deed{Cap: 1, A: 0, B: 5}, func(h *impl.Host) { h.Store[0] = 5 }},
		{1, []int{3, 2, 1}, []int{3}, impl.Deed{Cap: 1, A: 1, B: 2}, func(h *impl.Host) { h.Store[1] = 2 }},
		{1, []int{8, 9, minCell, 7}, []int{8, 9}, impl.Deed{Cap: 1, A: 7, B: minCell}, func(h *impl.Host) { h.Store[7] = minCell }},
		{1, []int{maxCell, 6}, nil, impl.Deed{Cap: 1, A: 6, B: maxCell}, func(h *impl.Host) { h.Store[6] = maxCell }},
		{1, []int{22, 2}, nil, impl.Deed{Cap: 1, A: 2, B: 22}, nil},
		{2, []int{7}, []int{61}, impl.Deed{Cap: 2, A: 7, Result: 61}, func(h *impl.Host) { h.Answers = []int{maxCell} }},
		{2, []int{3, -8}, []int{3, 61}, impl.Deed{Cap: 2, A: -8, Result: 61}, func(h *impl.Host) { h.Answers = []int{maxCell} }},
		{2, []int{maxCell}, []int{61}, impl.Deed{Cap: 2, A: maxCell, Result: 61}, func(h *impl.Host) { h.Answers = []int{maxCell} }},
		{3, nil, []int{90}, impl.Deed{Cap: 3, Result: 90}, nil},
		{3, []int{4, 2}, []int{4, 2, 90}, impl.Deed{Cap: 3, Result: 90}, nil},
	} {
		then := clonedHost(h)
		if v.change != nil {
			v.change(&then)
		}
		then.Deeds = append(then.Deeds, v.deed)
		wantCall(t, fmt.Sprint("a call of ", v.c, " with ", v.stack), h, dataOn(v.stack...), v.c, then, dataOn(v.left...), 0)
	}
}

// someOperands has stacks with every number of operands, of which some are no
// index of the store.
func someOperands() [][]int {
	list := [][]int{nil}
	for _, top := range []int{minCell, -8, -1, 0, 1, 3, 7, 8, 9, 4096, maxCell} {
		list = append(list, []int{top}, []int{77, top}, []int{minCell, maxCell, top}, append(filled(maxStack-2), top), append(filled(maxStack-1), top))
	}
	return list
}

func TestEveryCallOnEveryHost(t *testing.T) {
	for i, h := range validHosts() {
		for k, stack := range someOperands() {
			for c := range capCount {
				d := dataOn(stack...)
				hostThen, dataThen, wantThrow := callResult(h, d, c)
				wantCall(t, fmt.Sprint("a call of ", c, " of host ", i, " with operands ", k), h, d, c, hostThen, dataThen, wantThrow)
			}
		}
	}
}

func TestCallsOnAllData(t *testing.T) {
	h := hostOf(3, 5, 0, 1, 2, 3)
	for i, d := range validData() {
		for c := range capCount {
			if size := len(d.Stack); size > 0 {
				d = clonedData(d)
				d.Stack[size-1] = 7
			}
			hostThen, dataThen, wantThrow := callResult(h, d, c)
			wantCall(t, fmt.Sprint("a call of ", c, " on data ", i), h, d, c, hostThen, dataThen, wantThrow)
		}
	}
}

func TestCellsBelowTheOperandsStay(t *testing.T) {
	h := hostOf(3, 5, 0, 1, 2, 3)
	for c, operands := range [][]int{{7}, {maxCell, 6}, {5}, nil} {
		for size := range maxStack - max(1, len(operands)) + 1 {
			below := filled(size)
			_, d, throw, code := impl.HostCall(h, dataOn(slices.Concat(below, operands)...), c)
			if throw != 0 || code != impl.OK || len(d.Stack) < size || !slices.Equal(d.Stack[:size], below) {
				t.Errorf("a call of %d above %d cells leaves %v, %d, %d", c, size, d.Stack, throw, code)
			}
		}
	}
}

func TestIndexOfTheStore(t *testing.T) {
	h := hostOf(3, 5, 0, 1)
	for _, v := range []struct{ i, throw int }{
		{minCell, -9}, {minCell + 1, -9}, {-8, -9}, {-7, -9}, {-1, -9}, {0, 0}, {1, 0}, {6, 0}, {7, 0}, {8, -9}, {9, -9}, {16, -9}, {4096, -9}, {maxCell, -9},
	} {
		what := fmt.Sprint("the index ", v.i)
		for _, d := range []impl.Data{dataOn(5, 6, v.i), dataOn(append(filled(maxStack-1), v.i)...)} {
			if v.throw != 0 {
				wantCallThrow(t, what, h, d, 0, v.throw)
				wantCallThrow(t, what, h, d, 1, v.throw)
				continue
			}
			last := len(d.Stack) - 1
			if _, got, throw, _ := impl.HostCall(h, d, 0); throw != 0 || got.Stack[last] != filled(storeSize)[v.i] {
				t.Errorf("%s is read with %v, %d", what, got.Stack, throw)
			}
			then := filled(storeSize)
			then[v.i] = d.Stack[last-1]
			if got, _, throw, _ := impl.HostCall(h, d, 1); throw != 0 || !slices.Equal(got.Store, then) {
				t.Errorf("%s is written with %v, %d", what, got.Store, throw)
			}
		}
	}
}

// TestIndexThatIsNeeded shows that the other capabilities take any cell.
func TestIndexThatIsNeeded(t *testing.T) {
	h := hostOf(2, 5, 2, 3)
	for _, top := range []int{minCell, -1, 0, 7, 8, maxCell} {
		for c := 2; c <= 3; c++ {
			if _, _, throw, code := impl.HostCall(h, dataOn(5, top), c); throw != 0 || code != impl.OK {
				t.Errorf("a call of %d on %d throws %d, %d", c, top, throw, code)
			}
		}
	}
}

func TestAnswersAreTakenInOrder(t *testing.T) {
	for _, size := range []int{0, 1, 2, maxAnswers - 1, maxAnswers} {
		h := hostOf(size, 0, 2)
		queue := filled(size)
		for question := range size + 3 {
			want, rest := 0, []int(nil)
			if question < size {
				want, rest = queue[question], queue[question+1:]
			}
			next, d, throw, code := impl.HostCall(h, dataOn(31, question), 2)
			if throw != 0 || code != impl.OK || !slices.Equal(d.Stack, []int{31, want}) || !slices.Equal(next.Answers, rest) {
				t.Fatalf("question %d to %d answers: %v, %v, %d, %d", question, size, d.Stack, next.Answers, throw, code)
			}
			if deed := next.Deeds[question]; deed != (impl.Deed{Cap: 2, A: question, Result: want}) {
				t.Errorf("question %d to %d answers is recorded as %v", question, size, deed)
			}
			h = next
		}
	}
}

func TestAnswersAreQueuedBetweenCalls(t *testing.T) {
	h := hostOf(0, 0, 2)
	var got []int
	for i := range 5 {
		h, _ = impl.AnswerHost(h, 100+i)
		if i%2 == 0 {
			h, _ = impl.AnswerHost(h, 200+i)
		}
		var d impl.Data
		h, d, _, _ = impl.HostCall(h, dataOn(i), 2)
		got = append(got, d.Stack...)
	}
	if !slices.Equal(got, []int{100, 200, 101, 102, 202}) || !slices.Equal(h.Answers, []int{103, 104, 204}) {
		t.Errorf("the answers are %v and then %v", got, h.Answers)
	}
}

func TestDeedsUpToMaxDeeds(t *testing.T) {
	for c := range capCount {
		h := hostOf(maxAnswers, 0, 0, 1, 2, 3)
		for i := range maxDeeds {
			d := dataOn(1000+i, i%storeSize)
			then, dataThen, _ := callResult(h, d, c)
			what := fmt.Sprint("call ", i, " of ", c)
			wantCall(t, what, h, d, c, then, dataThen, 0)
			h, _, _, _ = impl.HostCall(h, d, c)
			if len(h.Deeds) != i+1 || h.Deeds[i].Cap != c {
				t.Fatalf("%s leaves the deeds %v", what, h.Deeds)
			}
		}
		for other := range capCount {
			wantCallThrow(t, fmt.Sprint("a call of ", other, " behind all the deeds"), h, dataOn(5, 6), other, -8)
		}
	}
}

// TestManyCalls goes through a fixed mixture of calls and of grants, each on
// the host that the one before it left.
func TestManyCalls(t *testing.T) {
	n := 31
	next := func(below int) int {
		n = (n*1103515245 + 12345) % (1 << 31)
		return (n >> 8) % below
	}
	for range 200 {
		h, d := hostOf(next(maxAnswers+1), 0), dataOn(filled(next(maxStack+1))...)
		for range 80 {
			if next(3) == 0 {
				h, _ = impl.GrantCap(h, next(capCount), next(4) > 0)
			}
			if size := len(d.Stack); size > 0 {
				d.Stack[size-1] = next(storeSize+2) - 1
			}
			c := next(capCount)
			hostThen, dataThen, wantThrow := callResult(h, d, c)
			wantCall(t, fmt.Sprint("a call of ", c), h, d, c, hostThen, dataThen, wantThrow)
			if t.Failed() {
				return
			}
			h, d, _, _ = impl.HostCall(h, d, c)
		}
	}
}

func wantCallCode(t *testing.T, what string, h impl.Host, d impl.Data, c, wantCode int) {
	t.Helper()
	gotHost, gotData, throw, code := impl.HostCall(h, d, c)
	if code != wantCode || throw != 0 || !isZeroHost(gotHost) || !isZeroData(gotData) {
		t.Errorf("%s = %v, %v, %d, %d, not the code %d", what, gotHost, gotData, throw, code, wantCode)
	}
}

func TestCallsOfNoCapability(t *testing.T) {
	for _, c := range notCaps() {
		for i, h := range validHosts() {
			for k, d := range []impl.Data{impl.NewData(), dataOn(1, 2), dataOf(maxStack, 0, 0)} {
				wantCallCode(t, fmt.Sprint("a call of ", c, " of host ", i, " on data ", k), h, d, c, impl.ErrKind)
			}
		}
	}
}

func TestCallsOfInvalidHosts(t *testing.T) {
	for i, h := range badHosts() {
		for _, d := range append(badData()[:9], impl.NewData(), dataOn(1, 2), dataOf(maxStack, 0, 0)) {
			for _, c := range append(notCaps(), 0, 1, 2, 3) {
				wantCallCode(t, fmt.Sprint("a call of ", c, " of invalid host ", i), h, d, c, impl.ErrBad)
			}
		}
	}
}

func TestCallsOnInvalidData(t *testing.T) {
	for i, d := range badData() {
		for k, h := range []impl.Host{impl.NewHost(), hostOf(3, 5, 0, 1, 2, 3), hostOf(0, maxDeeds, 0, 1, 2, 3)} {
			for _, c := range append(notCaps(), 0, 1, 2, 3) {
				wantCallCode(t, fmt.Sprint("a call of ", c, " of host ", k, " on invalid data ", i), h, d, c, impl.ErrBad)
			}
		}
	}
}
