package tests

// Promise 1 for the host: no function changes its argument, not even the
// unused capacity of its slices, and no slice of a result shares memory with
// an argument or with another slice of the result.

import (
	"fmt"
	"slices"
	"testing"

	"loop.example/g00787/impl"
)

func flagsWithRoom(list []bool) ([]bool, []bool) {
	memory := append(slices.Clone(list), slices.Repeat([]bool{true, false}, capCount)...)
	return memory[:len(list)], memory
}

func deedsWithRoom(list []impl.Deed) ([]impl.Deed, []impl.Deed) {
	memory := append(slices.Clone(list), slices.Repeat([]impl.Deed{{Cap: unused, A: unused, B: unused, Result: unused}}, maxDeeds+8)...)
	return memory[:len(list)], memory
}

func spoilFlags(list []bool) {
	list = list[:cap(list)]
	for i := range list {
		list[i] = !list[i]
	}
}

func spoilDeeds(list []impl.Deed) {
	list = list[:cap(list)]
	for i := range list {
		list[i] = impl.Deed{Cap: unused, A: unused, B: unused, Result: unused}
	}
}

func spoilHost(h impl.Host) {
	spoilFlags(h.Granted)
	spoil(h.Store)
	spoil(h.Answers)
	spoilDeeds(h.Deeds)
}

func spoilData(d impl.Data) {
	spoil(d.Stack)
	spoil(d.Back)
	spoil(d.Cells)
}

// hostMemory is all the memory of a host's slices, also their unused capacity.
func hostMemory(h impl.Host) impl.Host {
	h.Granted, h.Store, h.Answers, h.Deeds = h.Granted[:cap(h.Granted)], h.Store[:cap(h.Store)], h.Answers[:cap(h.Answers)], h.Deeds[:cap(h.Deeds)]
	return h
}

func dataMemory(d impl.Data) impl.Data {
	d.Stack, d.Back, d.Cells = d.Stack[:cap(d.Stack)], d.Back[:cap(d.Back)], d.Cells[:cap(d.Cells)]
	return d
}

func hostWithRoom(h impl.Host) impl.Host {
	h.Granted, _ = flagsWithRoom(h.Granted)
	h.Store, _ = withRoom(h.Store)
	h.Answers, _ = withRoom(h.Answers)
	h.Deeds, _ = deedsWithRoom(h.Deeds)
	return h
}

func dataWithRoom(d impl.Data) impl.Data {
	d.Stack, _ = withRoom(d.Stack)
	d.Back, _ = withRoom(d.Back)
	d.Cells, _ = withRoom(d.Cells)
	return d
}

type hostAndData struct {
	host impl.Host
	data impl.Data
}

// hostResults calls every function that returns a host, with and without
// throws and codes.
func hostResults(h impl.Host, d impl.Data) map[string]hostAndData {
	results := map[string]hostAndData{}
	for _, c := range []int{-1, 0, 1, 2, 3, 4} {
		for _, yes := range []bool{false, true} {
			got, _ := impl.GrantCap(h, c, yes)
			results[fmt.Sprint("GrantCap ", c, yes)] = hostAndData{host: got}
		}
		host, data, _, _ := impl.HostCall(h, d, c)
		results[fmt.Sprint("HostCall ", c)] = hostAndData{host, data}
	}
	for _, n := range []int{0, minCell, maxCell, maxInt} {
		got, _ := impl.AnswerHost(h, n)
		results[fmt.Sprint("AnswerHost ", n)] = hostAndData{host: got}
	}
	return results
}

func someHostData() []impl.Data {
	return []impl.Data{dataOn(), dataOn(7), dataOn(5, 6), dataOn(9, 8), dataOf(maxStack, 0, 0), {}}
}

func TestHostArgumentsAreUnchanged(t *testing.T) {
	for i, h := range append(validHosts(), badHosts()...) {
		for k, d := range someHostData() {
			ownHost, ownData := hostWithRoom(h), dataWithRoom(d)
			hostBefore, dataBefore := clonedHost(hostMemory(ownHost)), clonedData(dataMemory(ownData))
			hostResults(ownHost, ownData)
			impl.HostOK(ownHost)
			impl.SameHost(ownHost, ownHost)
			impl.FoldDeeds(ownHost.Store, ownHost.Deeds)
			if !equalHosts(hostMemory(ownHost), hostBefore) {
				t.Errorf("host %d is changed", i)
			}
			if !equalData(dataMemory(ownData), dataBefore) {
				t.Errorf("data %d is changed", k)
			}
		}
	}
}

func TestHostResultsAreNewMemory(t *testing.T) {
	for i, h := range validHosts() {
		for k, d := range someHostData() {
			expected := hostResults(h, d)
			ownHost, ownData := hostWithRoom(h), dataWithRoom(d)
			results := hostResults(ownHost, ownData)
			spoilHost(ownHost)
			spoilData(ownData)
			for what, got := range results {
				if !equalHosts(got.host, expected[what].host) || !equalData(got.data, expected[what].data) {
					t.Errorf("the result of %s of host %d and data %d shares memory with an argument", what, i, k)
				}
				spoilHost(got.host)
				spoilData(got.data)
				delete(expected, what)
				delete(results, what)
				if len(results) > 0 && !sameResults(results, expected) {
					t.Errorf("the result of %s of host %d and data %d shares memory with another result", what, i, k)
				}
			}
		}
	}
}

func sameResults(a, b map[string]hostAndData) bool {
	for what, got := range a {
		if !equalHosts(got.host, b[what].host) || !equalData(got.data, b[what].data) {
			return false
		}
	}
	return len(a) == len(b)
}

// TestHostSlicesAreApart gives the functions a host and data whose slices of
// cells are one piece of memory.
func TestHostSlicesAreApart(t *testing.T) {
	memory := make([]int, maxCells)
	for i := range memory {
		memory[i] = i
	}
	whole := slices.Clone(memory)
	h := impl.Host{Granted: []bool{true, true, true, true}, Store: memory[:storeSize], Answers: memory[:maxAnswers-1], Clock: 8, Deeds: someDeeds(3)}
	d := impl.Data{Stack: memory[:storeSize], Back: memory[:9], Cells: memory, Here: 6, Base: 10}
	expected := hostResults(clonedHost(h), clonedData(d))
	for what, got := range hostResults(h, d) {
		if !equalHosts(got.host, expected[what].host) || !equalData(got.data, expected[what].data) {
			t.Errorf("%s depends on where its arguments are: %v", what, got)
		}
		spoil(got.host.Store)
		if !slices.Equal(got.host.Answers, expected[what].host.Answers) || !equalData(got.data, expected[what].data) {
			t.Errorf("the Store of the result of %s is not apart", what)
		}
		spoil(got.host.Answers)
		if !equalData(got.data, expected[what].data) {
			t.Errorf("the Answers of the result of %s are not apart", what)
		}
		spoil(got.data.Stack)
		if !slices.Equal(got.data.Back, expected[what].data.Back) || !slices.Equal(got.data.Cells, expected[what].data.Cells) {
			t.Errorf("the Stack of the result of %s is not apart", what)
		}
	}
	if !slices.Equal(memory, whole) {
		t.Error("an argument is changed")
	}
}

func TestNewHostIsNewMemory(t *testing.T) {
	spoilHost(impl.NewHost())
	want := impl.Host{Granted: make([]bool, capCount), Store: make([]int, storeSize)}
	wantHost(t, "NewHost", impl.NewHost(), want, impl.OK, impl.OK)
}

func TestFoldedStoreIsNewMemory(t *testing.T) {
	for _, deeds := range [][]impl.Deed{nil, manyDeeds(20), {{Cap: 1, A: 3, B: 7}}} {
		want := folded(filled(storeSize), deeds)
		store, storeMemory := withRoom(filled(storeSize))
		own, deedMemory := deedsWithRoom(deeds)
		storeBefore, deedsBefore := slices.Clone(storeMemory), slices.Clone(deedMemory)
		first, _ := impl.FoldDeeds(store, own)
		second, _ := impl.FoldDeeds(store, own)
		if !slices.Equal(storeMemory, storeBefore) || !slices.Equal(deedMemory, deedsBefore) {
			t.Errorf("a fold of %d deeds changes an argument", len(deeds))
		}
		spoil(storeMemory)
		spoilDeeds(deedMemory)
		if !slices.Equal(first, want) {
			t.Errorf("a fold of %d deeds shares memory with an argument", len(deeds))
		}
		spoil(first)
		if !slices.Equal(second, want) {
			t.Errorf("two folds of %d deeds share memory", len(deeds))
		}
	}
}
