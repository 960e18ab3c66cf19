package tests

import (
	"fmt"
	"math"
	"math/rand/v2"
	"slices"
	"testing"

	"loop.example/equerry/impl"
)

// The tests' own reading of chapter 2, as that of chapter 1: it takes nothing from the program but types and limits.

// strange are numbers around all limits, and far from them.
var strange = []int{math.MinInt, -100, -1, 0, 1, 2, 3, 4, 5, 6, 99, 100, 101, math.MaxInt}

func load(reg, cell int) impl.Deed  { return impl.Deed{Kind: 1, A: reg, B: cell} }
func store(cell, reg int) impl.Deed { return impl.Deed{Kind: 2, A: cell, B: reg} }
func num(reg, n int) impl.Deed      { return impl.Deed{Kind: 3, A: reg, B: n} }
func add(reg, other int) impl.Deed  { return impl.Deed{Kind: 4, A: reg, B: other} }
func need(reg int) impl.Deed        { return impl.Deed{Kind: 5, A: reg} }

func wantChangeOk(deeds []impl.Deed, cells int) bool {
	ok := inRange(cells, 0, 3) && inRange(len(deeds), 0, 5)
	for _, d := range deeds {
		ok = ok && wantDeedOk(d, cells)
	}
	return ok
}

func wantNums(list []int) bool {
	return !slices.ContainsFunc(list, func(n int) bool { return !inRange(n, 0, 99) })
}

// wantDo keeps cells and registers by their written names, so that no place of one stands in for one of the other.
func wantDo(cells, regs []int, deeds []impl.Deed) ([]int, []int, bool) {
	if !wantNums(cells) || !wantNums(regs) || len(regs) != 3 || !wantChangeOk(deeds, len(cells)) {
		return nil, nil, false
	}
	has := map[string]int{}
	for i, n := range cells {
		has[fmt.Sprintf("%c", 'A'+i)] = n
	}
	for i, n := range regs {
		has[fmt.Sprintf("%c", 'r'+i)] = n
	}
	for _, d := range deeds {
		word := wantDeedText(d)
		switch {
		case word[1] == '?' && has[word[:1]] == 0:
			return nil, nil, false
		case word[1] == '+':
			has[word[:1]] += has[word[2:]]
			if has[word[:1]] > 99 {
				has[word[:1]] -= 100
			}
		case word[1] == '=' && d.Kind == impl.DeedNum:
			has[word[:1]] = d.B
		case word[1] == '=':
			has[word[:1]] = has[word[2:]]
		}
	}
	var c, r []int
	for i := range cells {
		c = append(c, has[fmt.Sprintf("%c", 'A'+i)])
	}
	for i := range regs {
		r = append(r, has[fmt.Sprintf("%c", 'r'+i)])
	}
	return c, r, true
}

// wantTouched looks for the first deed at each cell: only if that loads, the change reads what was there. It asks only for cells that there can be.
func wantTouched(deeds []impl.Deed) (reads, writes []int) {
	first, stored := map[int]int{}, map[int]bool{}
	for _, d := range deeds {
		cell := d.B
		if d.Kind == impl.DeedStore {
			cell = d.A
			stored[cell] = true
		}
		if _, there := first[cell]; !there && (d.Kind == impl.DeedLoad || d.Kind == impl.DeedStore) {
			first[cell] = d.Kind
		}
	}
	for _, cell := range []int{0, 1, 2} {
		if first[cell] == impl.DeedLoad {
			reads = append(reads, cell)
		}
		if stored[cell] {
			writes = append(writes, cell)
		}
	}
	return reads, writes
}

// judgedChange holds all functions of chapter 2 against what is wanted of one change, and gives what is wanted of it.
func judgedChange(t *testing.T, cells, regs []int, deeds []impl.Deed) bool {
	t.Helper()
	judgedOk(t, deeds, len(cells))
	judgedTouched(t, deeds)
	wantC, wantR, want := wantDo(cells, regs, deeds)
	c, r, ok := impl.ChangeDo(cells, regs, deeds)
	if ok != want || !slices.Equal(c, wantC) || !slices.Equal(r, wantR) {
		t.Errorf("ChangeDo of %v, %v, %v: %v, %v, %v, not %v, %v, %v", cells, regs, deeds, c, r, ok, wantC, wantR, want)
	}
	return want
}

func judgedOk(t *testing.T, deeds []impl.Deed, cells int) {
	t.Helper()
	if want := wantChangeOk(deeds, cells); impl.ChangeOk(deeds, cells) != want {
		t.Errorf("ChangeOk of %v, %d is not %v", deeds, cells, want)
	}
}

func judgedTouched(t *testing.T, deeds []impl.Deed) {
	t.Helper()
	reads, writes := wantTouched(deeds)
	touchedJust(t, deeds, reads, writes)
}

// touchedJust says so, if deeds are told to read, or to store to, other cells than these.
func touchedJust(t *testing.T, deeds []impl.Deed, reads, writes []int) {
	t.Helper()
	if got := impl.ChangeReads(deeds); !slices.Equal(got, reads) {
		t.Errorf("ChangeReads of %v: %v, not %v", deeds, got, reads)
	}
	if got := impl.ChangeWrites(deeds); !slices.Equal(got, writes) {
		t.Errorf("ChangeWrites of %v: %v, not %v", deeds, got, writes)
	}
}

// someNums has 0 and 99 often, as there something is not there, or goes round.
func someNums(r *rand.Rand, n int) []int {
	list := []int{}
	for range n {
		list = append(list, []int{0, 0, 1, 50, 99, r.IntN(impl.ProgNums)}[r.IntN(6)])
	}
	return list
}

// someDeeds has more of what must be there than chance would give, as only there a change is not done.
func someDeeds(r *rand.Rand, n, cells int) []impl.Deed {
	list := []impl.Deed{}
	for range n {
		d := someDeed(r, cells)
		if r.IntN(5) == 0 {
			d = need(r.IntN(impl.ProgRegs))
		}
		list = append(list, d)
	}
	return list
}

type change struct {
	cells, regs []int
	deeds       []impl.Deed
}

// someChanges is the same ok changes each time, of all sizes.
func someChanges(n int) []change {
	r := rand.New(rand.NewPCG(11, 12))
	var list []change
	for range n {
		cells := r.IntN(impl.ProgCells + 1)
		list = append(list, change{someNums(r, cells), someNums(r, impl.ProgRegs), someDeeds(r, r.IntN(impl.ProgDeeds+1), cells)})
	}
	return list
}

// doneChanges is those of them that are done.
func doneChanges(t *testing.T, n int) []change {
	t.Helper()
	var list []change
	for _, x := range someChanges(n) {
		if _, _, ok := wantDo(x.cells, x.regs, x.deeds); ok {
			list = append(list, x)
		}
	}
	if len(list) < n/3 {
		t.Fatalf("too few are done: %d", len(list))
	}
	return list
}

// mustDo is for changes that the test knows to be done.
func mustDo(t *testing.T, cells, regs []int, deeds []impl.Deed) ([]int, []int) {
	t.Helper()
	c, r, ok := impl.ChangeDo(cells, regs, deeds)
	if !ok || len(c) != len(cells) || len(r) != impl.ProgRegs {
		t.Fatalf("not done: %v, %v, %v: %v, %v, %v", cells, regs, deeds, c, r, ok)
	}
	return c, r
}

// refusedChange says so, if anything at all comes of a change.
func refusedChange(t *testing.T, cells, regs []int, deeds []impl.Deed) {
	t.Helper()
	c, r, ok := impl.ChangeDo(cells, regs, deeds)
	if ok || len(c) != 0 || len(r) != 0 {
		t.Errorf("done: %v, %v, %v: %v, %v, %v", cells, regs, deeds, c, r, ok)
	}
}

// changedAt is a list with another number at one place.
func changedAt(list []int, at, n int) []int {
	list = slices.Clone(list)
	list[at] = n
	return list
}
