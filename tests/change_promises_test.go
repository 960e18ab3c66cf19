package tests

import (
	"math/rand/v2"
	"slices"
	"testing"

	"loop.example/equerry/impl"
)

// Promise 7.
func TestPartsOfAChangeAreOk(t *testing.T) {
	for _, x := range someChanges(2000) {
		cells := len(x.cells)
		for to := range len(x.deeds) + 1 {
			for from := range to + 1 {
				part := x.deeds[from:to]
				if !impl.ChangeOk(part, cells) {
					t.Fatalf("%v, %d", part, cells)
				}
				if impl.ChangeOk(part, cells+1) != (cells < impl.ProgCells) {
					t.Fatalf("%v, a cell more than %d", part, cells)
				}
			}
		}
	}
}

// Promise 8.
func TestCellsThatAreNotWrittenStay(t *testing.T) {
	stay := 0
	for _, x := range doneChanges(t, 5000) {
		c, _ := mustDo(t, x.cells, x.regs, x.deeds)
		writes := impl.ChangeWrites(x.deeds)
		for cell, n := range x.cells {
			if slices.Contains(writes, cell) {
				continue
			}
			stay++
			if c[cell] != n {
				t.Fatalf("cell %d: %v, %v", cell, x, c)
			}
		}
	}
	if stay < 1000 {
		t.Fatalf("too few were looked at: %d", stay)
	}
}

// Promise 9: also of what is not done, for then one of the parts is not.
func TestAChangeIsDoneDeedByDeedCutAnywhere(t *testing.T) {
	done, not := 0, 0
	for _, x := range someChanges(5000) {
		c, r, ok := impl.ChangeDo(x.cells, x.regs, x.deeds)
		for cut := range len(x.deeds) + 1 {
			c1, r1, ok1 := impl.ChangeDo(x.cells, x.regs, x.deeds[:cut])
			c2, r2, ok2 := impl.ChangeDo(c1, r1, x.deeds[cut:])
			if ok != (ok1 && ok2) || ok && (!slices.Equal(c, c2) || !slices.Equal(r, r2)) {
				t.Fatalf("%v at %d: %v, %v, %v, not %v, %v, %v", x, cut, c2, r2, ok2, c, r, ok)
			}
		}
		if ok {
			done++
		} else {
			not++
		}
	}
	if done < 1000 || not < 500 {
		t.Fatalf("too few were looked at: %d, %d", done, not)
	}
}

// Promise 10: another number in a cell that is not read changes neither whether it is done, nor registers, nor what is stored.
func TestCellsThatAreNotReadChangeNothing(t *testing.T) {
	r := rand.New(rand.NewPCG(13, 14))
	for _, x := range someChanges(5000) {
		c1, r1, ok1 := impl.ChangeDo(x.cells, x.regs, x.deeds)
		reads, writes := impl.ChangeReads(x.deeds), impl.ChangeWrites(x.deeds)
		for cell := range x.cells {
			if slices.Contains(reads, cell) {
				continue
			}
			other := changedAt(x.cells, cell, r.IntN(impl.ProgNums))
			c2, r2, ok2 := impl.ChangeDo(other, x.regs, x.deeds)
			if ok1 != ok2 || !slices.Equal(r1, r2) {
				t.Fatalf("cell %d of %v: %v, %v, not %v, %v", cell, x, r2, ok2, r1, ok1)
			}
			for _, w := range writes {
				if ok1 && c1[w] != c2[w] {
					t.Fatalf("cell %d of %v: %v, not %v", cell, x, c2, c1)
				}
			}
		}
	}
}

// Promise 10, the other way: what is in ChangeReads is to be seen in a register, if nothing is laid over it.
func TestCellsThatAreReadAreSeen(t *testing.T) {
	for cell := range impl.ProgCells {
		for reg := range impl.ProgRegs {
			deeds := []impl.Deed{load(reg, cell)}
			for n := range impl.ProgNums {
				cells, regs := []int{1, 2, 3}, []int{4, 5, 6}
				c, r := mustDo(t, changedAt(cells, cell, n), regs, deeds)
				if !slices.Equal(c, changedAt(cells, cell, n)) || !slices.Equal(r, changedAt(regs, reg, n)) {
					t.Fatalf("%d, %d, %d: %v, %v", cell, reg, n, c, r)
				}
			}
			if got := impl.ChangeReads(deeds); !slices.Equal(got, []int{cell}) {
				t.Fatalf("%d: %v", cell, got)
			}
		}
	}
}

func ascends(list []int) bool {
	for i := 1; i < len(list); i++ {
		if list[i-1] >= list[i] {
			return false
		}
	}
	return true
}

// Promise 11: a stored cell is in ChangeWrites, a loaded one in one of both; and nothing else is in them.
func TestEachDeedsCellIsReadOrWritten(t *testing.T) {
	for _, x := range someChanges(5000) {
		reads, writes := impl.ChangeReads(x.deeds), impl.ChangeWrites(x.deeds)
		if !ascends(reads) || !ascends(writes) {
			t.Fatalf("%v: %v, %v", x.deeds, reads, writes)
		}
		for _, d := range x.deeds {
			switch {
			case d.Kind == impl.DeedLoad && !slices.Contains(reads, d.B) && !slices.Contains(writes, d.B),
				d.Kind == impl.DeedStore && !slices.Contains(writes, d.A):
				t.Fatalf("%v: %v, %v", x.deeds, reads, writes)
			}
		}
		judgedTouched(t, x.deeds)
	}
}

// Promise 12.
func TestReadsAndWritesOfParts(t *testing.T) {
	for _, x := range someChanges(5000) {
		reads, writes := impl.ChangeReads(x.deeds), impl.ChangeWrites(x.deeds)
		for cut := range len(x.deeds) + 1 {
			both := append(impl.ChangeWrites(x.deeds[:cut]), impl.ChangeWrites(x.deeds[cut:])...)
			slices.Sort(both)
			if !slices.Equal(slices.Compact(both), writes) {
				t.Fatalf("%v at %d: %v", x.deeds, cut, writes)
			}
			for _, cell := range impl.ChangeReads(x.deeds[:cut]) {
				if !slices.Contains(reads, cell) {
					t.Fatalf("%v at %d: %v", x.deeds, cut, reads)
				}
			}
		}
	}
}

// Promise 13.
func TestWithANeedMore(t *testing.T) {
	there, not := 0, 0
	for _, x := range doneChanges(t, 5000) {
		c, r := mustDo(t, x.cells, x.regs, x.deeds)
		if len(x.deeds) == impl.ProgDeeds {
			continue
		}
		for reg := range impl.ProgRegs {
			more := append(slices.Clone(x.deeds), need(reg))
			if r[reg] == 0 {
				not++
				refusedChange(t, x.cells, x.regs, more)
				continue
			}
			there++
			c2, r2 := mustDo(t, x.cells, x.regs, more)
			if !slices.Equal(c, c2) || !slices.Equal(r, r2) {
				t.Fatalf("%v and %d: %v, %v", x, reg, c2, r2)
			}
		}
	}
	if there < 1000 || not < 500 {
		t.Fatalf("too few were looked at: %d, %d", there, not)
	}
}

// Promise 13: a change that is not done is not, whatever more must be there.
func TestANeedMoreMendsNothing(t *testing.T) {
	for n := 1; n < impl.ProgDeeds; n++ {
		for reg := range impl.ProgRegs {
			refusedChange(t, nil, []int{0, 7, 7}, append(repeated(need(0), n), need(reg)))
		}
	}
}

// Promise 14.
func TestAChangeOfNothingChangesNothing(t *testing.T) {
	for _, none := range [][]impl.Deed{nil, {}, make([]impl.Deed, 0, 9)} {
		for _, x := range someChanges(1000) {
			c, r := mustDo(t, x.cells, x.regs, none)
			if !slices.Equal(c, x.cells) || !slices.Equal(r, x.regs) {
				t.Fatalf("%v: %v, %v", x, c, r)
			}
		}
		for cells := -1; cells < 6; cells++ {
			if impl.ChangeOk(none, cells) != (cells >= 0 && cells <= 3) {
				t.Errorf("%d cells", cells)
			}
		}
		if len(impl.ChangeReads(none)) != 0 || len(impl.ChangeWrites(none)) != 0 {
			t.Error("something is read, or stored")
		}
	}
}

// Promise 15.
func TestRegistersThatAreNotSetStay(t *testing.T) {
	for _, x := range doneChanges(t, 5000) {
		c, r := mustDo(t, x.cells, x.regs, x.deeds)
		if !wantNums(c) || !wantNums(r) {
			t.Fatalf("%v: %v, %v", x, c, r)
		}
		set := map[int]bool{}
		for _, d := range x.deeds {
			if d.Kind == impl.DeedLoad || d.Kind == impl.DeedNum || d.Kind == impl.DeedAdd {
				set[d.A] = true
			}
		}
		for reg, n := range x.regs {
			if !set[reg] && r[reg] != n {
				t.Fatalf("register %d of %v: %v", reg, x, r)
			}
		}
	}
}

// Promises 7 to 15: any change, as the document words it.
func TestChangesAreJudged(t *testing.T) {
	done, not := 0, 0
	for _, x := range someChanges(20000) {
		if judgedChange(t, x.cells, x.regs, x.deeds) {
			done++
		} else {
			not++
		}
	}
	if done < 5000 || not < 1000 {
		t.Fatalf("too few were looked at: %d, %d", done, not)
	}
}
