package tests

import (
	"math"
	"math/rand/v2"
	"slices"
	"testing"

	"loop.example/equerry/impl"
)

func TestDeedsOfAChangeAreAtMostFive(t *testing.T) {
	for _, d := range []impl.Deed{load(0, 0), store(0, 0), num(0, 1), add(0, 0), need(1)} {
		for n := range 9 {
			deeds := repeated(d, n)
			if impl.ChangeOk(deeds, 1) != (n <= 5) {
				t.Errorf("%d of %v", n, d)
			}
			if done := judgedChange(t, []int{2}, []int{3, 4, 5}, deeds); done != (n <= 5) {
				t.Errorf("the test itself is wrong: %d of %v", n, d)
			}
		}
	}
	judgedOk(t, make([]impl.Deed, 1000), 3)
	judgedOk(t, repeated(num(0, 0), 100000), 3)
	refusedChange(t, []int{2}, []int{3, 4, 5}, repeated(num(0, 0), 100000))
}

func TestCellsAreAtMostThree(t *testing.T) {
	for _, cells := range strange {
		judgedOk(t, nil, cells)
		judgedOk(t, []impl.Deed{num(0, 0)}, cells)
		for _, cell := range strange {
			judgedOk(t, []impl.Deed{load(0, cell)}, cells)
			judgedOk(t, []impl.Deed{store(cell, 0)}, cells)
		}
	}
	for n := range 7 {
		cells := repeated(9, n)
		for _, cell := range strange {
			for _, d := range []impl.Deed{load(1, cell), store(cell, 1)} {
				if done := judgedChange(t, cells, []int{1, 2, 3}, []impl.Deed{d}); done != (n <= 3 && cell >= 0 && cell < n) {
					t.Errorf("the test itself is wrong: %d cells, %v", n, d)
				}
			}
		}
		if n > 3 {
			refusedChange(t, cells, []int{1, 2, 3}, nil)
		}
	}
}

func TestDeedsOfAChangeAreInForm(t *testing.T) {
	for cells := -1; cells < 5; cells++ {
		for kind := -1; kind < 8; kind++ {
			for _, a := range strange {
				for _, b := range strange {
					deeds := []impl.Deed{{Kind: kind, A: a, B: b}}
					judgedOk(t, deeds, cells)
					if cells >= 0 {
						judgedChange(t, repeated(8, cells), []int{0, 1, 99}, deeds)
					}
				}
			}
		}
	}
	for _, kind := range strange {
		judgedChange(t, []int{1, 2, 3}, []int{4, 5, 6}, []impl.Deed{{Kind: kind}})
	}
}

// One that is out of form is found wherever it stands, also behind a need that is not met.
func TestEachDeedOfAChangeIsLookedAt(t *testing.T) {
	wrong := []impl.Deed{{}, {Kind: 6}, {Kind: -1}, load(3, 0), load(0, 2), load(-1, 0), load(0, -1), store(2, 0), store(0, 3), store(-1, 0), store(0, -1), num(3, 0), num(0, 100), num(0, -1), add(3, 0), add(0, 3), add(-1, 0), add(0, -1), need(3), need(-1), {Kind: 5, B: 1}}
	for at := range impl.ProgDeeds {
		for _, d := range wrong {
			for _, other := range []impl.Deed{num(1, 1), need(0), store(1, 1)} {
				deeds := repeated(other, impl.ProgDeeds)
				judgedOk(t, deeds, 2)
				deeds[at] = d
				if impl.ChangeOk(deeds, 2) {
					t.Errorf("ok: %v", deeds)
				}
				refusedChange(t, []int{1, 2}, []int{0, 1, 2}, deeds)
			}
		}
	}
}

func TestCellsAndRegistersAreNumbers(t *testing.T) {
	for _, n := range strange {
		for at := range 3 {
			nums := []int{4, 5, 6}
			for _, deeds := range [][]impl.Deed{nil, {num(at, 1)}, {add(at, at)}, {load(at, at)}, {store(at, at)}, {need((at + 1) % 3)}} {
				good := n >= 0 && n <= 99
				if judgedChange(t, changedAt(nums, at, n), nums, deeds) != good || judgedChange(t, nums, changedAt(nums, at, n), deeds) != good {
					t.Errorf("the test itself is wrong: %d, %v", n, deeds)
				}
			}
		}
	}
}

func TestRegistersAreThree(t *testing.T) {
	for n := range 7 {
		for _, deeds := range [][]impl.Deed{nil, {num(0, 1)}, {num(2, 1)}, {add(0, 0)}, {load(0, 0)}, {store(0, 0)}, {need(0)}} {
			if done := judgedChange(t, []int{5}, repeated(1, n), deeds); done != (n == 3) {
				t.Errorf("the test itself is wrong: %d, %v", n, deeds)
			}
		}
	}
	refusedChange(t, nil, nil, nil)
	mustDo(t, nil, []int{0, 0, 0}, nil)
}

// All that two registers may have together, and a register with itself.
func TestAddingGoesRound(t *testing.T) {
	for a := range impl.ProgNums {
		for b := range impl.ProgNums {
			_, r := mustDo(t, nil, []int{a, 0, b}, []impl.Deed{add(0, 2)})
			want := a + b
			if want > 99 {
				want -= 100
			}
			if !slices.Equal(r, []int{want, 0, b}) {
				t.Fatalf("%d and %d: %v", a, b, r)
			}
		}
		_, r := mustDo(t, nil, []int{1, a, 2}, []impl.Deed{add(1, 1)})
		if !slices.Equal(r, []int{1, 2 * a % 100, 2}) {
			t.Fatalf("twice %d: %v", a, r)
		}
	}
	// An adding that comes to 0 leaves nothing that a need would find.
	refusedChange(t, nil, []int{50, 50, 1}, []impl.Deed{add(0, 1), need(0)})
	mustDo(t, nil, []int{50, 49, 1}, []impl.Deed{add(0, 1), need(0)})
}

func TestEachNumberIsSetAndStored(t *testing.T) {
	for n := range impl.ProgNums {
		c, r := mustDo(t, []int{7, 8, 9}, []int{4, 5, 6}, []impl.Deed{num(1, n), store(2, 1)})
		if !slices.Equal(c, []int{7, 8, n}) || !slices.Equal(r, []int{4, n, 6}) {
			t.Fatalf("%d: %v, %v", n, c, r)
		}
	}
}

func TestNeedsAreAskedWhereTheyStand(t *testing.T) {
	regs := []int{0, 5, 0}
	refusedChange(t, nil, regs, []impl.Deed{need(0), num(0, 1)})
	mustDo(t, nil, regs, []impl.Deed{num(0, 1), need(0)})
	mustDo(t, nil, regs, []impl.Deed{need(1), num(1, 0)})
	refusedChange(t, nil, regs, []impl.Deed{num(1, 0), need(1)})
	// What was stored ahead of a need that is not met is nowhere.
	refusedChange(t, []int{1}, regs, []impl.Deed{store(0, 1), need(2)})
	for n := range impl.ProgNums {
		for reg := range impl.ProgRegs {
			if done := judgedChange(t, nil, changedAt([]int{1, 1, 1}, reg, n), []impl.Deed{need(reg)}); done != (n != 0) {
				t.Errorf("the test itself is wrong: %d", n)
			}
			if done := judgedChange(t, nil, changedAt([]int{0, 0, 0}, reg, n), []impl.Deed{need(reg)}); done != (n != 0) {
				t.Errorf("the test itself is wrong: %d", n)
			}
		}
	}
}

// What is read of a cell is what was there ahead of the change only if nothing was stored to it ahead.
func TestStoredAndLoadedCells(t *testing.T) {
	looks := []struct {
		deeds               []impl.Deed
		reads, writes, c, r []int
	}{
		{[]impl.Deed{store(1, 2), load(0, 1)}, nil, []int{1}, []int{1, 6, 3}, []int{6, 5, 6}},
		{[]impl.Deed{load(0, 1), store(1, 2)}, []int{1}, []int{1}, []int{1, 6, 3}, []int{2, 5, 6}},
		{[]impl.Deed{load(0, 1), store(1, 2), load(1, 1)}, []int{1}, []int{1}, []int{1, 6, 3}, []int{2, 6, 6}},
		{[]impl.Deed{store(1, 2), load(0, 1), store(1, 1), load(2, 1)}, nil, []int{1}, []int{1, 5, 3}, []int{6, 5, 5}},
		{[]impl.Deed{load(0, 2), load(1, 2), store(2, 2), store(2, 0), load(2, 2)}, []int{2}, []int{2}, []int{1, 2, 3}, []int{3, 3, 3}},
		{[]impl.Deed{store(0, 0), load(1, 1), load(2, 0), store(2, 1), load(0, 2)}, []int{1}, []int{0, 2}, []int{4, 2, 2}, []int{2, 2, 4}},
		{[]impl.Deed{load(0, 2), load(1, 0), load(2, 1), store(2, 1), store(0, 0)}, []int{0, 1, 2}, []int{0, 2}, []int{3, 2, 1}, []int{3, 1, 2}},
		{[]impl.Deed{store(2, 0), store(1, 1), store(0, 2), store(2, 2), store(1, 0)}, nil, []int{0, 1, 2}, []int{6, 4, 6}, []int{4, 5, 6}},
		{[]impl.Deed{load(0, 2), load(0, 0), load(0, 2)}, []int{0, 2}, nil, []int{1, 2, 3}, []int{3, 5, 6}},
		{[]impl.Deed{store(1, 2), load(0, 2), load(1, 1)}, []int{2}, []int{1}, []int{1, 6, 3}, []int{3, 6, 6}},
	}
	for _, x := range looks {
		if got := impl.ChangeReads(x.deeds); !slices.Equal(got, x.reads) {
			t.Errorf("ChangeReads of %v: %v", x.deeds, got)
		}
		if got := impl.ChangeWrites(x.deeds); !slices.Equal(got, x.writes) {
			t.Errorf("ChangeWrites of %v: %v", x.deeds, got)
		}
		c, r := mustDo(t, []int{1, 2, 3}, []int{4, 5, 6}, x.deeds)
		if !slices.Equal(c, x.c) || !slices.Equal(r, x.r) {
			t.Errorf("%v: %v, %v", x.deeds, c, r)
		}
		judgedChange(t, []int{1, 2, 3}, []int{4, 5, 6}, x.deeds)
	}
}

// All changes of three deeds, of two cells.
func TestAllSmallChanges(t *testing.T) {
	var all []impl.Deed
	for a := range 3 {
		all = append(all, load(a, 0), load(a, 1), store(0, a), store(1, a), num(a, 0), num(a, 60), add(a, 0), add(a, 1), add(a, 2), need(a))
	}
	for _, x := range all {
		for _, y := range all {
			for _, z := range all {
				judgedChange(t, []int{0, 99}, []int{0, 40, 7}, []impl.Deed{x, y, z})
			}
		}
	}
}

// Which cells are touched is told of any deeds: the document names nothing that they must be.
func TestReadsAndWritesOfWhatIsNoChange(t *testing.T) {
	looks := []struct {
		deeds         []impl.Deed
		reads, writes []int
	}{
		{repeated(load(0, 1), 6), []int{1}, nil},
		{append(repeated(num(0, 0), 5), load(0, 2), store(2, 0), store(0, 0), load(0, 0)), []int{2}, []int{0, 2}},
		{[]impl.Deed{{}, {Kind: 6, A: 1, B: 1}, {Kind: -1, A: 1, B: 2}, {Kind: 3, A: 1, B: 500}, {Kind: 4, A: 7, B: 2}, {Kind: 5, A: 1, B: 2}}, nil, nil},
		{[]impl.Deed{{Kind: 7}, load(0, 1), {Kind: 9}, store(2, 0)}, []int{1}, []int{2}},
		{[]impl.Deed{load(9, 1), store(0, -4)}, []int{1}, []int{0}},
		{[]impl.Deed{load(math.MinInt, 2), load(math.MaxInt, 0), store(2, math.MaxInt), store(1, 3)}, []int{0, 2}, []int{1, 2}},
	}
	for _, x := range looks {
		for cells := range impl.ProgCells + 1 {
			if impl.ChangeOk(x.deeds, cells) {
				t.Errorf("ok: %v", x.deeds)
			}
		}
		if reads, writes := impl.ChangeReads(x.deeds), impl.ChangeWrites(x.deeds); !slices.Equal(reads, x.reads) || !slices.Equal(writes, x.writes) {
			t.Errorf("%v: %v, %v", x.deeds, reads, writes)
		}
		judgedTouched(t, x.deeds)
	}
}

// A place below 0, or past the cells that there can be at most, is none: nothing is told of it, whoever loads or stores there, and cells beside it are told as they were without it.
func TestReadsAndWritesOfPlacesThatAreNoCells(t *testing.T) {
	for _, place := range slices.Concat(strange, []int{-2, 7, 8, 255, 256, 257, 1 << 32, -1 << 32, math.MinInt + 1, math.MaxInt - 1}) {
		if place >= 0 && place < 3 {
			touchedJust(t, []impl.Deed{load(0, place)}, []int{place}, nil)
			touchedJust(t, []impl.Deed{store(place, 0)}, nil, []int{place})
			continue
		}
		touchedJust(t, []impl.Deed{load(0, place)}, nil, nil)
		touchedJust(t, []impl.Deed{store(place, 0)}, nil, nil)
		touchedJust(t, []impl.Deed{load(0, place), store(place, 0)}, nil, nil)
		touchedJust(t, []impl.Deed{store(place, 0), load(0, place)}, nil, nil)
		touchedJust(t, []impl.Deed{load(1, 2), store(place, 0), load(0, place), store(0, 1), load(2, 0)}, []int{2}, []int{0})
		for cell := range impl.ProgCells {
			touchedJust(t, []impl.Deed{load(0, place), load(0, cell), store(place, 0), store(cell, 0)}, []int{cell}, []int{cell})
			touchedJust(t, []impl.Deed{store(cell, 0), load(0, place), load(0, cell), store(place, 0)}, nil, []int{cell})
		}
	}
}

// Any deeds at all: what they name beside cells is left out, and leaves the rest as it is.
func TestReadsAndWritesOfAnyDeeds(t *testing.T) {
	r := rand.New(rand.NewPCG(15, 16))
	for range 20000 {
		var deeds, ofCells []impl.Deed
		for range r.IntN(12) {
			d := impl.Deed{Kind: r.IntN(8) - 1, A: strange[r.IntN(len(strange))], B: strange[r.IntN(len(strange))]}
			deeds = append(deeds, d)
			if d.Kind == impl.DeedLoad && inRange(d.B, 0, 2) || d.Kind == impl.DeedStore && inRange(d.A, 0, 2) {
				ofCells = append(ofCells, d)
			}
		}
		judgedTouched(t, deeds)
		touchedJust(t, deeds, impl.ChangeReads(ofCells), impl.ChangeWrites(ofCells))
	}
}

func TestManyDeeds(t *testing.T) {
	var deeds []impl.Deed
	for n := range 20000 {
		deeds = append(deeds, load(0, 20000-n), store(n, 0))
	}
	judgedTouched(t, deeds)
	judgedOk(t, deeds, 3)
	refusedChange(t, []int{1, 2, 3}, []int{1, 2, 3}, deeds)
	refusedChange(t, repeated(1, 100000), []int{1, 2, 3}, nil)
	refusedChange(t, nil, repeated(1, 100000), nil)
}

// One thing of a change made another one: it is refused just where the document refuses it.
func TestBentChangesAreJudged(t *testing.T) {
	r := rand.New(rand.NewPCG(17, 18))
	done, not := 0, 0
	for _, x := range doneChanges(t, 3000) {
		for range 10 {
			y := bentChange(r, x)
			if judgedChange(t, y.cells, y.regs, y.deeds) {
				done++
			} else {
				not++
			}
		}
	}
	if done < 5000 || not < 5000 {
		t.Fatalf("too few were looked at: %d, %d", done, not)
	}
}

func bentChange(r *rand.Rand, x change) change {
	y := change{slices.Clone(x.cells), slices.Clone(x.regs), slices.Clone(x.deeds)}
	n := strange[r.IntN(len(strange))]
	switch r.IntN(7) {
	case 0:
		y.cells = append(y.cells, n)
	case 1:
		y.regs = append(y.regs, n)
	case 2:
		y.regs[r.IntN(len(y.regs))] = n
	case 3:
		y.deeds = append(y.deeds, someDeed(r, len(y.cells)))
	case 4:
		if len(y.cells) > 0 {
			y.cells[r.IntN(len(y.cells))] = n
		}
	default:
		if len(y.deeds) > 0 {
			d := &y.deeds[r.IntN(len(y.deeds))]
			*[]*int{&d.Kind, &d.A, &d.B}[r.IntN(3)] = n
		}
	}
	return y
}
