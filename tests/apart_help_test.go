package tests

import (
	"math"
	"math/rand/v2"
	"slices"
	"sync"
	"testing"

	"loop.example/equerry/impl"
)

// The tests' own reading of chapter 23, as those of the chapters ahead. It goes down no bodies: what each one touches is told from the last one on, so that all Kids are known ahead, as a sign for each cell.

// touch is how a cell is touched.
type touch struct{ read, stored bool }

// wantTouches is for ok programs only: of each body, what it touches, with all that it begins.
func wantTouches(p impl.Prog) [][3]touch {
	list := make([][3]touch, len(p.Bodies))
	for i := len(p.Bodies) - 1; i >= 0; i-- {
		for _, a := range p.Bodies[i] {
			reads, writes := wantTouched(a.Deeds)
			for cell := range 3 {
				x := &list[i][cell]
				x.read = x.read || slices.Contains(reads, cell)
				x.stored = x.stored || slices.Contains(writes, cell)
				for _, kid := range a.Kids {
					x.read = x.read || list[kid][cell].read
					x.stored = x.stored || list[kid][cell].stored
				}
			}
		}
	}
	return list
}

func wantApart(p impl.Prog, body int) (reads, writes []int) {
	if !wantOk(p) || !inRange(body, 0, len(p.Bodies)-1) {
		return nil, nil
	}
	for cell, x := range wantTouches(p)[body] {
		if x.read {
			reads = append(reads, cell)
		}
		if x.stored {
			writes = append(writes, cell)
		}
	}
	return reads, writes
}

func wantApartOk(p impl.Prog) bool {
	if !wantOk(p) {
		return false
	}
	touches := wantTouches(p)
	for _, acts := range p.Bodies {
		for _, a := range acts {
			if len(a.Kids) < 2 {
				continue
			}
			for cell := range 3 {
				x, y := touches[a.Kids[0]][cell], touches[a.Kids[1]][cell]
				if x.stored && y.stored || x.stored && y.read || x.read && y.stored {
					return false
				}
			}
		}
	}
	return true
}

// wantLogDo knows what is put by sorting: the same cells, each as often, and the same numbers.
func wantLogDo(p impl.Prog, s impl.Sys, list []impl.Entry) ([]int, [][]int, bool) {
	if len(wantBroken(p, s)) > 0 {
		return nil, nil, false
	}
	nums := p.Cells
	var regs [][]int
	for range s.Tasks {
		regs = append(regs, []int{0, 0, 0})
	}
	for _, e := range list {
		if !inRange(e.Task, 0, len(s.Tasks)-1) || !inRange(e.Act, 0, len(p.Bodies[s.Tasks[e.Task].Body])-1) {
			return nil, nil, false
		}
		a := p.Bodies[s.Tasks[e.Task].Body][e.Act]
		if _, ok := wantReplay(nums, []impl.Entry{{Reads: e.Reads}}); !ok || a.Kind != 1 {
			return nil, nil, false
		}
		then, regsThen, ok := wantDo(nums, regs[e.Task], a.Deeds)
		if !ok || !slices.Equal(sortedPuts(e.Puts), wantPuts(then, a.Deeds)) {
			return nil, nil, false
		}
		nums, regs[e.Task] = then, regsThen
	}
	return nums, regs, true
}

func sortedPuts(list []impl.Put) []impl.Put {
	list = slices.Clone(list)
	slices.SortFunc(list, func(a, b impl.Put) int {
		switch {
		case a.Cell < b.Cell:
			return -1
		case a.Cell > b.Cell:
			return 1
		}
		return 0
	})
	return list
}

// wantPuts is what a change puts, if cells have these numbers then.
func wantPuts(then []int, deeds []impl.Deed) []impl.Put {
	_, writes := wantTouched(deeds)
	var list []impl.Put
	for _, cell := range writes {
		list = append(list, impl.Put{Cell: cell, Num: then[cell]})
	}
	return list
}

// oddBodies is all bodies of a program, and places that are none.
func oddBodies(p impl.Prog) []int {
	list := []int{math.MinInt, -2, -1, len(p.Bodies), len(p.Bodies) + 1, impl.ProgBodies, math.MaxInt}
	for body := range p.Bodies {
		list = append(list, body)
	}
	return list
}

// judgedApart holds all functions of chapter 23 that are of programs against what is wanted of one, and gives whether it is ApartOk.
func judgedApart(t *testing.T, p impl.Prog) bool {
	t.Helper()
	for _, body := range oddBodies(p) {
		reads, writes := wantApart(p, body)
		if got := impl.ApartReads(p, body); !slices.Equal(got, reads) {
			t.Fatalf("ApartReads of %d: %v, not %v: %v", body, got, reads, p)
		}
		if got := impl.ApartWrites(p, body); !slices.Equal(got, writes) {
			t.Fatalf("ApartWrites of %d: %v, not %v: %v", body, got, writes, p)
		}
	}
	want := wantApartOk(p)
	if got := impl.ApartOk(p); got != want {
		t.Fatalf("ApartOk: %v, not %v: %v", got, want, p)
	}
	return want
}

func sameLists(a, b [][]int) bool { return slices.EqualFunc(a, b, slices.Equal) }

// judgedLogDo holds LogDo against what is wanted, and gives whether it is done.
func judgedLogDo(t *testing.T, p impl.Prog, s impl.Sys, list []impl.Entry) bool {
	t.Helper()
	want, wantRegs, ok := wantLogDo(p, s, list)
	nums, regs, gotOk := impl.LogDo(p, s, list)
	if gotOk != ok || !slices.Equal(nums, want) || !sameLists(regs, wantRegs) {
		t.Fatalf("LogDo: %v, %v, %v, not %v, %v, %v: %v, %+v, %+v", nums, regs, gotOk, want, wantRegs, ok, p, s, list)
	}
	return ok
}

// mustLogDo is for entries that the test knows to be done.
func mustLogDo(t *testing.T, p impl.Prog, s impl.Sys, list []impl.Entry) ([]int, [][]int) {
	t.Helper()
	nums, regs, ok := impl.LogDo(p, s, list)
	if !ok || len(nums) != len(p.Cells) || len(regs) != len(s.Tasks) {
		t.Fatalf("not done: %v, %v, %v: %v, %+v, %+v", nums, regs, ok, p, s, list)
	}
	return nums, regs
}

// logDoIsNot says so, if anything at all comes of entries.
func logDoIsNot(t *testing.T, p impl.Prog, s impl.Sys, list []impl.Entry) {
	t.Helper()
	if nums, regs, ok := impl.LogDo(p, s, list); ok || len(nums) != 0 || len(regs) != 0 {
		t.Errorf("done: %v, %v, %v: %v, %+v, %+v", nums, regs, ok, p, s, list)
	}
}

// logDoIs says so, if something else comes of entries, of which registers are told one task behind the other.
func logDoIs(t *testing.T, p impl.Prog, s impl.Sys, list []impl.Entry, want []int, regs ...[]int) {
	t.Helper()
	nums, got, ok := impl.LogDo(p, s, list)
	if !ok || !slices.Equal(nums, want) || !sameLists(got, regs) {
		t.Errorf("%v, %v, %v, not %v, %v: %+v", nums, got, ok, want, regs, list)
	}
	judgedLogDo(t, p, s, list)
}

// apartIs says so, if a body is told to touch something else.
func apartIs(t *testing.T, p impl.Prog, body int, reads, writes []int) {
	t.Helper()
	if got := impl.ApartReads(p, body); !slices.Equal(got, reads) {
		t.Errorf("ApartReads of %d: %v, not %v: %q", body, got, reads, impl.ProgText(p))
	}
	if got := impl.ApartWrites(p, body); !slices.Equal(got, writes) {
		t.Errorf("ApartWrites of %d: %v, not %v: %q", body, got, writes, impl.ProgText(p))
	}
	judgedApart(t, p)
}

// apartOkIs says so, if a program is told to be otherwise.
func apartOkIs(t *testing.T, want bool, text string) {
	t.Helper()
	p := mustRead(t, text)
	if got := impl.ApartOk(p); got != want {
		t.Errorf("%v, not %v: %q", got, want, text)
	}
	judgedApart(t, p)
}

// touching is a change that touches one cell so.
func touching(cell int, x touch) []impl.Deed {
	var deeds []impl.Deed
	if x.read {
		deeds = append(deeds, load(0, cell))
	}
	if x.stored {
		deeds = append(deeds, store(cell, 0))
	}
	return deeds
}

// touches is all that can be done to three cells.
func touches() [][3]touch {
	one := []touch{{}, {read: true}, {stored: true}, {true, true}}
	var list [][3]touch
	for _, places := range inAllWays(3, []int{0, 1, 2, 3}) {
		list = append(list, [3]touch{one[places[0]], one[places[1]], one[places[2]]})
	}
	return list
}

// touchingBody does so to each cell, in a change of its own, and numbers may come to be other by it.
func touchingBody(x [3]touch) []impl.Act {
	var acts []impl.Act
	for cell := range x {
		acts = append(acts, impl.Act{Kind: impl.ActTry, Deeds: touching(cell, x[cell])})
	}
	return acts
}

// apartDeeds is deeds of which nothing must be there, that load and store only of some cells.
func apartDeeds(r *rand.Rand, loads, stores []int) []impl.Deed {
	var deeds []impl.Deed
	for range r.IntN(impl.ProgDeeds + 1) {
		switch k := r.IntN(10); {
		case k < 3 && len(loads) > 0:
			deeds = append(deeds, load(r.IntN(3), oneOf(r, loads)))
		case k < 7 && len(stores) > 0:
			deeds = append(deeds, store(oneOf(r, stores), r.IntN(3)))
		case k == 7:
			deeds = append(deeds, num(r.IntN(3), 1+r.IntN(99)))
		default:
			deeds = append(deeds, add(r.IntN(3), r.IntN(3)))
		}
	}
	return deeds
}

// apartProg is an ok program that nothing fails in, and nothing must be there: its first body begins others, which mostly keep to cells of their own, and to one that all only load from.
func apartProg(r *rand.Rand) impl.Prog {
	for {
		p := impl.Prog{Cells: someNums(r, 3)}
		cells := r.Perm(3)
		bodies := 3 + r.IntN(2)
		for body := range bodies {
			loads, stores := cells, cells
			if body > 0 && r.IntN(12) > 0 {
				stores = cells[(body-1)%2 : (body-1)%2+1]
				loads = []int{stores[0], cells[2]}
			}
			var acts []impl.Act
			for range 1 + r.IntN(impl.ProgActs) {
				if body+1 < bodies && (body == 0 && r.IntN(2) == 0 || r.IntN(4) == 0) {
					acts = append(acts, busyFork(r, body, bodies))
				} else {
					acts = append(acts, impl.Act{Kind: impl.ActTry, Deeds: apartDeeds(r, loads, stores)})
				}
			}
			p.Bodies = append(p.Bodies, acts)
		}
		if wantOk(p) {
			return p
		}
	}
}

// apartProgs is the same programs each time; apart or not.
func apartProgs(n int) []impl.Prog {
	r := rand.New(rand.NewPCG(131, 132))
	var list []impl.Prog
	for range n {
		list = append(list, apartProg(r))
	}
	return list
}

// anyProgs is programs of all kinds: of any form, busy ones, such that come to an end, marked ones, and such that are apart.
func anyProgs(n int) []impl.Prog {
	return slices.Concat(oneProgs(n), apartProgs(n))
}

// isCalm says whether nothing fails, and nothing must be there, in any body.
func isCalm(p impl.Prog) bool {
	for _, acts := range p.Bodies {
		for _, a := range acts {
			if a.Kind == impl.ActFail || a.Kind == impl.ActFailIf || slices.ContainsFunc(a.Deeds, func(d impl.Deed) bool { return d.Kind == impl.DeedNeed }) {
				return false
			}
		}
	}
	return true
}

// doing is a system of a program, and entries that LogDo is asked of.
type doing struct {
	p    impl.Prog
	s    impl.Sys
	list []impl.Entry
}

// changePlace is a change of a task.
type changePlace struct{ task, act int }

func changePlaces(p impl.Prog, s impl.Sys) []changePlace {
	var list []changePlace
	for task, x := range s.Tasks {
		for act, a := range p.Bodies[x.Body] {
			if a.Kind == impl.ActTry {
				list = append(list, changePlace{task, act})
			}
		}
	}
	return list
}

// madeDoing is entries as changes make them, of any tasks of an ok system, in any order, and again and again: no program need come to them, but all are done.
func madeDoing(r *rand.Rand, p impl.Prog, s impl.Sys) doing {
	x := doing{p: p, s: s}
	places := changePlaces(p, s)
	nums, regs := p.Cells, map[int][]int{}
	for range r.IntN(9) {
		if len(places) == 0 {
			break
		}
		at := places[r.IntN(len(places))]
		deeds := p.Bodies[s.Tasks[at.task].Body][at.act].Deeds
		if regs[at.task] == nil {
			regs[at.task] = []int{0, 0, 0}
		}
		then, regsThen, ok := wantDo(nums, regs[at.task], deeds)
		if !ok {
			continue
		}
		reads, _ := wantTouched(deeds)
		e := impl.Entry{Task: at.task, Act: at.act, When: r.IntN(5), Puts: wantPuts(then, deeds), From: r.IntN(3)}
		for _, cell := range reads {
			e.Reads = append(e.Reads, impl.Put{Cell: cell, Num: nums[cell]})
		}
		x.list = append(x.list, e)
		nums, regs[at.task] = then, regsThen
	}
	return x
}

// bentList is entries with one thing in one of them changed, or in another order, or one more, or fewer: they may be done then, or not.
func bentList(r *rand.Rand, list []impl.Entry) []impl.Entry {
	list = copiedLog(list)
	if len(list) == 0 {
		return []impl.Entry{{Task: oneOf(r, oddPlaces), Act: oneOf(r, oddPlaces)}}
	}
	at := r.IntN(len(list))
	e := &list[at]
	put := impl.Put{Cell: oneOf(r, []int{-1, 0, 0, 1, 1, 2, 2, 3, math.MinInt, math.MaxInt}), Num: oneOf(r, []int{-1, 0, 0, 1, 7, 99, 100, math.MinInt, math.MaxInt})}
	of := &e.Puts
	if r.IntN(2) == 0 {
		of = &e.Reads
	}
	switch r.IntN(10) {
	case 0:
		e.Task = oneOf(r, oddPlaces)
	case 1:
		e.Act = oneOf(r, oddPlaces)
	case 2:
		*of = append(*of, put)
	case 3:
		*of = (*of)[:len(*of)/2]
	case 4:
		if len(*of) > 0 {
			(*of)[r.IntN(len(*of))].Num = put.Num
		}
	case 5:
		if len(*of) > 0 {
			(*of)[r.IntN(len(*of))].Cell = put.Cell
		}
	case 6:
		slices.Reverse(*of)
	case 7:
		if len(*of) > 0 {
			*of = append(*of, (*of)[r.IntN(len(*of))])
		}
	case 8:
		other := r.IntN(len(list))
		list[at], list[other] = list[other], list[at]
	default:
		list = slices.Delete(list, at, at+1)
	}
	return list
}

// someDoings is the same each time: logs of systems on the way as they are ended, and in their order, made ones, and all of them with something changed.
var someDoings = sync.OnceValue(func() []doing {
	r := rand.New(rand.NewPCG(133, 134))
	var list []doing
	for _, x := range okSteps(25) {
		list = append(list, doing{x.p, x.after, x.after.Log}, doing{x.p, x.after, impl.LogOrder(x.after.Log)}, madeDoing(r, x.p, x.after))
	}
	for _, x := range slices.Clone(list) {
		list = append(list, doing{x.p, x.s, bentList(r, x.list)})
	}
	return list
})
