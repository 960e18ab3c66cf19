package tests

import (
	"math"
	"math/rand/v2"
	"slices"
	"sync"
	"testing"

	"loop.example/equerry/impl"
)

// The tests' own reading of chapter 22, as those of the chapters ahead. It has no bodies within bodies: acts of all tasks are laid out in one row, in the order in which they are done, and whatever fails is the end of that row, as all above fail with it.

// laidAct is an act, and which task's it is.
type laidAct struct {
	task int
	act  impl.Act
}

// wantRow is for ok programs only.
func wantRow(p impl.Prog) []laidAct {
	var row []laidAct
	tasks := 0
	var lay func(body int)
	lay = func(body int) {
		task := tasks
		tasks++
		for _, a := range p.Bodies[body] {
			row = append(row, laidAct{task, a})
			for _, kid := range a.Kids {
				lay(kid)
			}
		}
	}
	lay(0)
	return row
}

// wantOne also tells how many acts of the row were done, or failed.
func wantOne(p impl.Prog) (nums []int, failed, ok bool, acts int) {
	if !wantOk(p) {
		return nil, false, false, 0
	}
	nums = p.Cells
	regs := map[int][]int{}
	for i, x := range wantRow(p) {
		if regs[x.task] == nil {
			regs[x.task] = []int{0, 0, 0}
		}
		if x.act.Kind == 3 || x.act.Kind == 4 && regs[x.task][x.act.Reg] > 0 {
			return nums, true, true, i + 1
		}
		if x.act.Kind == 1 {
			nums, regs[x.task], ok = wantDo(nums, regs[x.task], x.act.Deeds)
			if !ok {
				return nil, false, false, i
			}
		}
	}
	return nums, false, true, len(wantRow(p))
}

// wantOneSys also tells which tasks took steps.
func wantOneSys(p impl.Prog, s impl.Sys, most int) (impl.Sys, []int, bool) {
	if len(wantBroken(p, s)) > 0 || !inRange(most, 0, 2000) {
		return impl.Sys{}, nil, false
	}
	m := modelOf(p, s)
	var took []int
	for len(took) < most {
		var ups []int
		for _, t := range m.tasks {
			ups = append(ups, t.up)
		}
		walk := wantWalk(treeOf(ups...))
		at := slices.IndexFunc(walk, m.ready)
		if at < 0 {
			break
		}
		m.step(walk[at])
		took = append(took, walk[at])
	}
	return m.sys(), took, true
}

func wantSeenOk(p impl.Prog, s impl.Sys, log []impl.Entry) bool {
	for _, x := range s.Tasks {
		if x.Stage == 0 {
			continue
		}
		for _, read := range x.Reads {
			has := map[int]int{}
			for cell, n := range wantSeen(p.Cells, log, x.Since) {
				has[cell] = n
			}
			if n, there := has[read.Cell]; !there || n != read.Num {
				return false
			}
		}
	}
	return true
}

// judgedOne holds OneRun against what is wanted of one program, and gives whether it failed, and came to an end.
func judgedOne(t *testing.T, p impl.Prog) (failed, ok bool) {
	t.Helper()
	want, wantFailed, wantEnd, _ := wantOne(p)
	nums, failed, ok := impl.OneRun(p)
	if ok != wantEnd || failed != wantFailed || !slices.Equal(nums, want) {
		t.Fatalf("OneRun: %v, %v, %v, not %v, %v, %v: %v", nums, failed, ok, want, wantFailed, wantEnd, p)
	}
	return failed, ok
}

// judgedOneSys holds OneSys against what is wanted of one system, and gives how many steps were taken.
func judgedOneSys(t *testing.T, p impl.Prog, s impl.Sys, most int) int {
	t.Helper()
	want, took, ok := wantOneSys(p, s, most)
	got, gotOk := impl.OneSys(p, s, most)
	if gotOk != ok || !sameSys(got, want) {
		t.Fatalf("OneSys of %d: %+v, %v, not %+v, %v: %v, %+v", most, got, gotOk, want, ok, p, s)
	}
	return len(took)
}

// judgedSeen holds SeenOk against what is wanted, and gives that.
func judgedSeen(t *testing.T, p impl.Prog, s impl.Sys, log []impl.Entry) bool {
	t.Helper()
	want := wantSeenOk(p, s, log)
	if got := impl.SeenOk(p, s, log); got != want {
		t.Fatalf("SeenOk: %v: %v, %+v, of %+v", got, p.Cells, s.Tasks, log)
	}
	return want
}

// mustOne is for systems that the test knows to be ok.
func mustOne(t *testing.T, p impl.Prog, s impl.Sys, most int) impl.Sys {
	t.Helper()
	q, ok := impl.OneSys(p, s, most)
	if !ok {
		t.Fatalf("not done: %d of %+v", most, s)
	}
	return q
}

// oneIs says so, if something else comes of a program.
func oneIs(t *testing.T, text string, wantFailed bool, want ...int) {
	t.Helper()
	p := mustRead(t, text)
	nums, failed, ok := impl.OneRun(p)
	if !ok || failed != wantFailed || !slices.Equal(nums, want) {
		t.Errorf("%v, %v, %v, not %v, %v: %q", nums, failed, ok, want, wantFailed, text)
	}
	judgedOne(t, p)
}

// oneIsNot says so, if anything at all comes of a program.
func oneIsNot(t *testing.T, p impl.Prog) {
	t.Helper()
	if nums, failed, ok := impl.OneRun(p); ok || failed || len(nums) != 0 {
		t.Errorf("%v, %v, %v: %v", nums, failed, ok, p)
	}
}

// oneSysIsNot says so, if anything at all comes of a system.
func oneSysIsNot(t *testing.T, p impl.Prog, s impl.Sys, most int) {
	t.Helper()
	if q, ok := impl.OneSys(p, s, most); ok || !isNothing(q) {
		t.Errorf("%d: %+v, %v: %v, %+v", most, q, ok, p, s)
	}
}

// markedTry doubles what A has, and adds a number of its own, so that A tells which ones were done, and in which order.
func markedTry(mark int) impl.Act {
	return impl.Act{Kind: impl.ActTry, Deeds: []impl.Deed{load(0, 0), add(0, 0), num(1, mark), add(0, 1), store(0, 0)}}
}

// markedBodies is acts of one body that begin what stands behind, fail, wait for ever, or do neither, at each place.
func markedBodies(mark int, kids ...[]int) [][]impl.Act {
	try, fail := markedTry(mark), impl.Act{Kind: impl.ActFail}
	always, never := impl.Act{Kind: impl.ActFailIf, Reg: 1}, impl.Act{Kind: impl.ActFailIf, Reg: 2}
	waits := impl.Act{Kind: impl.ActTry, Deeds: []impl.Deed{store(0, 2), need(2)}}
	list := [][]impl.Act{nil, {try}, {fail}, {try, fail}, {fail, try}, {try, always, try}, {never, always, try}, {waits}, {try, waits, fail}}
	for _, x := range kids {
		fork := impl.Act{Kind: impl.ActFork, Kids: x}
		list = append(list, []impl.Act{fork}, []impl.Act{try, fork, try}, []impl.Act{fork, always, fail}, []impl.Act{try, fork, always, try})
	}
	return list
}

// markedProgs is all ok programs of four such bodies, the first of which begins others.
var markedProgs = sync.OnceValue(func() []impl.Prog {
	first := [][]impl.Act{
		{{Kind: impl.ActFork, Kids: []int{1, 2}}, markedTry(1)},
		{markedTry(1), {Kind: impl.ActFork, Kids: []int{1}}, {Kind: impl.ActFork, Kids: []int{2}}, {Kind: impl.ActFailIf, Reg: 1}},
		{{Kind: impl.ActFork, Kids: []int{2, 1}}},
	}
	var list []impl.Prog
	for _, zero := range first {
		for _, one := range markedBodies(2, []int{3}, []int{3, 3}, []int{2, 3}) {
			for _, two := range markedBodies(3, []int{3}) {
				for _, three := range markedBodies(4) {
					if p := (impl.Prog{Cells: []int{5}, Bodies: [][]impl.Act{zero, one, two, three}}); wantOk(p) {
						list = append(list, p)
					}
				}
			}
		}
	}
	return list
})

// oneProgs is the same programs each time: of any form, busy ones, and such with little in them that must be there, which mostly come to an end.
func oneProgs(n int) []impl.Prog {
	r := rand.New(rand.NewPCG(91, 92))
	list := someProgs(n)
	for range n {
		p := busyProg(r)
		q := copied(p)
		for _, acts := range q.Bodies {
			for _, a := range acts {
				for i, d := range a.Deeds {
					if d.Kind == impl.DeedNeed && r.IntN(8) > 0 {
						a.Deeds[i] = num(d.A, r.IntN(impl.ProgNums))
					}
				}
			}
		}
		list = append(list, p, q)
	}
	return list
}

// ended is a program that comes to an end one by one: what the program tells of it, and what its tasks leave.
type ended struct {
	p      impl.Prog
	nums   []int
	failed bool
	last   impl.Sys
}

// endedProgs is those of marked and other programs that come to an end.
func endedProgs(t *testing.T) []ended {
	t.Helper()
	var list []ended
	for _, p := range append(oneProgs(1500), markedProgs()...) {
		if nums, failed, ok := impl.OneRun(p); ok {
			list = append(list, ended{p, nums, failed, mustOne(t, p, mustNew(t, p), 2000)})
		}
	}
	if len(list) < 4000 {
		t.Fatalf("too few come to an end: %d", len(list))
	}
	return list
}

// oddReader is a task at any stage, since any time, that has read what was seen then, or something else.
func oddReader(r *rand.Rand, cells []int, log []impl.Entry) impl.Task {
	x := impl.Task{Way: r.IntN(5), Stage: oneOf(r, []int{0, 1, 1, 2, 3, 4, 5, -1, 6, math.MinInt, math.MaxInt}), Since: oneOf(r, timesOf(log))}
	switch r.IntN(4) {
	case 0:
		x.Reads = oddPuts(r)
	case 1, 2:
		seen := wantSeen(cells, log, x.Since)
		x.Reads = byCells(r, len(seen), func(cell int) int { return seen[cell] })
	}
	return x
}

// oddReaders is a system of which chapter 22 asks what was read, and a log, neither of which need be ok.
type oddReaders struct {
	p   impl.Prog
	s   impl.Sys
	log []impl.Entry
}

// someReaders is the same each time.
func someReaders(n int) []oddReaders {
	r := rand.New(rand.NewPCG(93, 94))
	var list []oddReaders
	for _, x := range append(oddLogs(n), madeLogs(n)...) {
		y := oddReaders{p: impl.Prog{Cells: x.cells}, log: x.log}
		for range r.IntN(4) {
			y.s.Tasks = append(y.s.Tasks, oddReader(r, x.cells, x.log))
		}
		list = append(list, y)
	}
	return list
}
