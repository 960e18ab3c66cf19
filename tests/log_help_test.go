package tests

import (
	"fmt"
	"math"
	"math/rand/v2"
	"slices"
	"testing"

	"loop.example/equerry/impl"
)

// The tests' own reading of chapter 13, as those of the chapters ahead. It sorts nothing: each entry is laid where so many are ahead of it, and what a cell has is looked for from the end.

func wantAhead(a, b impl.Entry) bool {
	if a.When == b.When {
		return len(a.Puts) != 0 && len(b.Puts) == 0
	}
	return a.When < b.When
}

func wantOrder(log []impl.Entry) []impl.Entry {
	list := make([]impl.Entry, len(log))
	for i, e := range log {
		at := 0
		for j, f := range log {
			if wantAhead(f, e) || j < i && !wantAhead(e, f) {
				at++
			}
		}
		list[at] = e
	}
	return list
}

func wantReplay(cells []int, list []impl.Entry) ([]int, bool) {
	has := map[int]int{}
	for i, n := range cells {
		has[i] = n
	}
	for _, e := range list {
		for _, x := range e.Reads {
			if n, there := has[x.Cell]; !there || n != x.Num {
				return nil, false
			}
		}
		for _, x := range e.Puts {
			if _, there := has[x.Cell]; there {
				has[x.Cell] = x.Num
			}
		}
	}
	var nums []int
	for i := range cells {
		nums = append(nums, has[i])
	}
	return nums, true
}

func wantReal(log []impl.Entry) bool {
	for i, e := range log {
		for j, f := range log {
			if j < e.From && j < i && wantAhead(e, f) {
				return false
			}
		}
	}
	return true
}

func wantSeen(cells []int, log []impl.Entry, when int) []int {
	list := wantOrder(log)
	slices.Reverse(list)
	var nums []int
	for i, n := range cells {
		at := slices.IndexFunc(list, func(e impl.Entry) bool {
			_, there := numOf(e.Puts, i)
			return there && e.When <= when
		})
		if at >= 0 {
			n, _ = numOf(list[at].Puts, i)
		}
		nums = append(nums, n)
	}
	return nums
}

func wantTask(log []impl.Entry, task int) []impl.Entry {
	return slices.DeleteFunc(slices.Clone(log), func(e impl.Entry) bool { return e.Task != task || task < 0 })
}

func wantLast(log []impl.Entry, cell int) (impl.Entry, bool) {
	list := wantOrder(log)
	for i := len(list) - 1; i >= 0 && cell >= 0; i-- {
		if _, there := numOf(list[i].Puts, cell); there {
			return list[i], true
		}
	}
	return impl.Entry{}, false
}

func wantLogText(log []impl.Entry) string {
	text := ""
	for _, e := range log {
		text += fmt.Sprintf("%d %d.%d", e.When, e.Task, e.Act)
		for _, x := range e.Reads {
			text += fmt.Sprintf(" %d:%d", x.Cell, x.Num)
		}
		text += " /"
		for _, x := range e.Puts {
			text += fmt.Sprintf(" %d:%d", x.Cell, x.Num)
		}
		text += "\n"
	}
	return text
}

// shownLog tells entries apart by value alone: nil and empty lists look the same.
func shownLog(log []impl.Entry) string { return fmt.Sprintf("%+v", log) }

func sameLog(a, b []impl.Entry) bool { return shownLog(a) == shownLog(b) }

func sameEntry(a, b impl.Entry) bool { return sameLog([]impl.Entry{a}, []impl.Entry{b}) }

func copiedLog(log []impl.Entry) []impl.Entry { return copiedSys(impl.Sys{Log: log}).Log }

// told is cells at first, and a log.
type told struct {
	cells []int
	log   []impl.Entry
}

// timesOf is all times at which something may be other: those of the log, one less and one more, and such as the document names.
func timesOf(log []impl.Entry) []int {
	list := []int{math.MinInt, -2, -1, 0, 1, impl.SysTime - 1, impl.SysTime, impl.SysTime + 1, math.MaxInt}
	for _, e := range log {
		list = append(list, e.When)
		if e.When > math.MinInt && e.When < math.MaxInt {
			list = append(list, e.When-1, e.When+1)
		}
	}
	slices.Sort(list)
	return slices.Compact(list)
}

// oddPlaces is places of tasks and cells: all that may be, and others.
var oddPlaces = []int{math.MinInt, -2, -1, 0, 1, 2, 3, 4, 5, 6, 7, 8, 9, math.MaxInt}

// judgedLog holds all functions of chapter 13 against what is wanted of one log.
func judgedLog(t *testing.T, x told) {
	t.Helper()
	if got := impl.LogOrder(x.log); !sameLog(got, wantOrder(x.log)) {
		t.Fatalf("LogOrder: %+v, not %+v", got, wantOrder(x.log))
	}
	if got := impl.LogReal(x.log); got != wantReal(x.log) {
		t.Fatalf("LogReal: %v: %+v", got, x.log)
	}
	if got := impl.LogText(x.log); got != wantLogText(x.log) {
		t.Fatalf("LogText: %q, not %q", got, wantLogText(x.log))
	}
	judgedReplay(t, x.cells, x.log)
	judgedReplay(t, x.cells, wantOrder(x.log))
	for _, when := range timesOf(x.log) {
		if got, want := impl.LogSeen(x.cells, x.log, when), wantSeen(x.cells, x.log, when); !slices.Equal(got, want) {
			t.Fatalf("LogSeen of %v at %d: %v, not %v: %+v", x.cells, when, got, want, x.log)
		}
	}
	for _, place := range oddPlaces {
		if got, want := impl.LogTask(x.log, place), wantTask(x.log, place); !sameLog(got, want) {
			t.Fatalf("LogTask of %d: %+v, not %+v", place, got, want)
		}
		want, ok := wantLast(x.log, place)
		if got, gotOk := impl.LogLast(x.log, place); gotOk != ok || !sameEntry(got, want) {
			t.Fatalf("LogLast of %d: %+v, %v, not %+v, %v: %+v", place, got, gotOk, want, ok, x.log)
		}
	}
}

func judgedReplay(t *testing.T, cells []int, list []impl.Entry) {
	t.Helper()
	want, ok := wantReplay(cells, list)
	if got, gotOk := impl.LogReplay(cells, list); gotOk != ok || !slices.Equal(got, want) {
		t.Fatalf("LogReplay of %v: %v, %v, not %v, %v: %+v", cells, got, gotOk, want, ok, list)
	}
}

// mustReplay is for entries that the test knows to have read what was there.
func mustReplay(t *testing.T, cells []int, list []impl.Entry) []int {
	t.Helper()
	nums, ok := impl.LogReplay(cells, list)
	if !ok || len(nums) != len(cells) {
		t.Fatalf("not done: %v: %+v", cells, list)
	}
	return nums
}

func oneOf(r *rand.Rand, list []int) int { return list[r.IntN(len(list))] }

// oddPuts is neither by cells, nor has each once, nor are all cells there.
func oddPuts(r *rand.Rand) []impl.Put {
	var list []impl.Put
	for range []int{0, 0, 1, 1, 2, 3, 4}[r.IntN(7)] {
		list = append(list, impl.Put{Cell: oneOf(r, []int{-1, 0, 0, 1, 1, 2, 3, 9, math.MinInt, math.MaxInt}), Num: oneOf(r, []int{-7, -1, 0, 1, 5, 99, 100, math.MinInt, math.MaxInt})})
	}
	return list
}

// oddLog is entries with any numbers.
func oddLog(r *rand.Rand) told {
	x := told{cells: someNums(r, r.IntN(6))}
	n := r.IntN(7)
	for range n {
		x.log = append(x.log, impl.Entry{
			Task: oneOf(r, []int{-1, 0, 1, 1, 2, 6, 7, 9, math.MinInt, math.MaxInt}), Act: oneOf(r, []int{-3, 0, 1, 3, 4}),
			When: oneOf(r, []int{-5, -1, 0, 0, 1, 1, 2, 199, 200, 201, math.MinInt, math.MaxInt}), Reads: oddPuts(r), Puts: oddPuts(r),
			From: oneOf(r, []int{-2, -1, 0, 1, 2, 3, n, n + 1, math.MinInt, math.MaxInt}),
		})
	}
	return x
}

// byCells is some of the cells, ascending, with numbers.
func byCells(r *rand.Rand, cells int, num func(cell int) int) []impl.Put {
	var list []impl.Put
	for cell := range cells {
		if r.IntN(2) == 0 {
			list = append(list, impl.Put{Cell: cell, Num: num(cell)})
		}
	}
	return list
}

// madeLog is entries that read what was there, made in the order of their times, of which often one that puts and some that only read have the same, and then laid anyhow.
func madeLog(r *rand.Rand) told {
	x := told{cells: someNums(r, r.IntN(4))}
	now := slices.Clone(x.cells)
	when := r.IntN(3)
	for range r.IntN(8) {
		e := impl.Entry{Task: r.IntN(4), Act: r.IntN(4), Reads: byCells(r, len(now), func(cell int) int { return now[cell] })}
		if r.IntN(2) == 0 {
			when += 1 + r.IntN(3)*r.IntN(2)
			e.Puts = byCells(r, len(now), func(int) int { return r.IntN(impl.ProgNums) })
			for _, put := range e.Puts {
				now[put.Cell] = put.Num
			}
		}
		e.When = when
		x.log = append(x.log, e)
	}
	r.Shuffle(len(x.log), func(i, j int) { x.log[i], x.log[j] = x.log[j], x.log[i] })
	for i := range x.log {
		x.log[i].From = r.IntN(i + 1)
	}
	return x
}

// oddLogs and madeLogs are the same each time.
func oddLogs(n int) []told {
	r := rand.New(rand.NewPCG(51, 52))
	var list []told
	for range n {
		list = append(list, oddLog(r))
	}
	return list
}

func madeLogs(n int) []told {
	r := rand.New(rand.NewPCG(53, 54))
	var list []told
	for range n {
		list = append(list, madeLog(r))
	}
	return list
}

// seenLogs is those of systems on the way, with what cells had at first.
func seenLogs(each int) []told {
	var list []told
	for _, x := range seenSystems(each) {
		list = append(list, told{x.p.Cells, x.after.Log})
	}
	return list
}

// someLogs is of all kinds.
func someLogs(n int) []told {
	return slices.Concat(oddLogs(n), madeLogs(n), seenLogs(40))
}

// smallLogs is all logs of at most three entries that are told apart by little: two times, what is read and put of one cell, and From.
func smallLogs() []told {
	zero, one := []impl.Put{{Cell: 0, Num: 0}}, []impl.Put{{Cell: 0, Num: 1}}
	var entries []impl.Entry
	for _, when := range []int{0, 1} {
		for _, from := range []int{0, 1, 2} {
			entries = append(entries,
				impl.Entry{When: when, From: from},
				impl.Entry{When: when, From: from, Reads: zero},
				impl.Entry{When: when, From: from, Puts: one},
				impl.Entry{When: when, From: from, Reads: one, Puts: zero})
		}
	}
	list := []told{{cells: []int{0}}}
	for from := 0; len(list) < 1+24+24*24+24*24*24; from++ {
		for _, e := range entries {
			// The task says which one it is, so that those that are the same in all else are told apart.
			e.Task = len(list[from].log)
			list = append(list, told{[]int{0}, append(slices.Clone(list[from].log), e)})
		}
	}
	return list
}

// isWriting says whether somebody is within writing.
func isWriting(s impl.Sys) bool {
	return slices.ContainsFunc(s.Tasks, func(x impl.Task) bool { return x.Stage == impl.StageWrite })
}
