package tests

import (
	"math"
	"math/rand/v2"
	"slices"
	"strings"
	"testing"

	"loop.example/equerry/impl"
)

// Promises 36 to 60, in their order; what a promise speaks of is asked of the program, or worked out on the spot, not taken from the tests' own reading.

// Promise 36.
func TestThereAreAtMostProgTreeTasks(t *testing.T) {
	full := 0
	for _, x := range seenSteps() {
		most := impl.ProgTree(x.p, 0)
		if len(x.after.Tasks) > most || most > impl.ProgTasks {
			t.Fatalf("more than %d: %+v", most, x.after)
		}
		if len(x.after.Tasks) == most && most > 1 {
			full++
		}
	}
	enough(t, 1000, full)
}

// Promise 37: and for no other act.
func TestEachTaskHasAnEntryForEachChangeAheadOfPc(t *testing.T) {
	some := 0
	for _, x := range seenSystems(3) {
		for place, task := range x.after.Tasks {
			var want, got []int
			for act, a := range x.p.Bodies[task.Body][:task.Pc] {
				if a.Kind == impl.ActTry {
					want = append(want, act)
				}
			}
			for _, e := range impl.LogTask(x.after.Log, place) {
				got = append(got, e.Act)
			}
			if !slices.Equal(got, want) {
				t.Fatalf("task %d: %v, not %v: %+v", place, got, want, x.after)
			}
			some += len(want)
		}
	}
	enough(t, 5000, some)
}

// Promise 38.
func TestLogOrderHasTheSameEntriesNoneAheadOfTheOneBefore(t *testing.T) {
	moved, stayed := 0, 0
	for _, x := range someLogs(3000) {
		list := impl.LogOrder(x.log)
		// The same entries: each as often as ahead.
		count := map[string]int{}
		for _, e := range x.log {
			count[shownLog([]impl.Entry{e})]++
		}
		for i, e := range list {
			count[shownLog([]impl.Entry{e})]--
			if i == 0 {
				continue
			}
			before := list[i-1]
			if e.When < before.When || e.When == before.When && len(e.Puts) > 0 && len(before.Puts) == 0 {
				t.Fatalf("%d is ahead of the one before: %+v", i, list)
			}
		}
		for e, n := range count {
			if n != 0 {
				t.Fatalf("%d too few of %s: %+v", n, e, list)
			}
		}
		if twice := impl.LogOrder(list); !sameLog(twice, list) {
			t.Fatalf("twice: %+v, not %+v", twice, list)
		}
		if sameLog(list, x.log) {
			stayed++
		} else {
			moved++
		}
	}
	enough(t, 1000, moved, stayed)
}

// Promise 39.
func TestLogOrderOfBothPartsIsThatOfAll(t *testing.T) {
	for _, x := range someLogs(1000) {
		all := impl.LogOrder(x.log)
		for cut := range len(x.log) + 1 {
			both := slices.Concat(impl.LogOrder(x.log[:cut]), impl.LogOrder(x.log[cut:]))
			if got := impl.LogOrder(both); !sameLog(got, all) {
				t.Fatalf("cut at %d: %+v, not %+v", cut, got, all)
			}
		}
	}
}

// Promise 40.
func TestEntriesAreDoneOneBehindTheOtherCutAnywhere(t *testing.T) {
	done, not := 0, 0
	for _, x := range someLogs(1000) {
		for _, list := range [][]impl.Entry{x.log, impl.LogOrder(x.log)} {
			all, ok := impl.LogReplay(x.cells, list)
			for cut := range len(list) + 1 {
				nums, partOk := impl.LogReplay(x.cells, list[:cut])
				if partOk {
					nums, partOk = impl.LogReplay(nums, list[cut:])
				}
				if partOk != ok || !slices.Equal(nums, all) {
					t.Fatalf("cut at %d: %v, %v, not %v, %v: %+v", cut, nums, partOk, all, ok, list)
				}
			}
			if ok && len(list) > 1 {
				done++
			} else if !ok {
				not++
			}
		}
	}
	enough(t, 500, done, not)
}

// Promise 41.
func TestWithoutEntriesCellsStay(t *testing.T) {
	r := rand.New(rand.NewPCG(55, 56))
	lists := [][]int{nil, {}, {0}, {99, 0, 1}, {-1, 100, math.MinInt, math.MaxInt, 3, 4, 5}}
	for range 100 {
		lists = append(lists, someNums(r, r.IntN(5)))
	}
	for _, cells := range lists {
		for _, none := range [][]impl.Entry{nil, {}} {
			nums, ok := impl.LogReplay(cells, none)
			if !ok || !slices.Equal(nums, cells) {
				t.Errorf("%v: %v, %v", cells, nums, ok)
			}
			for _, when := range timesOf(nil) {
				listIs(t, "seen", impl.LogSeen(cells, none, when), cells...)
			}
		}
	}
}

// Promise 42: at any place of what it read.
func TestAnEntryIsDoneJustIfItReadWhatIsThere(t *testing.T) {
	r := rand.New(rand.NewPCG(57, 58))
	others := 0
	for range 3000 {
		cells := someNums(r, r.IntN(5))
		e := impl.Entry{Reads: byCells(r, len(cells), func(cell int) int { return cells[cell] }), Puts: oddPuts(r)}
		nums, ok := impl.LogReplay(cells, []impl.Entry{e})
		if !ok || len(nums) != len(cells) {
			t.Fatalf("not done: %v: %+v", cells, e)
		}
		for cell, n := range nums {
			want := cells[cell]
			if put, there := numOf(e.Puts, cell); there {
				want = put
			}
			if n != want {
				t.Fatalf("%v: %v: %+v", cells, nums, e)
			}
		}
		for i := range e.Reads {
			for _, other := range []int{e.Reads[i].Num + 1, e.Reads[i].Num - 1, -e.Reads[i].Num - 1} {
				others++
				bad := copiedLog([]impl.Entry{e})
				bad[0].Reads[i].Num = other
				if nums, ok := impl.LogReplay(cells, bad); ok || len(nums) != 0 {
					t.Fatalf("done: %v, of %v: %+v", nums, cells, bad)
				}
			}
		}
	}
	enough(t, 1000, others)
}

// lastPut is the last number that Puts have of a cell.
func lastPut(e impl.Entry, cell int) int {
	n := 0
	for _, put := range e.Puts {
		if put.Cell == cell {
			n = put.Num
		}
	}
	return n
}

// Promise 43: of entries that read what was there, and of what is seen when all times are over, whatever was read.
func TestEachCellHasAtLastWhatLogLastPuts(t *testing.T) {
	put, stay, read := 0, 0, 0
	for _, x := range someLogs(3000) {
		last := [][]int{impl.LogSeen(x.cells, x.log, math.MaxInt)}
		if nums, ok := impl.LogReplay(x.cells, impl.LogOrder(x.log)); ok {
			last = append(last, nums)
			read++
		}
		for _, nums := range last {
			for cell, n := range nums {
				e, ok := impl.LogLast(x.log, cell)
				want := x.cells[cell]
				if ok {
					want = lastPut(e, cell)
					put++
				} else {
					stay++
				}
				if n != want {
					t.Fatalf("cell %d of %v: %v: %+v", cell, x.cells, nums, x.log)
				}
			}
		}
	}
	enough(t, 1000, put, stay, read)
}

// Promise 44: of each two entries alone, and of all that there are.
func TestLogRealLooksAtEachTwo(t *testing.T) {
	real, not := 0, 0
	for _, x := range append(someLogs(3000), smallLogs()...) {
		want := true
		for i, e := range x.log {
			for j, early := range x.log[:i] {
				ahead := e.When < early.When || e.When == early.When && len(e.Puts) > 0 && len(early.Puts) == 0
				if ahead && j < e.From {
					want = false
				}
				// The two alone, the one having ended, or not, ahead of the other's beginning.
				two := []impl.Entry{early, e}
				for from, twoWant := range []bool{true, !ahead, !ahead} {
					two[1].From = from
					if got := impl.LogReal(two); got != twoWant {
						t.Fatalf("%v: %+v", got, two)
					}
				}
			}
		}
		if got := impl.LogReal(x.log); got != want {
			t.Fatalf("%v: %+v", got, x.log)
		}
		if want {
			real++
		} else {
			not++
		}
	}
	enough(t, 1000, real, not)
}

// Promise 45.
func TestIfLogRealSoAreTheFirstOnes(t *testing.T) {
	real := 0
	for _, x := range append(someLogs(3000), smallLogs()...) {
		if !impl.LogReal(x.log) {
			continue
		}
		for cut := range len(x.log) {
			real++
			if !impl.LogReal(x.log[:cut]) {
				t.Fatalf("the first %d: %+v", cut, x.log)
			}
		}
	}
	enough(t, 1000, real)
}

// Promise 46: at -1 of none, as changes have times from 0 on.
func TestLogSeenIsOfEntriesNotAboveThatTime(t *testing.T) {
	some, none := 0, 0
	for _, x := range someLogs(1000) {
		for _, when := range timesOf(x.log) {
			not := slices.DeleteFunc(slices.Clone(x.log), func(e impl.Entry) bool { return e.When > when })
			got := impl.LogSeen(x.cells, x.log, when)
			if want := impl.LogSeen(x.cells, not, math.MaxInt); !slices.Equal(got, want) {
				t.Fatalf("at %d: %v, not %v: %+v", when, got, want, x.log)
			}
			if len(not) == 0 {
				none++
				if !slices.Equal(got, x.cells) {
					t.Fatalf("at %d: %v, not %v: %+v", when, got, x.cells, x.log)
				}
			} else if len(not) < len(x.log) {
				some++
			}
		}
	}
	enough(t, 1000, some, none)
	for _, x := range append(madeLogs(1000), seenLogs(10)...) {
		listIs(t, "at -1", impl.LogSeen(x.cells, x.log, -1), x.cells...)
	}
}

// Promise 47.
func TestAtSysTimeLogSeenIsLogReplayOfLogOrder(t *testing.T) {
	put, done := 0, 0
	for _, x := range append(madeLogs(5000), seenLogs(3)...) {
		nums, ok := impl.LogReplay(x.cells, impl.LogOrder(x.log))
		if !ok {
			continue
		}
		done++
		got := impl.LogSeen(x.cells, x.log, impl.SysTime)
		if !slices.Equal(got, nums) {
			t.Fatalf("%v, not %v: %+v", got, nums, x.log)
		}
		if !slices.Equal(got, x.cells) {
			put++
		}
	}
	enough(t, 2000, put, done)
}

// Promise 48.
func TestOneTimeLaterOnlyWhatIsPutThenIsOther(t *testing.T) {
	put, stay := 0, 0
	for _, x := range someLogs(1000) {
		for _, when := range timesOf(x.log) {
			if when == math.MaxInt {
				continue
			}
			then, later := impl.LogSeen(x.cells, x.log, when), impl.LogSeen(x.cells, x.log, when+1)
			for cell := range x.cells {
				want := then[cell]
				for _, e := range x.log {
					if _, there := numOf(e.Puts, cell); there && e.When == when+1 {
						want = lastPut(e, cell)
						put++
					}
				}
				if want == then[cell] {
					stay++
				}
				if later[cell] != want {
					t.Fatalf("cell %d at %d: %v, then %v: %+v", cell, when, then, later, x.log)
				}
			}
		}
	}
	enough(t, 1000, put, stay)
}

// Promise 49: laid out by tasks, in the log's order, entries are just the log.
func TestEntriesAreAllThoseOfTasks(t *testing.T) {
	some := 0
	for _, x := range seenSystems(3) {
		of := map[int][]impl.Entry{}
		sum := 0
		for place := range x.after.Tasks {
			of[place] = impl.LogTask(x.after.Log, place)
			sum += len(of[place])
			for i, e := range of[place] {
				if e.Task != place || i > 0 && of[place][i-1].Act >= e.Act {
					t.Fatalf("task %d: %+v", place, of[place])
				}
			}
		}
		if sum != len(x.after.Log) {
			t.Fatalf("%d, not all: %+v", sum, x.after.Log)
		}
		for _, e := range x.after.Log {
			if !sameEntry(of[e.Task][0], e) {
				t.Fatalf("%+v, not %+v", of[e.Task][0], e)
			}
			of[e.Task] = of[e.Task][1:]
			some++
		}
	}
	enough(t, 5000, some)
}

// Promise 50.
func TestLogLastIsThereJustIfSomethingIsPut(t *testing.T) {
	put, none, later := 0, 0, 0
	for _, x := range append(someLogs(3000), smallLogs()...) {
		list := impl.LogOrder(x.log)
		for cell := range 5 {
			puts := slices.DeleteFunc(slices.Clone(list), func(e impl.Entry) bool {
				return !slices.ContainsFunc(e.Puts, func(put impl.Put) bool { return put.Cell == cell })
			})
			e, ok := impl.LogLast(x.log, cell)
			if len(puts) == 0 {
				none++
				if ok || !sameEntry(e, impl.Entry{}) {
					t.Fatalf("cell %d: %+v, %v: %+v", cell, e, ok, x.log)
				}
				continue
			}
			put++
			if len(puts) > 1 {
				later++
			}
			if !ok || !sameEntry(e, puts[len(puts)-1]) {
				t.Fatalf("cell %d: %+v, %v, not %+v", cell, e, ok, puts)
			}
		}
	}
	enough(t, 1000, put, none, later)
}

// Promise 51.
func TestLogTextOfBothPartsIsThatOfAll(t *testing.T) {
	for _, x := range someLogs(1000) {
		all := impl.LogText(x.log)
		if strings.Count(all, "\n") != len(x.log) || len(x.log) > 0 && !strings.HasSuffix(all, "\n") {
			t.Fatalf("%q: %+v", all, x.log)
		}
		for cut := range len(x.log) + 1 {
			if both := impl.LogText(x.log[:cut]) + impl.LogText(x.log[cut:]); both != all {
				t.Fatalf("cut at %d: %q, not %q", cut, both, all)
			}
		}
	}
}

// Promise 52.
func TestEachEntryIsAChangeOfItsTask(t *testing.T) {
	some := 0
	for _, x := range seenSystems(3) {
		for _, e := range impl.LogOrder(x.after.Log) {
			some++
			if !inRange(e.Task, 0, len(x.after.Tasks)-1) {
				t.Fatalf("no task's: %+v", e)
			}
			acts := x.p.Bodies[x.after.Tasks[e.Task].Body]
			if !inRange(e.Act, 0, len(acts)-1) || acts[e.Act].Kind != impl.ActTry {
				t.Fatalf("no change: %+v", e)
			}
		}
	}
	enough(t, 5000, some)
}

func cellsOf(list []impl.Put) []int {
	var cells []int
	for _, put := range list {
		cells = append(cells, put.Cell)
	}
	return cells
}

// Promise 53.
func TestReadsAndPutsAreOfJustWhatAChangeReadsAndWrites(t *testing.T) {
	reads, puts := 0, 0
	for _, x := range seenSystems(3) {
		for _, e := range x.after.Log {
			deeds := x.p.Bodies[x.after.Tasks[e.Task].Body][e.Act].Deeds
			listIs(t, "Reads", cellsOf(e.Reads), impl.ChangeReads(deeds)...)
			listIs(t, "Puts", cellsOf(e.Puts), impl.ChangeWrites(deeds)...)
			reads, puts = reads+len(e.Reads), puts+len(e.Puts)
		}
	}
	enough(t, 5000, reads, puts)
}

// atOnce asks that entries in LogOrder read what was there, and leave what cells have.
func atOnce(t *testing.T, p impl.Prog, s impl.Sys) {
	t.Helper()
	nums, ok := impl.LogReplay(p.Cells, impl.LogOrder(s.Log))
	if !ok || !slices.Equal(nums, impl.SysNums(s)) {
		t.Fatalf("%v, %v, not %v: %+v", nums, ok, impl.SysNums(s), s.Log)
	}
}

// Promise 54 (AT ONCE).
func TestIfNobodyIsWritingChangesAreAtOnce(t *testing.T) {
	whole, unordered, mixed := 0, 0, 0
	for _, x := range seenSteps() {
		if isWriting(x.after) {
			continue
		}
		atOnce(t, x.p, x.after)
		if len(x.after.Log) > 1 {
			whole++
		}
		if !sameLog(impl.LogOrder(x.after.Log), x.after.Log) {
			unordered++
		}
		if _, ok := impl.LogReplay(x.p.Cells, x.after.Log); !ok {
			mixed++
		}
	}
	enough(t, 200, whole, unordered, mixed)
}

// Promise 55 (AT ONCE).
func TestAtTheEndChangesAreAtOnce(t *testing.T) {
	ends, failed := 0, 0
	for _, x := range seenSystems(10) {
		last := mustRest(t, x.p, x.after, 2000)
		if !impl.SysOver(x.p, last) {
			t.Fatalf("not at the end: %+v", last)
		}
		atOnce(t, x.p, last)
		if len(last.Log) > 1 {
			ends++
		}
		if slices.Contains(impl.SysWays(last), impl.TaskOff) {
			failed++
		}
	}
	enough(t, 500, ends, failed)
}

// Promise 56 (IN TIME).
func TestEntriesAreInTime(t *testing.T) {
	begun := 0
	for _, x := range seenSteps() {
		if !impl.LogReal(x.after.Log) {
			t.Fatalf("%+v", x.after.Log)
		}
		for _, e := range x.after.Log {
			begun += e.From
		}
	}
	enough(t, 10000, begun)
}

// Promise 57.
func TestNoTwoEntriesWithPutsHaveTheSameWhen(t *testing.T) {
	puts, beside := 0, 0
	for _, x := range seenSystems(2) {
		of := map[int]int{}
		for _, e := range x.after.Log {
			if len(e.Puts) == 0 {
				continue
			}
			puts++
			if of[e.When]++; of[e.When] > 1 {
				t.Fatalf("%+v", x.after.Log)
			}
		}
		for _, e := range x.after.Log {
			if len(e.Puts) == 0 && of[e.When] > 0 {
				beside++
			}
		}
	}
	enough(t, 1000, puts, beside)
}

// together asks of each entry that it read what is seen at its time, or, if it puts, ahead of it.
func together(t *testing.T, p impl.Prog, s impl.Sys) (reads, puts int) {
	t.Helper()
	for _, e := range s.Log {
		when := e.When
		if len(e.Puts) > 0 {
			when--
			puts += len(e.Reads)
		} else {
			reads += len(e.Reads)
		}
		seen := impl.LogSeen(p.Cells, s.Log, when)
		for _, read := range e.Reads {
			if seen[read.Cell] != read.Num {
				t.Fatalf("%+v, not of %v: %+v", e, seen, s.Log)
			}
		}
	}
	return reads, puts
}

// Promise 58 (TOGETHER): whenever nobody is writing, and at the end, also of what was read while somebody was.
func TestEachEntryReadWhatStoodThereTogether(t *testing.T) {
	reads, puts := 0, 0
	count := func(r, p int) { reads, puts = reads+r, puts+p }
	for i, x := range seenSteps() {
		if !isWriting(x.after) {
			count(together(t, x.p, x.after))
		}
		if i%20 == 0 {
			count(together(t, x.p, mustRest(t, x.p, x.after, 2000)))
		}
	}
	enough(t, 5000, reads, puts)
}

// Promises 54 to 58, in all orders of steps of small programs: somebody puts two cells together, others read one or both of them meanwhile, or put what they read, or fail. What was read of a change that is still being written is there when that is ended.
func TestAllOrdersAreAtOnceInTimeAndTogether(t *testing.T) {
	meanwhile := 0
	for _, text := range []string{
		"cells 0 0\nbody\nfork 1 2\nbody\ntry r=4 A=r B=r\nbody\ntry r=A\n",
		"cells 0 0\nbody\nfork 1 2\nbody\ntry r=4 A=r B=r\nbody\ntry r=B s=A\ntry r=A\nfailif r\n",
		"cells 0 0 0\nbody\nfork 1 2\nbody\ntry r=4 A=r B=r\nbody\ntry r=A C=r\n",
		"cells 1 2\nbody\nfork 1 2\nbody\ntry r=A s=B A=s B=r\nbody\ntry s=B A=s\n",
		"cells 1 2\nbody\nfork 1 2\nbody\ntry r=A B=r\nbody\ntry r=B A=r\ntry r=A s=B\n",
	} {
		p := mustRead(t, text)
		for _, s := range allSystems(t, p) {
			if !impl.LogReal(s.Log) {
				t.Fatalf("%q: %+v", text, s.Log)
			}
			if isWriting(s) {
				if _, ok := impl.LogReplay(p.Cells, impl.LogOrder(s.Log)); !ok {
					meanwhile++
				}
				s = mustRest(t, p, s, 2000)
			}
			atOnce(t, p, s)
			together(t, p, s)
		}
	}
	enough(t, 10, meanwhile)
}

// anyOrder is a program at its end, behind turns by chance, some for a while.
func anyOrder(t *testing.T, r *rand.Rand, p impl.Prog) impl.Sys {
	t.Helper()
	s := mustNew(t, p)
	var turns []int
	for len(turns) < 250 {
		task := r.IntN(impl.ProgTasks)
		for range 1 + r.IntN(6) {
			turns = append(turns, task)
		}
	}
	s = mustRest(t, p, mustRun(t, p, s, turns...), 2000)
	if !impl.SysOver(p, s) {
		t.Fatalf("not at the end: %+v", s)
	}
	return s
}

// Promise 59 (AT ONCE): there are never ten tasks, so ten changes of as many tasks as there may be add, and one of each of them, and the same ones again and again.
func TestAllAddingIsThereAtTheEnd(t *testing.T) {
	r := rand.New(rand.NewPCG(59, 60))
	add := "try r=A s=1 r+s A=r\n"
	for text, adds := range map[string]int{
		"cells 0\nbody\nfork 1 1\nbody\n" + add + "fork 2 2\nbody\n" + add + add:             10,
		"cells 95\nbody\nfork 1 1\nbody\nfork 2 2\n" + add + "body\n" + add + add:            10,
		"cells 0\nbody\nfork 1 1\n" + add + "body\n" + add + "fork 2 2\nbody\n" + add:        7,
		"cells 7 7\nbody\nfork 1 1\nfork 1 1\nfork 1 1\nbody\n" + add:                        6,
		"cells 99\nbody\nfork 1 1\n" + add + add + "body\n" + add + add + add + add:          10,
		"cells 3\nbody\n" + add + add + add + add:                                            4,
		"cells 50 0\nbody\nfork 1 2\nbody\n" + add + add + "body\ntry r=A B=r\n" + add + add: 4,
	} {
		p := mustRead(t, text)
		orders, last := map[string]int{}, 0
		for range 300 {
			s := anyOrder(t, r, p)
			last = (p.Cells[0] + adds) % 100
			if n := impl.SysNums(s)[0]; n != last {
				t.Fatalf("%d, not %d: %q: %+v", n, last, text, s.Log)
			}
			of := impl.LogOrder(slices.DeleteFunc(slices.Clone(s.Log), func(e impl.Entry) bool { return e.Puts[0].Cell != 0 }))
			if len(of) != adds {
				t.Fatalf("%d, not %d: %q: %+v", len(of), adds, text, s.Log)
			}
			for i, e := range of {
				if e.Reads[0].Num != (p.Cells[0]+i)%100 || e.Puts[0].Num != (p.Cells[0]+i+1)%100 {
					t.Fatalf("%d: %q: %+v", i, text, of)
				}
			}
			orders[impl.LogText(s.Log)]++
		}
		if len(p.Bodies) > 1 && len(orders) < 10 {
			t.Errorf("always the same order: %q", text)
		}
	}
}

func sumOf(list []impl.Put) int {
	sum := 0
	for _, put := range list {
		sum += put.Num
	}
	return sum
}

// Promise 60 (AT ONCE): cells that are swapped there and back have what they had; if who swaps may be called off they may have it the other way round.
func TestSwappedCellsAlwaysHaveTheSameSum(t *testing.T) {
	r := rand.New(rand.NewPCG(61, 62))
	swap, look := "try r=A s=B A=s B=r\n", "try s=B t=A\n"
	for text, calledOff := range map[string]bool{
		"cells 3 8\nbody\nfork 1 1\nbody\n" + swap + look + swap:                                         false,
		"cells 0 99\nbody\nfork 1 1\nbody\nfork 2 2\n" + look + "body\n" + swap + look + swap:            false,
		"cells 60 70\nbody\nfork 1 1\nbody\n" + swap + "fork 2 2\n" + look + "body\n" + look + swap:      false,
		"cells 3 8\nbody\nfork 1 2\nbody\nfork 3 3\nbody\n" + look + "fail\nbody\n" + swap + swap + look: true,
	} {
		p := mustRead(t, text)
		sum := p.Cells[0] + p.Cells[1]
		ends := map[int]int{}
		for range 300 {
			s := anyOrder(t, r, p)
			for _, e := range s.Log {
				if sumOf(e.Reads) != sum || len(e.Puts) > 0 && sumOf(e.Puts) != sum {
					t.Fatalf("%q: %+v", text, e)
				}
			}
			nums := impl.SysNums(s)
			ends[nums[0]]++
			if slices.Sort(nums); !slices.Equal(nums, slices.Sorted(slices.Values(p.Cells))) {
				t.Fatalf("%q: %v", text, nums)
			}
		}
		if !calledOff && ends[p.Cells[0]] != 300 || calledOff && len(ends) != 2 {
			t.Fatalf("%q: %v", text, ends)
		}
	}
}
