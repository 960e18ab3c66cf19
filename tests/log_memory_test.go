package tests

import (
	"runtime"
	"slices"
	"testing"

	"loop.example/equerry/impl"
)

func spansOfLog(log []impl.Entry) []span { return spansOfSys(impl.Sys{Log: log}) }

func paddedLog(log []impl.Entry) []impl.Entry { return paddedSys(impl.Sys{Log: log}).Log }

// wholeLog is a log with all that lies behind the ends of its lists.
func wholeLog(log []impl.Entry) string { return wholeSys(impl.Sys{Log: log}) }

// logAnswers is all that can be asked of a log: entries, and lists.
func logAnswers(cells []int, log []impl.Entry) ([][]impl.Entry, [][]int) {
	var nums [][]int
	logs := [][]impl.Entry{impl.LogOrder(log), impl.LogOrder(log)}
	for _, place := range oddPlaces {
		e, _ := impl.LogLast(log, place)
		logs = append(logs, impl.LogTask(log, place), []impl.Entry{e})
	}
	for _, when := range timesOf(log) {
		nums = append(nums, impl.LogSeen(cells, log, when))
	}
	for cut := range len(log) + 1 {
		list, _ := impl.LogReplay(cells, log[:cut])
		ordered, _ := impl.LogReplay(cells, impl.LogOrder(log)[:cut])
		nums = append(nums, list, ordered)
	}
	impl.LogReal(log)
	impl.LogText(log)
	return logs, nums
}

func memoryLogs() []told {
	return slices.Concat(oddLogs(400), madeLogs(400), seenLogs(400))
}

// Each list of an answer is its own: of no argument, of no other list, and of no other call's.
func TestLogsShareNoMemory(t *testing.T) {
	for _, x := range memoryLogs() {
		cells, log := laid(x.cells, 77), paddedLog(x.log)
		logs, nums := logAnswers(cells, log)
		list := append(spansOfLog(log), spanOf(cells))
		for _, q := range logs {
			list = append(list, spansOfLog(q)...)
		}
		for _, q := range nums {
			list = append(list, spanOf(q))
		}
		shareNone(t, list, shownLog(log))
		runtime.KeepAlive(cells)
		runtime.KeepAlive(log)
		runtime.KeepAlive(logs)
		runtime.KeepAlive(nums)
	}
}

// Nothing is written into an argument, or behind the end of one of its lists, those within entries included.
func TestNothingIsWrittenIntoALog(t *testing.T) {
	for _, x := range append(oddLogs(3000), madeLogs(3000)...) {
		cells, log := laid(x.cells, 77), paddedLog(x.log)
		cellsBefore, logBefore := slices.Clone(cells[:cap(cells)]), wholeLog(log)
		logAnswers(cells, log)
		if wholeLog(log) != logBefore || !slices.Equal(cells[:cap(cells)], cellsBefore) {
			t.Fatalf("something was written: %v, %+v, not %v, %s", cells, log, cellsBefore, logBefore)
		}
		// A log that is the first part of another one is not written behind, either.
		for cut := range len(log) {
			logAnswers(cells[:len(cells)/2], log[:cut])
		}
		if wholeLog(log) != logBefore || !slices.Equal(cells[:cap(cells)], cellsBefore) {
			t.Fatalf("something was written behind an end: %v, %+v, not %v, %s", cells, log, cellsBefore, logBefore)
		}
	}
}

// What is written into an answer is in no later one, nor in the argument.
func TestAnswersOfLogsAreNotKept(t *testing.T) {
	for _, x := range memoryLogs() {
		before := shownLog(x.log)
		logs, nums := logAnswers(x.cells, x.log)
		var wantLogs []string
		for _, q := range logs {
			wantLogs = append(wantLogs, shownLog(q))
		}
		var wantNums [][]int
		for _, q := range nums {
			wantNums = append(wantNums, slices.Clone(q))
		}
		for _, q := range logs {
			spoilSys(impl.Sys{Log: q})
		}
		for _, q := range nums {
			spoil(q, 88)
		}
		if shownLog(x.log) != before {
			t.Fatalf("written into the argument: %+v, not %s", x.log, before)
		}
		again, againNums := logAnswers(x.cells, x.log)
		for i, q := range again {
			if shownLog(q) != wantLogs[i] {
				t.Fatalf("answer %d: %+v, not %s", i, q, wantLogs[i])
			}
		}
		for i, q := range againNums {
			listIs(t, "numbers", q, wantNums[i]...)
		}
	}
}

// Entries of an argument may share their lists, with each other and within one: it is as good as any other, and entries of an answer do not.
func TestListsOfALogMayShareMemory(t *testing.T) {
	one := []impl.Put{{Cell: 0, Num: 4}, {Cell: 1, Num: 5}, {Cell: 2, Num: 6}, {Cell: 0, Num: 7}}
	var log []impl.Entry
	for i := range 6 {
		log = append(log, impl.Entry{Task: i % 2, When: 6 - i, Reads: one[:3], Puts: one[i%3:]})
	}
	log = append(log, log[1], log[1])
	for cut := range len(log) + 1 {
		x := told{[]int{4, 5, 6}, log[:cut]}
		before := wholeLog(x.log)
		judgedLog(t, x)
		logs, nums := logAnswers(x.cells, x.log)
		list := append(spanOfAll(nums), spanOf(one), spanOf(x.log), spanOf(x.cells))
		for _, q := range logs {
			list = append(list, spansOfLog(q)...)
		}
		shareNone(t, list, shownLog(x.log))
		if wholeLog(x.log) != before {
			t.Fatalf("something was written: %+v, not %s", x.log, before)
		}
		runtime.KeepAlive(logs)
		runtime.KeepAlive(nums)
	}
	runtime.KeepAlive(one)
}

func spanOfAll(lists [][]int) []span {
	var spans []span
	for _, list := range lists {
		spans = append(spans, spanOf(list))
	}
	return spans
}

// Lists of no length, but with room, are as good as nil ones: who has such Puts puts nothing.
func TestEmptyListsOfALogAreNilLists(t *testing.T) {
	for _, x := range memoryLogs() {
		y := told{x.cells, copiedLog(x.log)}
		for i := range y.log {
			e := &y.log[i]
			if len(e.Reads) == 0 {
				e.Reads = make([]impl.Put, 0, 3)
			}
			if len(e.Puts) == 0 {
				e.Puts = []impl.Put{}
			}
		}
		if len(y.cells) == 0 {
			y.cells = make([]int, 0, 4)
		}
		judgedLog(t, y)
		if !sameLog(impl.LogOrder(y.log), impl.LogOrder(x.log)) || impl.LogReal(y.log) != impl.LogReal(x.log) {
			t.Fatalf("%+v", y.log)
		}
	}
}
