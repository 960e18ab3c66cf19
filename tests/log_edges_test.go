package tests

import (
	"math"
	"math/rand/v2"
	"slices"
	"testing"

	"loop.example/equerry/impl"
)

// puts is cells and numbers, by turns.
func puts(nums ...int) []impl.Put {
	var list []impl.Put
	for i := 0; i < len(nums); i += 2 {
		list = append(list, impl.Put{Cell: nums[i], Num: nums[i+1]})
	}
	return list
}

// tasksOf is whose entries are, one behind the other.
func tasksOf(log []impl.Entry) []int {
	var list []int
	for _, e := range log {
		list = append(list, e.Task)
	}
	return list
}

// replayIs says so, if something else is left, or it is not done.
func replayIs(t *testing.T, cells []int, list []impl.Entry, want ...int) {
	t.Helper()
	if got, ok := impl.LogReplay(cells, list); !ok || !slices.Equal(got, want) {
		t.Errorf("LogReplay of %v: %v, %v, not %v: %+v", cells, got, ok, want, list)
	}
}

// replayIsNot says so, if anything at all comes of it.
func replayIsNot(t *testing.T, cells []int, list []impl.Entry) {
	t.Helper()
	if got, ok := impl.LogReplay(cells, list); ok || len(got) != 0 {
		t.Errorf("LogReplay of %v: %v, %v: %+v", cells, got, ok, list)
	}
}

// noLast says so, if anything at all is told of a cell.
func noLast(t *testing.T, log []impl.Entry, cells ...int) {
	t.Helper()
	for _, cell := range cells {
		if e, ok := impl.LogLast(log, cell); ok || !sameEntry(e, impl.Entry{}) {
			t.Errorf("LogLast of %d: %+v, %v: %+v", cell, e, ok, log)
		}
	}
}

// lastIs says so, if another task's entry is told.
func lastIs(t *testing.T, log []impl.Entry, cell, task int) {
	t.Helper()
	if e, ok := impl.LogLast(log, cell); !ok || e.Task != task {
		t.Errorf("LogLast of %d: %+v, %v, not that of %d: %+v", cell, e, ok, task, log)
	}
}

// All functions, of logs of each kind, against the tests' own reading.
func TestLogsAreAsTheDocumentSays(t *testing.T) {
	for _, x := range slices.Concat(oddLogs(6000), madeLogs(3000), seenLogs(60)) {
		judgedLog(t, x)
	}
}

func TestAllSmallLogs(t *testing.T) {
	for _, x := range smallLogs() {
		if got := impl.LogOrder(x.log); !sameLog(got, wantOrder(x.log)) {
			t.Fatalf("LogOrder: %+v, not %+v", got, wantOrder(x.log))
		}
		if got := impl.LogReal(x.log); got != wantReal(x.log) {
			t.Fatalf("LogReal: %v: %+v", got, x.log)
		}
		judgedReplay(t, x.cells, x.log)
		for _, when := range []int{-1, 0, 1} {
			listIs(t, "LogSeen", impl.LogSeen(x.cells, x.log, when), wantSeen(x.cells, x.log, when)...)
		}
	}
}

func TestNoEntries(t *testing.T) {
	for _, none := range [][]impl.Entry{nil, {}, make([]impl.Entry, 0, 5)} {
		if len(impl.LogOrder(none)) != 0 || !impl.LogReal(none) || impl.LogText(none) != "" {
			t.Error("something of no entries")
		}
		for _, place := range oddPlaces {
			if list := impl.LogTask(none, place); len(list) != 0 {
				t.Errorf("LogTask of %d: %+v", place, list)
			}
		}
		noLast(t, none, oddPlaces...)
	}
}

func TestOneEntry(t *testing.T) {
	for _, from := range []int{math.MinInt, -1, 0, 1, 2, math.MaxInt} {
		for _, e := range []impl.Entry{{Task: 2, From: from}, {Task: 2, When: 9, Reads: puts(0, 4), From: from}, {Task: 2, When: 9, Reads: puts(0, 4), Puts: puts(1, 6), From: from}} {
			log := []impl.Entry{e}
			if !impl.LogReal(log) || !sameLog(impl.LogOrder(log), log) || !sameLog(impl.LogTask(log, 2), log) || len(impl.LogTask(log, 0)) != 0 {
				t.Errorf("%+v", e)
			}
			judgedLog(t, told{[]int{4, 5}, log})
			judgedLog(t, told{[]int{3, 5}, log})
		}
	}
}

// Of one time those that put stand ahead of those that only read, and all others stay as they stood.
func TestEntriesOfWhichNoneStandsAheadStay(t *testing.T) {
	read := func(task, when int) impl.Entry { return impl.Entry{Task: task, When: when, Reads: puts(0, 1)} }
	put := func(task, when int) impl.Entry { return impl.Entry{Task: task, When: when, Puts: puts(1, 2)} }
	none := func(task, when int) impl.Entry { return impl.Entry{Task: task, When: when} }
	for _, x := range []struct {
		log  []impl.Entry
		want []int
	}{
		{[]impl.Entry{read(1, 3), put(2, 3)}, []int{2, 1}},
		{[]impl.Entry{put(1, 3), read(2, 3)}, []int{1, 2}},
		{[]impl.Entry{none(1, 3), put(2, 3)}, []int{2, 1}},
		{[]impl.Entry{read(1, 3), none(2, 3), read(3, 3)}, []int{1, 2, 3}},
		{[]impl.Entry{put(1, 3), put(2, 3), put(3, 3)}, []int{1, 2, 3}},
		{[]impl.Entry{put(3, 3), put(2, 3), put(1, 3)}, []int{3, 2, 1}},
		{[]impl.Entry{read(1, 3), put(2, 3), none(3, 3), put(4, 3), read(5, 3)}, []int{2, 4, 1, 3, 5}},
		{[]impl.Entry{put(1, 4), read(2, 3)}, []int{2, 1}},
		{[]impl.Entry{read(1, 4), put(2, 3), read(3, 3), put(4, 4), read(5, 2)}, []int{5, 2, 3, 4, 1}},
		{[]impl.Entry{read(1, 0), put(2, -1), read(3, -1), put(4, 0)}, []int{2, 3, 4, 1}},
		{[]impl.Entry{read(1, math.MaxInt), put(2, math.MinInt), read(3, math.MinInt), put(4, math.MaxInt)}, []int{2, 3, 4, 1}},
	} {
		listIs(t, "LogOrder", tasksOf(impl.LogOrder(x.log)), x.want...)
	}
}

// The order goes by times, and by whether something is put: not by task, act, From, or what is read and put.
func TestNothingElseIsLookedAtForTheOrder(t *testing.T) {
	r := rand.New(rand.NewPCG(63, 64))
	for range 500 {
		log := oddLog(r).log
		for i := range log {
			log[i].When = 5
			log[i].Puts = append(log[i].Puts, impl.Put{Cell: r.IntN(5) - 1, Num: r.IntN(9)})
		}
		if list := impl.LogOrder(log); !sameLog(list, log) {
			t.Fatalf("%+v, not %+v", list, log)
		}
		for i := range log {
			log[i].Puts = nil
		}
		if list := impl.LogOrder(log); !sameLog(list, log) {
			t.Fatalf("%+v, not %+v", list, log)
		}
	}
}

// Many entries are put in order, too, and stay where none stands ahead.
func TestManyEntries(t *testing.T) {
	r := rand.New(rand.NewPCG(65, 66))
	var log []impl.Entry
	for i := range 3000 {
		e := impl.Entry{Task: i, When: r.IntN(40), From: r.IntN(i + 1)}
		if r.IntN(2) == 0 {
			e.Puts = puts(r.IntN(3), i)
		}
		log = append(log, e)
	}
	if list := impl.LogOrder(log); !slices.Equal(tasksOf(list), tasksOf(wantOrder(log))) {
		t.Error("not in order")
	}
	listIs(t, "LogSeen", impl.LogSeen(make([]int, 3), log, 20), wantSeen(make([]int, 3), log, 20)...)
	if text := impl.LogText(log); text != wantLogText(log) {
		t.Error("another text")
	}
	if impl.LogReal(log) {
		t.Error("in time")
	}
	list := impl.LogOrder(log)
	for i := range list {
		list[i].From = i
	}
	if !impl.LogReal(list) {
		t.Error("not in time")
	}
}

// What was read is asked ahead of what is put, of each entry, and all of it.
func TestReadsAreAskedAheadOfPuts(t *testing.T) {
	replayIs(t, []int{1, 2}, []impl.Entry{{Reads: puts(0, 1), Puts: puts(0, 5)}, {Reads: puts(0, 5), Puts: puts(1, 6)}}, 5, 6)
	replayIsNot(t, []int{1, 2}, []impl.Entry{{Reads: puts(0, 5), Puts: puts(0, 5)}})
	replayIsNot(t, []int{1, 2}, []impl.Entry{{Reads: puts(0, 1, 1, 3), Puts: puts(0, 5)}})
	replayIsNot(t, []int{1, 2}, []impl.Entry{{Reads: puts(0, 2, 1, 2)}})
	replayIsNot(t, []int{1, 2}, []impl.Entry{{Puts: puts(0, 5)}, {Reads: puts(0, 1)}})
	replayIsNot(t, []int{1, 2}, []impl.Entry{{}, {}, {Reads: puts(1, 1)}, {Puts: puts(0, 5)}})
	// Neither When nor From is looked at: entries are taken as they stand.
	replayIs(t, []int{1}, []impl.Entry{{When: 9, Puts: puts(0, 3)}, {When: 2, Reads: puts(0, 3), Puts: puts(0, 4), From: 7}}, 4)
}

func TestCellsThatAreNotThere(t *testing.T) {
	for _, none := range []int{math.MinInt, -1, 2, 3, 9, math.MaxInt} {
		// Puts of such do nothing, and those beside them are put.
		log := []impl.Entry{{Task: 1, When: 1, Puts: puts(none, 7)}, {Task: 2, When: 2, Puts: puts(none, 8, 1, 9, none, 6)}}
		replayIs(t, []int{4, 5}, log, 4, 9)
		listIs(t, "LogSeen", impl.LogSeen([]int{4, 5}, log, 1), 4, 5)
		listIs(t, "LogSeen", impl.LogSeen([]int{4, 5}, log, 2), 4, 9)
		// Who has put such has put something all the same, as far as the order goes.
		order := impl.LogOrder([]impl.Entry{{Task: 1, When: 3, Reads: puts(0, 4)}, {Task: 2, When: 3, Puts: puts(none, 1)}})
		listIs(t, "LogOrder", tasksOf(order), 2, 1)
		// What is not there cannot be as it was read, whatever that was.
		for _, n := range []int{-1, 0, 4, 5} {
			replayIsNot(t, []int{4, 5}, []impl.Entry{{Reads: puts(none, n)}})
			replayIsNot(t, []int{4, 5}, []impl.Entry{{Reads: puts(0, 4, none, n), Puts: puts(0, 1)}})
		}
		// Nor is it read from what another one has put there.
		replayIsNot(t, []int{4, 5}, []impl.Entry{{Puts: puts(none, 7)}, {Reads: puts(none, 7)}})
	}
}

// A place below 0 is none; how many tasks and cells there are a log does not tell.
func TestPlacesBelowZeroHaveNoEntries(t *testing.T) {
	for _, none := range []int{math.MinInt, -100, -2, -1} {
		log := []impl.Entry{{Task: none, Puts: puts(none, 7)}, {Task: 0, Puts: puts(0, 7, none, 8)}, {Task: none, When: 1, Puts: puts(2, 1, 7, 3)}}
		if list := impl.LogTask(log, none); len(list) != 0 {
			t.Errorf("LogTask of %d: %+v", none, list)
		}
		noLast(t, log, none, 1, 3, 6, 8, math.MaxInt)
		listIs(t, "LogTask", tasksOf(impl.LogTask(log, 0)), 0)
		lastIs(t, log, 0, 0)
		lastIs(t, log, 2, none)
		lastIs(t, log, 7, none)
	}
	for _, place := range []int{0, 3, 6, 7, 100, math.MaxInt} {
		log := []impl.Entry{{Task: place, Puts: puts(place, 7)}}
		if !sameLog(impl.LogTask(log, place), log) {
			t.Errorf("LogTask of %d", place)
		}
		lastIs(t, log, place, place)
	}
}

// As many cells as are handed in are there, also none, and more than a program may have; numbers may be any.
func TestAnyCells(t *testing.T) {
	log := []impl.Entry{{When: 1, Reads: puts(0, -3), Puts: puts(5, 1000, 0, -4, 6, 1)}}
	replayIs(t, []int{-3, 1, 2, 3, 4, 5}, log, -4, 1, 2, 3, 4, 1000)
	listIs(t, "LogSeen", impl.LogSeen([]int{7, 1, 2, 3, 4, 5}, log, 1), -4, 1, 2, 3, 4, 1000)
	for _, none := range [][]int{nil, {}} {
		replayIs(t, none, []impl.Entry{{}, {When: 1, Puts: puts(0, 4)}})
		replayIsNot(t, none, []impl.Entry{{Reads: puts(0, 0)}})
		for _, when := range timesOf(log) {
			listIs(t, "LogSeen", impl.LogSeen(none, log, when))
		}
	}
}

// Of lists that are not by cells, or have one twice, all is looked at; of what is put the last counts.
func TestReadsAndPutsInAnyOrder(t *testing.T) {
	log := []impl.Entry{{Task: 4, When: 1, Reads: puts(2, 8, 0, 6, 1, 7, 0, 6), Puts: puts(2, 1, 0, 2, 2, 3)}}
	replayIs(t, []int{6, 7, 8}, log, 2, 7, 3)
	listIs(t, "LogSeen", impl.LogSeen([]int{6, 7, 8}, log, 1), 2, 7, 3)
	lastIs(t, log, 2, 4)
	lastIs(t, log, 0, 4)
	noLast(t, log, 1)
	for _, reads := range [][]impl.Put{puts(2, 8, 0, 6, 0, 5), puts(2, 8, 0, 5, 0, 6), puts(2, 8, 1, 7, 0, 5), puts(1, 7, 1, 7, 1, 6)} {
		replayIsNot(t, []int{6, 7, 8}, []impl.Entry{{Reads: reads}})
	}
	if text := impl.LogText(log); text != "1 4.0 2:8 0:6 1:7 0:6 / 2:1 0:2 2:3\n" {
		t.Errorf("%q", text)
	}
	listed := impl.LogOrder(log)
	if !sameLog(listed, log) || !sameLog(impl.LogTask(log, 4), log) {
		t.Errorf("%+v", listed)
	}
}

func TestTimesThatAreSeen(t *testing.T) {
	log := []impl.Entry{
		{When: impl.SysTime + 1, Puts: puts(0, 5)},
		{When: impl.SysTime, Puts: puts(0, 4)},
		{When: 1, Puts: puts(0, 3)},
		{When: 0, Puts: puts(0, 2)},
		{When: -1, Puts: puts(0, 1)},
	}
	for when, want := range map[int]int{
		math.MinInt: 9, -3: 9, -2: 9, -1: 1, 0: 2, 1: 3, 2: 3,
		impl.SysTime - 1: 3, impl.SysTime: 4, impl.SysTime + 1: 5, impl.SysTime + 2: 5, math.MaxInt: 5,
	} {
		listIs(t, "LogSeen", impl.LogSeen([]int{9}, log, when), want)
	}
	// What was read is not asked.
	log[2].Reads = puts(0, 77, 3, 1)
	listIs(t, "LogSeen", impl.LogSeen([]int{9}, log, 1), 3)
	// Of one time the last one that is in the log counts.
	log = []impl.Entry{{When: 1, Puts: puts(0, 5)}, {When: 1, Reads: puts(0, 6)}, {When: 1, Puts: puts(0, 6)}, {When: 0, Puts: puts(0, 7)}}
	listIs(t, "LogSeen", impl.LogSeen([]int{9}, log, 0), 7)
	listIs(t, "LogSeen", impl.LogSeen([]int{9}, log, 1), 6)
}

func TestTheLastThatPuts(t *testing.T) {
	log := []impl.Entry{
		{Task: 1, When: 3, Puts: puts(0, 1)},
		{Task: 2, When: 5, Puts: puts(0, 2, 1, 2)},
		{Task: 3, When: 4, Puts: puts(0, 3, 2, 3)},
		{Task: 4, When: 9, Reads: puts(0, 2, 1, 2, 3, 0)},
		{Task: 5, When: 2, Puts: puts(1, 5)},
	}
	lastIs(t, log, 0, 2)
	lastIs(t, log, 1, 2)
	lastIs(t, log, 2, 3)
	noLast(t, log, 3)
	// What it puts need not be something else than was there, nor something but 0.
	lastIs(t, append(slices.Clone(log), impl.Entry{Task: 6, When: 6, Puts: puts(0, 0)}), 0, 6)
	// Of one time it is the one that stands later in the log.
	lastIs(t, append(slices.Clone(log), impl.Entry{Task: 6, When: 5, Puts: puts(0, 2)}), 0, 6)
	lastIs(t, append([]impl.Entry{{Task: 6, When: 5, Puts: puts(0, 2)}}, log...), 0, 2)
	// All of the entry is told.
	whole := impl.Entry{Task: 7, Act: 3, When: 11, Reads: puts(1, 2), Puts: puts(0, 9), From: 4}
	if e, ok := impl.LogLast(append(log, whole), 0); !ok || !sameEntry(e, whole) {
		t.Errorf("%+v", e)
	}
}

// From says how many were ended ahead of the beginning; those that stand behind in the log were not, whatever it says.
func TestFromBelowZeroAndPastTheEnd(t *testing.T) {
	late, early := impl.Entry{When: 5, Puts: puts(0, 1)}, impl.Entry{When: 4, Puts: puts(0, 2)}
	for from, want := range map[int]bool{math.MinInt: true, -1: true, 0: true, 1: false, 2: false, 3: false, math.MaxInt: false} {
		early.From = from
		if got := impl.LogReal([]impl.Entry{late, early}); got != want {
			t.Errorf("From %d: %v", from, got)
		}
		// The later one may stand behind, and say that it began behind the earlier one, or behind itself.
		late := late
		late.From = from
		if !impl.LogReal([]impl.Entry{early, late}) || !impl.LogReal([]impl.Entry{late}) {
			t.Errorf("From %d", from)
		}
		// Who stands first was begun behind nobody, though another one that is later follows.
		if !impl.LogReal([]impl.Entry{early, {When: 6}, {When: 7}}) {
			t.Errorf("From %d", from)
		}
	}
}

// LogReal, where entries have the same time: who puts stands ahead of who only reads, and of nobody else.
func TestInTimeAtTheSameTime(t *testing.T) {
	read, put := impl.Entry{When: 3, Reads: puts(0, 1), From: 1}, impl.Entry{When: 3, Puts: puts(0, 1), From: 1}
	for _, x := range []struct {
		first, second impl.Entry
		want          bool
	}{{read, put, false}, {put, read, true}, {read, read, true}, {put, put, true}} {
		if got := impl.LogReal([]impl.Entry{x.first, x.second}); got != x.want {
			t.Errorf("%v: %+v, %+v", got, x.first, x.second)
		}
	}
	// It is the one that began that must not stand ahead; only the first From are looked at, all of them.
	log := []impl.Entry{{When: 1}, {When: 9}, {When: 2}, {When: 8, From: 1}, {When: 8}}
	for from, want := range []bool{true, true, false, false, false, false} {
		log[3].From = from
		if got := impl.LogReal(log); got != want {
			t.Errorf("From %d: %v", from, got)
		}
	}
}

func TestTextsOfEntries(t *testing.T) {
	for text, log := range map[string][]impl.Entry{
		"":                                nil,
		"0 0.0 /\n":                       {{}},
		"-5 -1.-2 -3:-4 / -6:-7\n":        {{When: -5, Task: -1, Act: -2, Reads: puts(-3, -4), Puts: puts(-6, -7), From: -8}},
		"200 6.3 0:99 1:0 2:7 /\n":        {{When: 200, Task: 6, Act: 3, Reads: puts(0, 99, 1, 0, 2, 7), From: 12}},
		"7 10.0 / 0:10 1:100 2:7\n":       {{When: 7, Task: 10, Puts: puts(0, 10, 1, 100, 2, 7)}},
		"2 1.0 /\n1 0.1 / 0:5\n2 1.0 /\n": {{When: 2, Task: 1}, {When: 1, Act: 1, Puts: puts(0, 5)}, {When: 2, Task: 1}},
		"9223372036854775807 -9223372036854775808.0 /\n": {{When: math.MaxInt, Task: math.MinInt}},
	} {
		if got := impl.LogText(log); got != text {
			t.Errorf("%q, not %q", got, text)
		}
	}
}

// A program without cells has entries that read and put nothing; all are of the time 0, in the order in which they were ended.
func TestLogsOfAProgramWithoutCells(t *testing.T) {
	p, s := begun(t, "cells\nbody\ntry\nfork 1 1\ntry r=1\nbody\ntry\ntry r=4 r?\n")
	s = mustRest(t, p, s, 2000)
	if text := impl.LogText(s.Log); text != "0 0.0 /\n0 1.0 /\n0 2.0 /\n0 1.1 /\n0 2.1 /\n0 0.2 /\n" {
		t.Errorf("%q", text)
	}
	if !sameLog(impl.LogOrder(s.Log), s.Log) || !impl.LogReal(s.Log) {
		t.Errorf("%+v", s.Log)
	}
	replayIs(t, nil, s.Log)
	noLast(t, s.Log, 0, 1, 2)
	listIs(t, "LogSeen", impl.LogSeen(p.Cells, s.Log, impl.SysTime))
	listIs(t, "LogTask", tasksOf(impl.LogTask(s.Log, 2)), 2, 2)
}

// One that only reads ends at the time at which it began, so it may be ended behind others that it stands ahead of; and at that of one that puts it stands behind it.
func TestChangesThatOnlyRead(t *testing.T) {
	p, s := begun(t, "cells 5\nbody\nfork 1 2\nbody\ntry r=A\nbody\ntry r=9 A=r\n", 0, 1, 1)
	for !slices.Contains(impl.SysWays(s), impl.TaskEnded) {
		s = mustStep(t, p, s, 2)
	}
	s = mustStep(t, p, s, 1)
	if text := impl.LogText(s.Log); text != "1 2.0 / 0:9\n0 1.0 0:5 /\n" {
		t.Fatalf("%q", text)
	}
	replayIsNot(t, p.Cells, s.Log)
	replayIs(t, p.Cells, impl.LogOrder(s.Log), 9)
	listIs(t, "LogOrder", tasksOf(impl.LogOrder(s.Log)), 1, 2)
	if !impl.LogReal(s.Log) {
		t.Error("not in time")
	}
	p, s = begun(t, "cells 5\nbody\ntry r=9 A=r\ntry s=A\ntry s=A A=r\n")
	s = mustRest(t, p, s, 2000)
	if text := impl.LogText(s.Log); text != "1 0.0 / 0:9\n1 0.1 0:9 /\n2 0.2 0:9 / 0:9\n" {
		t.Fatalf("%q", text)
	}
	turned := []impl.Entry{s.Log[2], s.Log[1], s.Log[0]}
	if !sameLog(impl.LogOrder(turned), s.Log) {
		t.Errorf("%+v", impl.LogOrder(turned))
	}
}
