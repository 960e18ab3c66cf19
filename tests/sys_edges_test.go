package tests

import (
	"math"
	"slices"
	"testing"

	"loop.example/equerry/impl"
)

// sysIs says so, if a system is not just this one.
func sysIs(t *testing.T, what string, got, want impl.Sys) {
	t.Helper()
	if !sameSys(got, want) {
		t.Errorf("%s: %+v, not %+v", what, got, want)
	}
}

func listIs(t *testing.T, what string, got []int, want ...int) {
	t.Helper()
	if !slices.Equal(got, want) {
		t.Errorf("%s: %v, not %v", what, got, want)
	}
}

func free(num, time int) impl.Cell { return impl.Cell{Num: num, Time: time, Lock: -1} }

// Each step of a change, from its beginning to its end, with all that a system has then.
func TestEachStepOfAChange(t *testing.T) {
	p := mustRead(t, "cells 5 6\nbody\ntry r=A s=1 r+s B=r A=s\n")
	s := mustNew(t, p)
	x := impl.Task{Up: -1, Regs: []int{0, 0, 0}, Old: []int{0, 0, 0}}
	cells := []impl.Cell{free(5, 0), free(6, 0)}
	reads, puts := []impl.Put{{Cell: 0, Num: 5}}, []impl.Put{{Cell: 0, Num: 1}, {Cell: 1, Num: 6}}
	want := func(what string, clock int) {
		t.Helper()
		sysIs(t, what, s, impl.Sys{Cells: cells, Tasks: []impl.Task{x}, Clock: clock})
		s = mustStep(t, p, s, 0)
	}
	want("first", 0)
	x.Stage = impl.StageDeeds
	want("begun", 0)
	x.At, x.Regs, x.Reads = 1, []int{5, 0, 0}, reads
	want("r=A", 0)
	x.At, x.Regs = 2, []int{5, 1, 0}
	want("s=1", 0)
	x.At, x.Regs = 3, []int{6, 1, 0}
	want("r+s", 0)
	x.At, x.Puts = 4, puts[1:]
	want("B=r", 0)
	x.At, x.Puts = 5, puts
	want("A=s", 0)
	x.At, x.Stage = 0, impl.StageLocks
	want("locks", 0)
	x.At, cells[0].Lock = 1, 0
	want("A is held", 0)
	x.At, x.Stage, cells[1].Lock = 0, impl.StageTime, 0
	want("B is held", 0)
	x.Stage, x.When = impl.StageCheck, 1
	want("time", 1)
	x.At = 1
	want("checked", 1)
	x.At, x.Stage = 0, impl.StageWrite
	want("writes", 1)
	x.At, cells[0] = 1, free(1, 1)
	want("A is written", 1)
	x = impl.Task{Pc: 1, Up: -1, Regs: []int{6, 1, 0}, Old: []int{0, 0, 0}}
	log := []impl.Entry{{Task: 0, Act: 0, When: 1, Reads: reads, Puts: puts}}
	last := impl.Sys{Cells: []impl.Cell{free(1, 1), free(6, 1)}, Tasks: []impl.Task{x}, Clock: 1, Log: log}
	sysIs(t, "B is written", s, last)
	last.Tasks[0].Way = impl.TaskEnded
	sysIs(t, "ended", mustStep(t, p, s, 0), last)
	if !impl.SysOver(p, last) || impl.SysOver(p, s) {
		t.Error("over")
	}
}

// What a change stores it loads again, the last one; that is not in Reads. What it loads twice is there once.
func TestLoadsLookIntoPutsFirst(t *testing.T) {
	p, s := begun(t, "cells 5 6\nbody\ntry r=B A=r s=A r=7 A=r\ntry t=A r=B t=A\n", repeated(0, 6)...)
	if x := s.Tasks[0]; !slices.Equal(x.Puts, []impl.Put{{Cell: 0, Num: 7}}) || !slices.Equal(x.Reads, []impl.Put{{Cell: 1, Num: 6}}) || !slices.Equal(x.Regs, []int{7, 6, 0}) {
		t.Fatalf("%+v", x)
	}
	s = mustRest(t, p, s, 100)
	if e := s.Log[1]; !slices.Equal(e.Reads, []impl.Put{{Cell: 0, Num: 7}, {Cell: 1, Num: 6}}) || len(e.Puts) != 0 || e.When != 1 || e.From != 1 || e.Act != 1 {
		t.Fatalf("%+v", e)
	}
	listIs(t, "registers", s.Tasks[0].Regs, 6, 6, 7)
	listIs(t, "numbers", impl.SysNums(s), 7, 6)
	// Task 2 holds A, but task 1 has stored to it, and so needs not see it.
	p, s = begun(t, "cells 5\nbody\nfork 1 2\nbody\ntry r=3 A=r s=A\nbody\ntry t=8 A=t\n", 0, 1, 1, 1, 2, 2, 2, 2, 2)
	listIs(t, "held", impl.SysHeld(s), 0)
	s = mustStep(t, p, s, 1)
	if x := s.Tasks[1]; x.Stage != impl.StageDeeds || x.Regs[1] != 3 || len(x.Reads) != 0 {
		t.Fatalf("%+v", x)
	}
}

func TestAtMost300Turns(t *testing.T) {
	// Task 1 holds A for ever, so task 2 takes a step at each turn: it begins, and begins again.
	p, s := begun(t, "cells 5\nbody\nfork 1 2\nbody\ntry A=r\nbody\ntry s=A\n", 0, 1, 1, 1, 1)
	listIs(t, "held", impl.SysHeld(s), 0)
	for _, n := range []int{0, 1, 2, 299, 300} {
		q := mustRun(t, p, s, repeated(2, n)...)
		if q.Tasks[2].Stage != n%2 || n > 1 && q.Tasks[1].Stage != impl.StageTime {
			t.Errorf("%d turns: %+v", n, q)
		}
		judgedRun(t, p, s, repeated(2, n))
	}
	for _, n := range []int{301, 302, 1000, 100000} {
		for _, task := range []int{2, 0, -1, 9} {
			if q, ok := impl.SysRun(p, s, repeated(task, n)); ok || !isNothing(q) {
				t.Errorf("%d turns of %d: %+v", n, task, q)
			}
		}
	}
	for _, task := range []int{-1, 0, 3, math.MaxInt} {
		sysIs(t, "300 turns of nobody who is ready", mustRun(t, p, s, repeated(task, 300)...), s)
	}
	sysIs(t, "no turns", mustRun(t, p, s), s)
}

func TestAtMost2000Steps(t *testing.T) {
	p := mustRead(t, "cells 5\nbody\nfork 1 1\nfork 1 1\nbody\ntry r=A s=1 r+s A=r\n")
	s := mustNew(t, p)
	_, took, _ := wantRest(p, s, 2000)
	last := mustRest(t, p, s, 2000)
	if !impl.SysOver(p, last) || len(took) < 40 {
		t.Fatalf("%v, %+v", took, last)
	}
	listIs(t, "all were added", impl.SysNums(last), 9)
	for _, most := range []int{len(took), len(took) + 1, 1000, 1999} {
		sysIs(t, "all steps", mustRest(t, p, s, most), last)
	}
	if sameSys(mustRest(t, p, s, len(took)-1), last) {
		t.Error("the last step")
	}
	sysIs(t, "no steps", mustRest(t, p, s, 0), s)
	for _, most := range []int{-1, 2001, -2000, math.MinInt, math.MaxInt} {
		for _, x := range []impl.Sys{s, last} {
			if q, ok := impl.SysRest(p, x, most); ok || !isNothing(q) {
				t.Errorf("%d: %+v", most, q)
			}
		}
	}
	for most := range 60 {
		judgedRest(t, p, s, most)
	}
}

// Those that are begun in a round take a step in it, too, and who is called off in a round does not.
func TestARoundIsOfAllWhoAreReadyThen(t *testing.T) {
	p := mustRead(t, "cells\nbody\nfork 1 1\nbody\nfork 2\nbody\ntry\n")
	s := mustRest(t, p, mustNew(t, p), 5)
	listIs(t, "ways", impl.SysWays(s), 1, 1, 1, 0, 0)
	for place, x := range s.Tasks {
		if want := place / 3; x.Stage != want {
			t.Errorf("task %d: %+v", place, x)
		}
	}
	// Task 0 takes the first step of a round, and calls task 1 off, which would have been ready.
	p, s = begun(t, "cells\nbody\nfork 1 2\nbody\ntry\nbody\nfail\n", 0, 2)
	listIs(t, "ready", impl.SysReady(p, s), 0, 1)
	s = mustRest(t, p, s, 2000)
	listIs(t, "ways", impl.SysWays(s), 3, 4, 3)
	if len(s.Log) != 0 {
		t.Errorf("%+v", s)
	}
}

// At SysTime nobody takes a step any more, whatever it is at.
func TestNobodyTakesAStepAtSysTime(t *testing.T) {
	p, systems := okSystems(t)
	for word, s := range systems {
		s = copiedSys(s)
		s.Clock = impl.SysTime
		if !judgedSysOk(t, p, s) || !impl.SysOver(p, s) || len(impl.SysReady(p, s)) != 0 {
			t.Fatalf("%s: %+v", word, s)
		}
		judgedSteps(t, p, s)
		sysIs(t, word, mustRun(t, p, s, 0, 1, 2, 3, 1, 2, 0, -1), s)
		sysIs(t, word, mustRest(t, p, s, 2000), s)
		for task := range s.Tasks {
			if q, ok := impl.SysStep(p, s, task); ok || !isNothing(q) {
				t.Fatalf("%s: %+v", word, q)
			}
		}
	}
}

// One below SysTime all goes on as ever, till somebody takes the last time.
func TestTheLastTimeIsTaken(t *testing.T) {
	p, systems := okSystems(t)
	for word, s := range systems {
		s = copiedSys(s)
		s.Clock = impl.SysTime - 1
		if !judgedSysOk(t, p, s) || impl.SysOver(p, s) != (word == "over") {
			t.Fatalf("%s: %+v", word, s)
		}
		judgedSteps(t, p, s)
		judgedRest(t, p, s, 2000)
	}
	s := copiedSys(systems["time"])
	s.Clock = impl.SysTime - 1
	q := mustStep(t, p, s, 1)
	if q.Clock != impl.SysTime || q.Tasks[1].When != impl.SysTime || q.Tasks[1].Stage != impl.StageCheck || !impl.SysOver(p, q) || !judgedSysOk(t, p, q) {
		t.Fatalf("%+v", q)
	}
	listIs(t, "still held", impl.SysHeld(q), 0, 1)
	sysIs(t, "nobody is called off any more", mustRest(t, p, q, 2000), q)
}

// Who waits for the time SysTime is not ready when it comes.
func TestWhoAwaitsSysTime(t *testing.T) {
	p, s := begun(t, "cells 0\nbody\nfork 1 2\nbody\ntry r=A r?\nbody\ntry r=1 A=r\n", 0)
	s.Clock = impl.SysTime - 1
	s = mustRun(t, p, s, 1, 1, 1)
	listIs(t, "waits", impl.SysAwait(s), 1)
	if s.Tasks[1].When != impl.SysTime || !judgedSysOk(t, p, s) {
		t.Fatalf("%+v", s)
	}
	s = mustRest(t, p, s, 2000)
	listIs(t, "waits no more", impl.SysAwait(s))
	if s.Clock != impl.SysTime || !impl.SysOver(p, s) || s.Tasks[1].When != impl.SysTime {
		t.Fatalf("%+v", s)
	}
	// The time is there, but what was to be put then is not yet.
	listIs(t, "numbers", impl.SysNums(s), 0)
}

func TestAProgramWithoutCells(t *testing.T) {
	p, s := begun(t, "cells\nbody\ntry r=3\nfailif s\nfailif r\n", 0, 0, 0)
	x := impl.Task{Pc: 1, Up: -1, Regs: []int{3, 0, 0}, Old: []int{0, 0, 0}}
	want := impl.Sys{Tasks: []impl.Task{x}, Log: []impl.Entry{{}}}
	sysIs(t, "a change", s, want)
	want.Tasks[0].Pc = 2
	s = mustStep(t, p, s, 0)
	sysIs(t, "nothing in s", s, want)
	want.Tasks[0].Way = impl.TaskFailed
	s = mustStep(t, p, s, 0)
	sysIs(t, "something in r", s, want)
	if !impl.SysOver(p, s) || len(impl.SysNums(s))+len(impl.SysHeld(s)) != 0 {
		t.Errorf("%+v", s)
	}
}

func TestABodyWithoutActs(t *testing.T) {
	p, s := begun(t, "cells 4\nbody\n")
	want := impl.Sys{Cells: []impl.Cell{free(4, 0)}, Tasks: []impl.Task{{Up: -1, Regs: []int{0, 0, 0}, Old: []int{0, 0, 0}, Way: impl.TaskEnded}}}
	sysIs(t, "ended", mustStep(t, p, s, 0), want)
	// One that is begun ends so, too, and who waits for it goes on.
	p, s = begun(t, "cells\nbody\nfork 1\nbody\n", 0)
	listIs(t, "ready", impl.SysReady(p, s), 1)
	s = mustStep(t, p, s, 1)
	listIs(t, "ready", impl.SysReady(p, s), 0)
	s = mustStep(t, p, s, 0)
	if x := s.Tasks[0]; x.Pc != 1 || x.Way != impl.TaskRuns {
		t.Errorf("%+v", x)
	}
	listIs(t, "ways", impl.SysWays(mustStep(t, p, s, 0)), impl.TaskEnded, impl.TaskEnded)
}

func TestAChangeWithoutDeeds(t *testing.T) {
	p, s := begun(t, "cells 1\nbody\ntry\ntry\n", 0, 0, 0, 0)
	want := impl.Sys{Cells: []impl.Cell{free(1, 0)}, Tasks: []impl.Task{{Pc: 2, Up: -1, Regs: []int{0, 0, 0}, Old: []int{0, 0, 0}}}, Log: []impl.Entry{{}, {Act: 1, From: 1}}}
	sysIs(t, "two changes", s, want)
	if impl.SysOver(p, s) {
		t.Error("over")
	}
}

// It takes no time, holds nothing, and is ended at the time of its beginning, though there is a later one.
func TestAChangeThatOnlyReads(t *testing.T) {
	p, s := begun(t, "cells 5 6\nbody\nfork 1 2\nbody\ntry r=A\nbody\ntry B=r\n", 0, 1, 1, 2, 2, 2, 2, 2, 2, 2)
	if s.Clock != 1 || len(s.Log) != 1 || s.Cells[1] != free(0, 1) {
		t.Fatalf("%+v", s)
	}
	s = mustStep(t, p, s, 1)
	if e := s.Log[1]; e.Task != 1 || e.When != 0 || e.From != 0 || len(e.Puts) != 0 || !slices.Equal(e.Reads, []impl.Put{{Cell: 0, Num: 5}}) || s.Clock != 1 {
		t.Errorf("%+v", s)
	}
	if x := s.Tasks[1]; x.Pc != 1 || x.Stage != impl.StageNone || x.Regs[0] != 5 {
		t.Errorf("%+v", x)
	}
}

func TestAsManyTasksAsThereMayBe(t *testing.T) {
	texts := []string{
		"cells 0\nbody\nfork 1 1\nfork 1 1\nfork 1 1\nbody\ntry r=A s=1 r+s A=r\n",
		"cells 0\nbody\nfork 1 1\nbody\nfork 2 2\ntry r=A\nbody\ntry r=A s=1 r+s A=r\n",
		"cells 0\nbody\nfork 1 1\nfork 1\nbody\nfork 2\nbody\ntry r=A s=1 r+s A=r\n",
	}
	for i, adds := range []int{6, 4, 3} {
		p := mustRead(t, texts[i])
		s := mustRest(t, p, mustNew(t, p), 2000)
		if len(s.Tasks) != impl.ProgTasks || !impl.SysOver(p, s) || !judgedSysOk(t, p, s) {
			t.Fatalf("%q: %+v", texts[i], s)
		}
		listIs(t, "ways", impl.SysWays(s), repeated(impl.TaskEnded, impl.ProgTasks)...)
		listIs(t, "all were added", impl.SysNums(s), adds)
	}
}

// A system with all its tasks whose first one comes to a fork is none that a program comes to, but it is ok; the step is taken, and what is behind it is not ok.
func TestMoreTasksThanThereMayBe(t *testing.T) {
	p, s := begun(t, "cells\nbody\nfork 1\nbody\n", 0, 1, 0)
	for len(s.Tasks) < impl.ProgTasks {
		s.Tasks = append(s.Tasks, copiedSys(s).Tasks[1])
	}
	s.Tasks[0].Pc = 0
	if !judgedSysOk(t, p, s) {
		t.Fatalf("%+v", s)
	}
	judgedSteps(t, p, s)
	q := mustStep(t, p, s, 0)
	if len(q.Tasks) != impl.ProgTasks+1 {
		t.Errorf("%+v", q)
	}
	refusedSys(t, p, q)
	judgedRun(t, p, s, []int{0, 7, 0, 0})
	judgedRest(t, p, s, 100)
}

func TestStepsOfNobody(t *testing.T) {
	p, systems := okSystems(t)
	for word, s := range systems {
		ready := impl.SysReady(p, s)
		for _, task := range []int{-1, -2, math.MinInt, len(s.Tasks), len(s.Tasks) + 1, 7, math.MaxInt} {
			if q, ok := impl.SysStep(p, s, task); ok || !isNothing(q) {
				t.Errorf("%s: %d: %+v", word, task, q)
			}
			sysIs(t, word, mustRun(t, p, s, task, task), s)
		}
		for task := range s.Tasks {
			if slices.Contains(ready, task) {
				continue
			}
			if q, ok := impl.SysStep(p, s, task); ok || !isNothing(q) {
				t.Errorf("%s: %d is not ready: %+v", word, task, q)
			}
			sysIs(t, word, mustRun(t, p, s, task), s)
		}
	}
}

// What is told of a system alone is told of any, ok or not: a place that is no task's holds nothing.
func TestListsOfSystemsThatAreNotOk(t *testing.T) {
	for _, list := range [][]int{impl.SysNums(impl.Sys{}), impl.SysWays(impl.Sys{}), impl.SysHeld(impl.Sys{}), impl.SysAwait(impl.Sys{})} {
		listIs(t, "nothing", list)
	}
	s := impl.Sys{Clock: -5}
	for i, n := range strange {
		s.Cells = append(s.Cells, impl.Cell{Num: n, Time: -n, Lock: i%5 - 2})
		s.Tasks = append(s.Tasks, impl.Task{Way: n, Stage: i % 2, When: i - 8})
	}
	listIs(t, "numbers", impl.SysNums(s), strange...)
	listIs(t, "ways", impl.SysWays(s), strange...)
	listIs(t, "held", impl.SysHeld(s), 2, 3, 4, 7, 8, 9, 12, 13)
	listIs(t, "awaits", impl.SysAwait(s))
	s = impl.Sys{Clock: 3, Tasks: make([]impl.Task, 9), Cells: []impl.Cell{{Lock: 8}, {Lock: 9}, {Lock: -1}, {Lock: -2}, {Lock: math.MinInt}, {Lock: math.MaxInt}, {Lock: 0}}}
	listIs(t, "held", impl.SysHeld(s), 0, 6)
	for i := range s.Tasks {
		s.Tasks[i].When = i
	}
	listIs(t, "awaits", impl.SysAwait(s), 4, 5, 6, 7, 8)
	s.Tasks[4].Way, s.Tasks[5].Way, s.Tasks[6].Stage, s.Tasks[7].Stage = impl.TaskWaits, impl.TaskOff, impl.StageDeeds, -1
	s.Tasks[0].When, s.Tasks[1].When = math.MaxInt, math.MinInt
	listIs(t, "awaits", impl.SysAwait(s), 0, 8)
	s.Clock = math.MinInt
	listIs(t, "awaits", impl.SysAwait(s), 0, 2, 3, 8)
	s.Clock = math.MaxInt
	listIs(t, "awaits", impl.SysAwait(s))
}
