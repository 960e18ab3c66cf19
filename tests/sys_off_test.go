package tests

import (
	"slices"
	"testing"

	"loop.example/equerry/impl"
)

// Tasks that are called off, that wait for a change, and that begin again, one by one.

// writerText is a change of three cells that reads one, beside a task that fails.
const writerText = "cells 1 2 3\nbody\nfork 1 2\nbody\ntry r=A s=9 A=s C=s B=r\nbody\nfail\n"

// writer is that program behind so many steps of the change, with the other task failed, and what is behind the calling off.
func writer(t *testing.T, steps int) (impl.Prog, impl.Sys, impl.Sys) {
	t.Helper()
	p, s := begun(t, writerText, append([]int{0, 2}, repeated(1, steps)...)...)
	return p, s, mustStep(t, p, s, 0)
}

// The change of writerText is at these stages behind so many steps.
const (
	writerDeeds = 1
	writerLocks = writerDeeds + 6
	writerTime  = writerLocks + 3
	writerCheck = writerTime + 1
	writerWrite = writerCheck + 2
	writerEnded = writerWrite + 3
)

func TestCalledOffWhileItWrites(t *testing.T) {
	for still := 3; still > 0; still-- {
		p, s, off := writer(t, writerEnded-still)
		x := s.Tasks[1]
		if x.Stage != impl.StageWrite || x.At != 3-still || len(impl.SysHeld(s)) != still {
			t.Fatalf("the test itself is wrong: %+v", s)
		}
		want := copiedSys(s)
		want.Cells = []impl.Cell{free(9, 1), free(1, 1), free(9, 1)}
		want.Tasks[0].Way = impl.TaskFailed
		want.Tasks[1] = impl.Task{Body: 1, Pc: 1, Regs: []int{1, 9, 0}, Way: impl.TaskOff, Old: []int{0, 0, 0}}
		want.Log = []impl.Entry{{Task: 1, Act: 0, When: 1, Reads: []impl.Put{{Cell: 0, Num: 1}}, Puts: []impl.Put{{Cell: 0, Num: 9}, {Cell: 1, Num: 1}, {Cell: 2, Num: 9}}}}
		sysIs(t, "called off", off, want)
		if !impl.SysOver(p, off) || !judgedSysOk(t, p, off) {
			t.Errorf("%+v", off)
		}
	}
}

// Other changes may have taken later times meanwhile: what is written has the time that was taken for it.
func TestCalledOffWhileItWritesWithItsOwnTime(t *testing.T) {
	p, s := begun(t, "cells 1 2 3\nbody\nfork 1 2\nbody\ntry s=9 A=s B=s\nbody\ntry C=r\nfail\n", 0)
	s = mustRun(t, p, s, repeated(1, 10)...)
	if s.Tasks[1].Stage != impl.StageWrite || s.Tasks[1].At != 1 {
		t.Fatalf("the test itself is wrong: %+v", s)
	}
	s = mustRun(t, p, s, append(repeated(2, 8), 0)...)
	if s.Clock != 2 || s.Cells[1] != free(9, 1) || s.Cells[2] != free(0, 2) || len(s.Log) != 2 || s.Log[1].When != 1 || s.Log[1].Task != 1 {
		t.Errorf("%+v", s)
	}
	listIs(t, "ways", impl.SysWays(s), 3, 4, 3)
}

func TestCalledOffAtEachOtherStage(t *testing.T) {
	stages := map[int]int{}
	for steps := range writerWrite {
		p, s, off := writer(t, steps)
		x := s.Tasks[1]
		stages[x.Stage]++
		want := copiedSys(s)
		want.Cells = []impl.Cell{free(1, 0), free(2, 0), free(3, 0)}
		want.Tasks[0].Way = impl.TaskFailed
		want.Tasks[1] = impl.Task{Body: 1, Pc: 0, Regs: []int{0, 0, 0}, Way: impl.TaskOff, Old: []int{0, 0, 0}, Since: x.Since, From: x.From}
		sysIs(t, "called off", off, want)
		if !impl.SysOver(p, off) || !judgedSysOk(t, p, off) || len(off.Log) != 0 || off.Clock != s.Clock {
			t.Errorf("%d steps: %+v", steps, off)
		}
	}
	for stage, n := range []int{1, 6, 3, 1, 2} {
		if stages[stage] != n {
			t.Errorf("the test itself is wrong: %v", stages)
		}
	}
	// Behind its last act it has not ended yet, and is called off as it is.
	_, s, off := writer(t, writerEnded)
	want := copiedSys(s)
	want.Tasks[0].Way, want.Tasks[1].Way = impl.TaskFailed, impl.TaskOff
	sysIs(t, "called off", off, want)
	// Who has ended stays.
	_, s, off = writer(t, writerEnded+1)
	want = copiedSys(s)
	want.Tasks[0].Way = impl.TaskFailed
	sysIs(t, "ended", off, want)
	if off.Tasks[1].Way != impl.TaskEnded {
		t.Errorf("%+v", off)
	}
}

// Registers are those ahead of the change, not 0, and Since and From those of it.
func TestCalledOffWithRegistersOfThen(t *testing.T) {
	text := "cells 1 2\nbody\nfork 1 2\nbody\ntry r=7 A=r\ntry r=B s=A t=5 B=t\nbody\nfail\n"
	for _, steps := range []int{1, 2, 3, 4, 5, 6, 7, 8, 9, 10} {
		p, s := begun(t, text, append([]int{0, 2}, repeated(1, 8+steps)...)...)
		x := s.Tasks[1]
		if x.Pc != 1 || x.Stage == impl.StageNone || x.Since != 1 || x.From != 1 {
			t.Fatalf("the test itself is wrong: %+v", s)
		}
		off := mustStep(t, p, s, 0)
		want := copiedSys(s)
		want.Cells = []impl.Cell{free(7, 1), free(2, 0)}
		want.Tasks[0].Way = impl.TaskFailed
		want.Tasks[1] = impl.Task{Body: 1, Pc: 1, Regs: []int{7, 0, 0}, Way: impl.TaskOff, Old: []int{7, 0, 0}, Since: 1, From: 1}
		sysIs(t, "called off", off, want)
	}
}

// Who waits for a change is called off with the time for which it waits.
func TestCalledOffWhileItWaitsForAChange(t *testing.T) {
	p, s := begun(t, "cells 0\nbody\nfork 1 2\nbody\ntry r=A r?\nbody\nfail\n", 0, 1, 1, 1, 2)
	listIs(t, "waits", impl.SysAwait(s), 1)
	off := mustStep(t, p, s, 0)
	want := copiedSys(s)
	want.Tasks[0].Way, want.Tasks[1].Way = impl.TaskFailed, impl.TaskOff
	sysIs(t, "called off", off, want)
	listIs(t, "waits no more", impl.SysAwait(off))
	if off.Tasks[1].When != 1 || !judgedSysOk(t, p, off) {
		t.Errorf("%+v", off)
	}
}

// Task 1 waits for tasks 3 and 4, of which one has written a cell of two, and the other one has begun.
func TestCalledOffWhileItWaitsForItsTasks(t *testing.T) {
	text := "cells 1 2 3\nbody\nfork 1 2\nbody\nfork 3 3\nbody\ntry r=A\nfail\nbody\ntry r=8 A=r B=r\n"
	p, s := begun(t, text, slices.Concat([]int{0, 1}, repeated(3, 10), []int{4, 4, 2, 2, 2, 2})...)
	if s.Tasks[3].Stage != impl.StageWrite || s.Tasks[3].At != 1 || s.Tasks[4].Stage != impl.StageDeeds || s.Tasks[4].Regs[0] != 8 {
		t.Fatalf("the test itself is wrong: %+v", s)
	}
	listIs(t, "ways", impl.SysWays(s), 1, 1, 3, 0, 0)
	listIs(t, "numbers", impl.SysNums(s), 8, 2, 3)
	s = mustStep(t, p, s, 0)
	listIs(t, "ways", impl.SysWays(s), 3, 4, 3, 4, 4)
	listIs(t, "numbers", impl.SysNums(s), 8, 8, 3)
	listIs(t, "held", impl.SysHeld(s))
	if !judgedSysOk(t, p, s) || !impl.SysOver(p, s) || len(s.Log) != 2 || s.Log[1].Task != 3 {
		t.Errorf("%+v", s)
	}
	if x := s.Tasks[4]; x.Pc != 0 || x.Stage != impl.StageNone || x.Regs[0] != 0 {
		t.Errorf("%+v", x)
	}
	if x := s.Tasks[1]; x.Pc != 0 {
		t.Errorf("%+v", x)
	}
}

// Those that are called off are so in order, and each behind all of its own: so changes are ended in this order, whatever their times.
func TestCalledOffInOrder(t *testing.T) {
	text := "cells 1 2 3\nbody\nfork 1 2\nbody\nfork 2 3\nbody\ntry r=8 A=r\nbody\ntry r=7 B=r\n"
	p, s := begun(t, text, 0, 1)
	if len(s.Tasks) != 5 {
		t.Fatalf("%+v", s)
	}
	// Task 4 takes the time 1, task 3 the time 2; both are to write.
	s = mustRun(t, p, s, append(repeated(4, 7), repeated(3, 7)...)...)
	if s.Tasks[3].Stage != impl.StageWrite || s.Tasks[4].Stage != impl.StageWrite || s.Tasks[4].When != 1 || s.Tasks[3].When != 2 {
		t.Fatalf("the test itself is wrong: %+v", s)
	}
	s.Tasks[2].Way = impl.TaskFailed
	s = mustStep(t, p, s, 0)
	listIs(t, "ways", impl.SysWays(s), 3, 4, 3, 4, 4)
	listIs(t, "numbers", impl.SysNums(s), 8, 7, 3)
	if len(s.Log) != 2 || s.Log[0].Task != 3 || s.Log[0].When != 2 || s.Log[1].Task != 4 || s.Log[1].When != 1 || !judgedSysOk(t, p, s) {
		t.Errorf("%+v", s.Log)
	}
}

// Task 1 writes, and so does task 3, which task 2 waits for.
func TestCalledOffBehindAllOfItsOwn(t *testing.T) {
	p, s := begun(t, "cells 1 2 3\nbody\nfork 1 2\nbody\ntry A=r\nfail\nbody\nfork 3\ntry B=r\nbody\ntry C=r\n", 0, 2)
	s = mustRun(t, p, s, append(repeated(1, 6), repeated(3, 6)...)...)
	if s.Tasks[1].Stage != impl.StageWrite || s.Tasks[3].Stage != impl.StageWrite {
		t.Fatalf("the test itself is wrong: %+v", s)
	}
	// One more that has failed, so that task 0 calls off task 1, too.
	s.Tasks = append(s.Tasks, impl.Task{Body: 3, Regs: []int{0, 0, 0}, Old: []int{0, 0, 0}, Way: impl.TaskFailed})
	s = mustStep(t, p, s, 0)
	listIs(t, "ways", impl.SysWays(s), 3, 4, 4, 4, 3)
	listIs(t, "numbers", impl.SysNums(s), 0, 2, 0)
	if len(s.Log) != 2 || s.Log[0].Task != 1 || s.Log[1].Task != 3 {
		t.Errorf("%+v", s.Log)
	}
}

// Who waits fails as soon as one has, though others have ended, and only in its own turn.
func TestWhoWaitsFailsIfOneHas(t *testing.T) {
	p, s := begun(t, "cells\nbody\nfork 1 2\nfork 3\nbody\nfail\nbody\nbody\n", 0, 2)
	listIs(t, "ready", impl.SysReady(p, s), 1)
	s = mustStep(t, p, s, 1)
	listIs(t, "ready", impl.SysReady(p, s), 0)
	listIs(t, "ways", impl.SysWays(s), 1, 3, 2)
	s = mustStep(t, p, s, 0)
	listIs(t, "ways", impl.SysWays(s), 3, 3, 2)
	if s.Tasks[0].Pc != 0 || len(s.Tasks) != 3 {
		t.Errorf("%+v", s)
	}
	// Behind a fork whose tasks have ended comes the next one, whose tasks alone are waited for.
	p, s = begun(t, "cells\nbody\nfork 1\nfork 2\nbody\nbody\nfail\n", 0, 1, 0, 0)
	listIs(t, "ready", impl.SysReady(p, s), 2)
	s = mustRun(t, p, s, 2, 0)
	listIs(t, "ways", impl.SysWays(s), 3, 2, 3)
	if s.Tasks[0].Pc != 1 {
		t.Errorf("%+v", s)
	}
}

// A task that fails under one that waits does not call off those beside that one till the one above takes its turn.
func TestFailingGoesUpStepByStep(t *testing.T) {
	p, s := begun(t, "cells\nbody\nfork 1 3\nbody\nfork 2\nbody\nfail\nbody\ntry\ntry\n", 0, 1, 3)
	listIs(t, "ready", impl.SysReady(p, s), 1, 2)
	s = mustStep(t, p, s, 1)
	listIs(t, "ways", impl.SysWays(s), 1, 3, 0, 3)
	s = mustRun(t, p, s, 2, 2, 0)
	listIs(t, "ways", impl.SysWays(s), 3, 3, 4, 3)
	if len(s.Log) != 1 {
		t.Errorf("%+v", s.Log)
	}
}

// What must be there is put by the other task: then this one goes on, and reads it.
func TestWhoWaitsForAChangeGoesOnWhenItIsPut(t *testing.T) {
	p, s := begun(t, "cells 0 0\nbody\nfork 1 2\nbody\ntry r=5\ntry s=A s? B=s\nbody\ntry r=9 A=r\n", 0, 1, 1, 1)
	s = mustRun(t, p, s, 1, 1, 1)
	x := impl.Task{Body: 1, Pc: 1, Regs: []int{5, 0, 0}, Old: []int{5, 0, 0}, When: 1, From: 1}
	sysIs(t, "it waits", impl.Sys{Tasks: s.Tasks[1:2]}, impl.Sys{Tasks: []impl.Task{x}})
	listIs(t, "waits", impl.SysAwait(s), 1)
	// Up to the time, nothing lets it go on.
	for range 6 {
		listIs(t, "ready", impl.SysReady(p, s), 2)
		sysIs(t, "its turns go by", mustRun(t, p, s, 1, 1), s)
		s = mustStep(t, p, s, 2)
	}
	listIs(t, "ready", impl.SysReady(p, s), 1, 2)
	listIs(t, "waits no more", impl.SysAwait(s))
	// Cell A is held still, so it begins again, without waiting for another time.
	q := mustRun(t, p, s, 1, 1)
	if x := q.Tasks[1]; x.Stage != impl.StageNone || x.When != 0 || x.Since != 1 {
		t.Errorf("%+v", x)
	}
	listIs(t, "ready", impl.SysReady(p, q), 1, 2)
	s = mustRest(t, p, q, 100)
	listIs(t, "numbers", impl.SysNums(s), 9, 9)
	listIs(t, "ways", impl.SysWays(s), 2, 2, 2)
}

// A change of something else lets it look again, and wait again, for the next one.
func TestWhoWaitsForAChangeWaitsAgain(t *testing.T) {
	p, s := begun(t, "cells 0 0\nbody\nfork 1 2\nbody\ntry s=A s?\nbody\ntry r=9 B=r\ntry A=r\n", 0, 1, 1, 1)
	s = mustRun(t, p, s, repeated(2, 8)...)
	if s.Clock != 1 || s.Tasks[2].Pc != 1 {
		t.Fatalf("the test itself is wrong: %+v", s)
	}
	listIs(t, "ready", impl.SysReady(p, s), 1, 2)
	s = mustRun(t, p, s, 1, 1, 1)
	listIs(t, "waits", impl.SysAwait(s), 1)
	if s.Tasks[1].When != 2 {
		t.Errorf("%+v", s.Tasks[1])
	}
	s = mustRest(t, p, s, 100)
	listIs(t, "ways", impl.SysWays(s), 2, 2, 2)
}

// If a later time was there already it does not wait at all.
func TestWhatMustBeThereMayBeThereAlready(t *testing.T) {
	p, s := begun(t, "cells 0\nbody\nfork 1 2\nbody\ntry s=A s?\nbody\ntry r=9 A=r\n", 0, 1, 1)
	s = mustRun(t, p, s, repeated(2, 8)...)
	s = mustStep(t, p, s, 1)
	if x := s.Tasks[1]; x.When != 1 || x.Stage != impl.StageNone || s.Clock != 1 {
		t.Fatalf("%+v", s)
	}
	listIs(t, "waits for nothing", impl.SysAwait(s))
	s = mustRun(t, p, s, 1, 1, 1, 1)
	if x := s.Tasks[1]; x.Pc != 1 || x.Regs[1] != 9 || x.When != 0 {
		t.Errorf("%+v", s)
	}
}

// Nobody puts it: it waits for ever, and so does who waits for it.
func TestWhoWaitsForAChangeForEver(t *testing.T) {
	for _, text := range []string{
		"cells 0\nbody\nfork 1 2\nbody\ntry s=A s?\nbody\n",
		"cells 0\nbody\nfork 1 2\nbody\ntry s=A s?\nbody\ntry A=r\ntry A=r\n",
		"cells 3\nbody\nfork 1 2\nbody\ntry s?\nbody\ntry s=A\n",
	} {
		p := mustRead(t, text)
		s := mustRest(t, p, mustNew(t, p), 2000)
		listIs(t, "ways", impl.SysWays(s), impl.TaskWaits, impl.TaskRuns, impl.TaskEnded)
		listIs(t, "waits", impl.SysAwait(s), 1)
		if !impl.SysOver(p, s) || s.Tasks[1].When != s.Clock+1 || len(impl.SysHeld(s)) != 0 {
			t.Errorf("%q: %+v", text, s)
		}
		sysIs(t, "more turns", mustRun(t, p, s, 1, 0, 1, 2, 1), s)
	}
}

// againAs says so, if a task has not begun again just as the document says, or anything else has changed.
func againAs(t *testing.T, what string, p impl.Prog, s impl.Sys, task, when int) {
	t.Helper()
	want := copiedSys(s)
	x := &want.Tasks[task]
	if x.Stage == impl.StageNone || slices.Equal(x.Regs, x.Old) {
		t.Fatalf("the test itself is wrong: %s: %+v", what, s)
	}
	for cell := range want.Cells {
		if want.Cells[cell].Lock == task {
			want.Cells[cell].Lock = -1
		}
	}
	x.Regs, x.Reads, x.Puts, x.When, x.Stage, x.At = x.Old, nil, nil, when, impl.StageNone, 0
	sysIs(t, what, mustStep(t, p, s, task), want)
}

// Task 1 has 4 in r ahead of its change, and sets it; task 2 puts to A.
const againText = "cells 1 2 3\nbody\nfork 1 2\nbody\ntry r=4\ntry r=B s=A C=r\nbody\ntry A=s\n"

func TestBeginsAgainAtACellThatIsHeldWhenItIsLoaded(t *testing.T) {
	p, s := begun(t, againText, 0, 1, 1, 1, 1, 1, 2, 2, 2, 2)
	listIs(t, "held", impl.SysHeld(s), 0)
	againAs(t, "held by 2", p, s, 1, 0)
}

func TestBeginsAgainAtACellThatIsNewerWhenItIsLoaded(t *testing.T) {
	p, s := begun(t, againText, 0, 1, 1, 1, 1, 1, 2, 2, 2, 2, 2, 2, 2)
	if s.Cells[0] != free(0, 1) || s.Tasks[1].Since != 0 {
		t.Fatalf("the test itself is wrong: %+v", s)
	}
	againAs(t, "newer", p, s, 1, 0)
	// As new as Since is not newer.
	s = mustRun(t, p, s, 1, 1, 1, 1)
	if x := s.Tasks[1]; x.Since != 1 || x.At != 2 || len(x.Reads) != 2 {
		t.Errorf("%+v", x)
	}
}

func TestBeginsAgainAtACellThatIsHeldInStageLocks(t *testing.T) {
	// The first cell, then the second one, when it holds the first one already.
	p, s := begun(t, "cells 1 2\nbody\nfork 1 2\nbody\ntry r=4 A=r B=r\nbody\ntry r=3 A=r\n", 0, 1, 1, 1, 1, 1, 2, 2, 2, 2, 2)
	if s.Tasks[1].Stage != impl.StageLocks || s.Tasks[1].At != 0 {
		t.Fatalf("the test itself is wrong: %+v", s)
	}
	againAs(t, "the first", p, s, 1, 0)
	p, s = begun(t, "cells 1 2\nbody\nfork 1 2\nbody\ntry r=4 A=r B=r\nbody\ntry r=3 B=r\n", 0, 1, 1, 1, 1, 1, 1, 2, 2, 2, 2, 2)
	listIs(t, "held", impl.SysHeld(s), 0, 1)
	if s.Tasks[1].Stage != impl.StageLocks || s.Tasks[1].At != 1 {
		t.Fatalf("the test itself is wrong: %+v", s)
	}
	againAs(t, "the second", p, s, 1, 0)
	// A cell that is newer, but held by nobody, is held then: who only stores to it needs not see it.
	p, s = begun(t, "cells 1 2\nbody\nfork 1 2\nbody\ntry r=4 A=r\nbody\ntry r=3 A=r\n", 0, 1, 1, 1, 1)
	s = mustRun(t, p, s, repeated(2, 8)...)
	s = mustRest(t, p, mustStep(t, p, s, 1), 100)
	if s.Cells[0] != free(4, 2) || s.Tasks[1].Pc != 1 {
		t.Errorf("%+v", s)
	}
}

func TestBeginsAgainAtACellThatIsBlindInStageCheck(t *testing.T) {
	text := "cells 1 2 3\nbody\nfork 1 2\nbody\ntry r=A s=B C=r\nbody\ntry t=5 B=t\n"
	checks := append([]int{0}, repeated(1, 7)...)
	// Task 2 holds B, or has written it, when task 1 comes to it.
	for _, steps := range []int{5, 6, 7, 8} {
		p, s := begun(t, text, slices.Concat(checks, []int{1}, repeated(2, steps))...)
		if x := s.Tasks[1]; x.Stage != impl.StageCheck || x.At != 1 || x.When != 1 || s.Cells[2].Lock != 1 {
			t.Fatalf("the test itself is wrong: %+v", s)
		}
		if c := s.Cells[1]; (c.Lock == 2) != (steps < 8) || (c.Time == 2) != (steps == 8) {
			t.Fatalf("the test itself is wrong: %+v", s)
		}
		againAs(t, "blind", p, s, 1, 0)
		if last := mustRest(t, p, s, 200); last.Log[len(last.Log)-1].Task != 1 || !slices.Equal(impl.SysNums(last), []int{1, 5, 1}) {
			t.Errorf("%+v", last)
		}
	}
	// Behind its look at B it goes on, though that is held then, and written.
	p, s := begun(t, text, slices.Concat(checks, []int{1, 1}, repeated(2, 8), []int{1, 1, 1})...)
	if s.Tasks[1].Pc != 1 || s.Log[1].When != 1 || s.Log[0].When != 2 || !judgedSysOk(t, p, s) {
		t.Errorf("%+v", s)
	}
	// What it holds itself is not blind.
	p, s = begun(t, "cells 1\nbody\ntry r=A r+r A=r\n", repeated(0, 10)...)
	if s.Tasks[0].Pc != 1 || s.Cells[0] != free(2, 1) || !judgedSysOk(t, p, s) {
		t.Errorf("%+v", s)
	}
}

func TestBeginsAgainAtWhatMustBeThere(t *testing.T) {
	p, s := begun(t, "cells 1 2\nbody\ntry r=4 B=r\ntry r=9 s=A A=r t? A=s\n", repeated(0, 8+4)...)
	if x := s.Tasks[0]; x.At != 3 || x.Since != 1 || len(x.Puts) != 1 || len(x.Reads) != 1 {
		t.Fatalf("the test itself is wrong: %+v", s)
	}
	againAs(t, "nothing in t", p, s, 0, 2)
	// With something in it, it goes on.
	s = copiedSys(s)
	s.Tasks[0].Regs[2] = 1
	if x := mustStep(t, p, s, 0).Tasks[0]; x.At != 4 || x.Stage != impl.StageDeeds || x.When != 0 {
		t.Errorf("%+v", x)
	}
}

func TestFailsIfThereIsSomething(t *testing.T) {
	for reg, name := range []string{"r", "s", "t"} {
		for n := range impl.ProgNums {
			p, s := begun(t, "cells\nbody\nfailif "+name+"\n")
			s.Tasks[0].Regs = []int{8, 8, 8}
			s.Tasks[0].Regs[reg] = n
			x := mustStep(t, p, s, 0).Tasks[0]
			if n == 0 && (x.Way != impl.TaskRuns || x.Pc != 1) || n != 0 && (x.Way != impl.TaskFailed || x.Pc != 0) {
				t.Fatalf("%s, %d: %+v", name, n, x)
			}
		}
	}
}
