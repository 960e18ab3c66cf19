package tests

import (
	"math"
	"math/rand/v2"
	"slices"
	"testing"

	"loop.example/equerry/impl"
)

// All functions of chapter 22, of programs of each kind, against the tests' own reading.
func TestProgramsOneByOneAreAsTheDocumentSays(t *testing.T) {
	r := rand.New(rand.NewPCG(95, 96))
	failed, not, stuck, bad := 0, 0, 0, 0
	for _, p := range oneProgs(4000) {
		fails, ends := judgedOne(t, p)
		switch {
		case !ends:
			stuck++
		case fails:
			failed++
		default:
			not++
		}
		if q := bent(r, p); !wantOk(q) {
			bad++
			oneIsNot(t, q)
		} else {
			judgedOne(t, q)
		}
	}
	enough(t, 1000, failed, not, stuck, bad)
}

// Bodies that fail, wait for ever or go on at each place, and that begin such: what was done, and in which order, can be told from A.
func TestAllMarkedProgramsOneByOne(t *testing.T) {
	ends := map[[2]bool]int{}
	for _, p := range markedProgs() {
		failed, ok := judgedOne(t, p)
		ends[[2]bool{failed, ok}]++
	}
	enough(t, 300, ends[[2]bool{true, true}], ends[[2]bool{false, true}], ends[[2]bool{false, false}])
}

func TestSystemsOneByOneAreAsTheDocumentSays(t *testing.T) {
	r := rand.New(rand.NewPCG(97, 98))
	for i, p := range append(oneProgs(200), markedProgs()...) {
		if i < 600 || i%20 == 0 {
			judgedOneSys(t, p, mustNew(t, p), 400)
		}
	}
	steps := 0
	for _, x := range someTreeSteps(60) {
		steps += judgedOneSys(t, x.p, x.after, r.IntN(60))
		judgedOneSys(t, x.p, x.after, 1)
		judgedOneSys(t, x.p, bentSys(r, x.after), r.IntN(60))
	}
	enough(t, 10000, steps)
}

// A program of one body without acts.
func TestOneBodyWithoutActs(t *testing.T) {
	oneIs(t, "cells\nbody\n", false)
	oneIs(t, "cells 4\nbody\n", false, 4)
	oneIs(t, "cells 0 99 7\nbody\n", false, 0, 99, 7)
	// What is behind is begun by nobody.
	oneIs(t, "cells 4\nbody\nbody\nfail\nbody\ntry r? A=r\n", false, 4)
	p, s := begun(t, "cells 4\nbody\n")
	want := copiedSys(s)
	want.Tasks[0].Way = impl.TaskEnded
	sysIs(t, "no step", mustOne(t, p, s, 0), s)
	for _, most := range []int{1, 2, 2000} {
		sysIs(t, "ended", mustOne(t, p, s, most), want)
		sysIs(t, "it is over", mustOne(t, p, want, most), want)
	}
}

// Registers are 0 at first, stay from act to act, and are each task's own.
func TestRegistersOneByOne(t *testing.T) {
	oneIs(t, "cells 1 2 3\nbody\ntry A=r B=s C=t\n", false, 0, 0, 0)
	oneIs(t, "cells 1\nbody\ntry r=5\ntry r+r\ntry A=r\n", false, 10)
	oneIs(t, "cells 1\nbody\ntry r=60 s=70\ntry r+s A=r\n", false, 30)
	// A body that is begun has none of those above, nor have those above any of its.
	oneIs(t, "cells 1 2\nbody\ntry r=5\nfork 1\ntry A=r\nbody\ntry B=r r=9\n", false, 5, 0)
	// One that is begun again has none of the first time, nor has one beside it.
	oneIs(t, "cells 1 2\nbody\nfork 1 1\nfork 1\nbody\ntry A=r r=9 B=r\n", false, 0, 9)
	oneIs(t, "cells 1 2\nbody\nfork 1 2\nbody\ntry r=9 A=r\nbody\ntry B=r\n", false, 9, 0)
	// What one has put the next one reads, those that were begun among them.
	oneIs(t, "cells 1 0\nbody\ntry r=3 A=r\nfork 1 2\ntry r=A s=B r+s A=r\nbody\ntry r=A r+r A=r\nbody\ntry r=A B=r\n", false, 12, 6)
}

// Of two of which the first fails, the second is not begun at all, nor is any act behind done; each begins others.
func TestTheFirstOfTwoFails(t *testing.T) {
	text := "cells 1 2 0\nbody\ntry r=40 A=r\nfork 1 2\ntry r=50 A=r\nbody\nfork 3 3\ntry r=60 B=r\nfail\ntry r=70 B=r\nbody\nfork 3\ntry r=80 A=r\nbody\ntry r=C s=1 r+s C=r\n"
	oneIs(t, text, true, 40, 60, 2)
	p := mustRead(t, text)
	s := mustOne(t, p, mustNew(t, p), 2000)
	listIs(t, "numbers", impl.SysNums(s), 40, 60, 2)
	// Task 2 was begun together with task 1, and has taken no step.
	listIs(t, "ways", impl.SysWays(s), impl.TaskFailed, impl.TaskFailed, impl.TaskOff, impl.TaskEnded, impl.TaskEnded)
	if x := s.Tasks[2]; !sameTask(x, impl.Task{Body: 2, Regs: []int{0, 0, 0}, Old: []int{0, 0, 0}, Way: impl.TaskOff}) {
		t.Errorf("%+v", x)
	}
	listIs(t, "entries", tasksOf(s.Log), 0, 3, 4, 1)
	if !impl.SysOver(p, s) || !judgedSysOk(t, p, s) {
		t.Errorf("%+v", s)
	}
}

// Of two of which the second fails, what the first one did, with those that it began, stays.
func TestTheSecondOfTwoFails(t *testing.T) {
	text := "cells 1 2 0\nbody\nfork 1 2\ntry r=50 A=r\nbody\nfork 3 3\ntry r=60 B=r\nbody\nfork 3\ntry r=80 A=r\nfail\nbody\ntry r=C s=1 r+s C=r\n"
	oneIs(t, text, true, 80, 60, 3)
	p := mustRead(t, text)
	s := mustOne(t, p, mustNew(t, p), 2000)
	listIs(t, "numbers", impl.SysNums(s), 80, 60, 3)
	listIs(t, "ways", impl.SysWays(s), impl.TaskFailed, impl.TaskEnded, impl.TaskFailed, impl.TaskEnded, impl.TaskEnded, impl.TaskEnded)
	listIs(t, "entries", tasksOf(s.Log), 3, 4, 1, 5, 2)
	// The other way round neither is done but the one that fails.
	oneIs(t, "cells 1 2 0\nbody\nfork 2 1\ntry r=50 A=r\nbody\nfork 3 3\ntry r=60 B=r\nbody\nfork 3\ntry r=80 A=r\nfail\nbody\ntry r=C s=1 r+s C=r\n", true, 80, 2, 1)
}

// One that was begun by one that was begun fails: both above fail at once, at whichever place the one stands.
func TestFailingOneByOneGoesUpAtOnce(t *testing.T) {
	oneIs(t, "cells 0\nbody\nfork 1 3\ntry r=1 A=r\nbody\nfork 2\ntry r=2 A=r\nbody\nfail\nbody\ntry r=3 A=r\n", true, 0)
	oneIs(t, "cells 0\nbody\nfork 1 2\ntry r=1 A=r\nbody\nfork 3 2\ntry r=2 A=r\nbody\ntry r=A s=5 r+s A=r\nbody\ntry r=3 A=r\nfail\n", true, 3)
	oneIs(t, "cells 0\nbody\nfork 1\ntry r=1 A=r\nbody\nfork 2\ntry r=2 A=r\nbody\nfork 3\ntry r=4 A=r\nbody\nfail\n", true, 0)
	// Behind a fork that has ended comes one that fails.
	oneIs(t, "cells 0\nbody\nfork 1 1\nfork 2 1\nbody\ntry r=A s=1 r+s A=r\nbody\nfail\n", true, 2)
	oneIs(t, "cells 0\nbody\nfail\nfork 1\nbody\ntry r=1 A=r\n", true, 0)
	// What would be refused is not come to.
	oneIs(t, "cells 0\nbody\nfork 1 2\ntry r?\nbody\ntry r=1 A=r\nfail\nbody\ntry s?\n", true, 1)
}

func TestFailIfOneByOne(t *testing.T) {
	for reg, name := range []string{"r", "s", "t"} {
		for _, n := range []int{0, 1, 50, 99} {
			nums := []int{n, 0, 0}
			set := "try " + name + "=A\nfailif " + name + "\ntry C=" + name + "\n"
			p := mustRead(t, "cells 0 0 7\nbody\n"+set)
			p.Cells[0] = n
			got, failed, ok := impl.OneRun(p)
			if n != 0 {
				nums[2] = 7
			}
			if !ok || failed != (n != 0) || !slices.Equal(got, nums) {
				t.Errorf("%d in register %d: %v, %v, %v", n, reg, got, failed, ok)
			}
			judgedOne(t, p)
		}
	}
	// Only its own register counts, and only what is there when it is come to.
	oneIs(t, "cells 3\nbody\ntry r=1 s=2\nfailif t\ntry r=0 t=9 A=s\nfailif r\n", false, 2)
	oneIs(t, "cells 3\nbody\nfailif r\ntry r=1 A=r\nfailif s\nfailif r\n", true, 1)
	// Of the one above it is another one's register.
	oneIs(t, "cells 3\nbody\ntry r=8\nfork 1\nfailif r\nbody\nfailif r\ntry A=r\n", true, 0)
	// Without anything behind it, too.
	oneIs(t, "cells 3\nbody\nfailif t\n", false, 3)
	oneIs(t, "cells 3\nbody\n", false, 3)
	oneIs(t, "cells 3\nbody\nfail\n", true, 3)
}

// What must be there, and is not, is never waited for one by one, though another one would put it.
func TestAChangeThatWaitsForEverOneByOne(t *testing.T) {
	for _, text := range []string{
		"cells 0\nbody\ntry r=A r?\n",
		"cells 0\nbody\ntry r?\n",
		"cells 5\nbody\ntry r=7 A=r\ntry s?\n",
		"cells 5\nbody\ntry r=50 r+r r?\n",
		"cells 0\nbody\nfork 1 2\nbody\ntry r=A r?\nbody\ntry r=1 A=r\n",
		"cells 0\nbody\nfork 1 2\nfail\nbody\nfork 3\nbody\nfail\nbody\ntry r=A r?\n",
		"cells 0\nbody\nfork 1\ntry r?\nbody\ntry r=3 A=r\n",
	} {
		p := mustRead(t, text)
		oneIsNot(t, p)
		judgedOne(t, p)
	}
	// The other way round it is there.
	oneIs(t, "cells 0\nbody\nfork 2 1\nbody\ntry r=A r?\nbody\ntry r=1 A=r\n", false, 1)
	// It is not come to, or nobody's.
	oneIs(t, "cells 0\nbody\nfail\ntry r?\n", true, 0)
	oneIs(t, "cells 0\nbody\ntry r=4 A=r\nbody\ntry r?\n", false, 4)
	// Alone, and for ever: begun, loaded, and then nobody is ready.
	p, s := begun(t, "cells 0\nbody\ntry r=A r?\n")
	last := mustOne(t, p, s, 2000)
	sysIs(t, "three steps", last, mustRun(t, p, s, 0, 0, 0))
	listIs(t, "awaits", impl.SysAwait(last), 0)
	if !impl.SysOver(p, last) {
		t.Errorf("%+v", last)
	}
	sysIs(t, "more", mustOne(t, p, last, 2000), last)
	// The next one goes on, and fails: so does the one above, and the waiting one is called off.
	p, s = begun(t, "cells 0\nbody\nfork 1 2\nbody\ntry r=A r?\nbody\nfork 3\nfail\nbody\n")
	oneIsNot(t, p)
	last = mustOne(t, p, s, 2000)
	listIs(t, "ways", impl.SysWays(last), impl.TaskFailed, impl.TaskOff, impl.TaskFailed, impl.TaskEnded)
}

// Task 1 is the first that is ready as soon as task 2 has taken a time, and begins again and again, as task 2 holds the cell, and comes to no step any more.
func TestStepsOneByOneNeedNotComeToAnEnd(t *testing.T) {
	p, s := begun(t, "cells 0\nbody\nfork 1 2\nbody\ntry r=A r?\nbody\ntry r=1 A=r\n")
	ahead := slices.Concat([]int{0, 1, 1, 1}, repeated(2, 6))
	at := mustRun(t, p, s, ahead...)
	sysIs(t, "up to there", mustOne(t, p, s, len(ahead)), at)
	listIs(t, "held", impl.SysHeld(at), 0)
	listIs(t, "ready", impl.SysReady(p, at), 1, 2)
	begins := mustRun(t, p, at, 1)
	for _, most := range []int{len(ahead) + 1, 1999, 2000} {
		got := mustOne(t, p, s, most)
		if (most-len(ahead))%2 == 1 {
			sysIs(t, "it begins", got, begins)
			continue
		}
		if x := got.Tasks[1]; x.Stage != impl.StageNone || x.When != 0 || x.Since != 1 || x.Pc != 0 || len(got.Log) != 0 || impl.SysOver(p, got) {
			t.Errorf("%d: %+v", most, got)
		}
		sysIs(t, "it begins again", got, mustRun(t, p, begins, 1))
	}
	for _, most := range []int{0, 1, 9, 10, 11, 500, 1998, 1999, 2000} {
		if n := judgedOneSys(t, p, s, most); n != most {
			t.Errorf("%d steps, not %d", n, most)
		}
	}
}

// So many steps are taken, if there are so many, and no more.
func TestAtMost2000StepsOneByOne(t *testing.T) {
	p := mustRead(t, "cells 5\nbody\nfork 1 1\nfork 1 1\nbody\ntry r=A s=1 r+s A=r\n")
	s := mustNew(t, p)
	_, took, _ := wantOneSys(p, s, 2000)
	last := mustOne(t, p, s, 2000)
	if !impl.SysOver(p, last) || len(took) < 40 {
		t.Fatalf("%v, %+v", took, last)
	}
	listIs(t, "all were added", impl.SysNums(last), 9)
	for most := range len(took) + 1 {
		sysIs(t, "the first steps", mustOne(t, p, s, most), mustRun(t, p, s, took[:most]...))
		if most < len(took) && sameSys(mustOne(t, p, s, most), last) {
			t.Errorf("%d steps are all", most)
		}
	}
	for _, most := range []int{len(took), len(took) + 1, 1999, 2000} {
		sysIs(t, "all steps", mustOne(t, p, s, most), last)
	}
	for _, most := range []int{-1, -2, -2000, 2001, 2002, 100000, math.MinInt, math.MaxInt} {
		for _, x := range []impl.Sys{s, last, mustOne(t, p, s, 20)} {
			oneSysIsNot(t, p, x, most)
		}
	}
}

// The first of TreeWalk is not the first by places: task 2 began its tasks ahead of task 1.
func TestTheFirstOfTheWalkTakesTheStep(t *testing.T) {
	p, s := begun(t, "cells\nbody\nfork 1 1\nbody\nfork 2 2\nbody\ntry\n", 0, 2, 1)
	walkIs(t, s, 0, 1, 5, 6, 2, 3, 4)
	var took []int
	for !impl.SysOver(p, s) {
		q := mustOne(t, p, s, 1)
		for _, task := range impl.SysReady(p, s) {
			if sameSys(q, mustStep(t, p, s, task)) {
				took = append(took, task)
			}
		}
		s = q
	}
	listIs(t, "steps", took, slices.Concat(repeated(5, 3), repeated(6, 3), repeated(1, 2), repeated(3, 3), repeated(4, 3), repeated(2, 2), repeated(0, 2))...)
}

// One that fails is called by the one above at once, ahead of all others that are ready.
func TestOneFailsAmongOthers(t *testing.T) {
	p, s := begun(t, "cells 0 0\nbody\nfork 1 2\nbody\nfork 3 3\nbody\ntry r=4 A=r B=r\nbody\nfail\n", 0, 1)
	// Task 2 has written one of two cells, tasks 3 and 4 have not begun.
	s = mustRun(t, p, s, repeated(2, 9)...)
	s = mustRun(t, p, s, 2)
	if s.Tasks[2].Stage != impl.StageWrite || s.Tasks[2].At != 1 {
		t.Fatalf("the test itself is wrong: %+v", s)
	}
	want := mustRun(t, p, s, 3, 1, 0)
	for most := range 3 {
		sysIs(t, "step by step", mustOne(t, p, s, most), mustRun(t, p, s, []int{3, 1, 0}[:most]...))
	}
	for _, most := range []int{3, 4, 2000} {
		sysIs(t, "all", mustOne(t, p, s, most), want)
	}
	listIs(t, "ways", impl.SysWays(want), impl.TaskFailed, impl.TaskFailed, impl.TaskOff, impl.TaskFailed, impl.TaskOff)
	listIs(t, "numbers", impl.SysNums(want), 4, 4)
}

// A system that is over stays, whatever it is at.
func TestSystemsThatAreOverOneByOne(t *testing.T) {
	over := 0
	for _, x := range overSystems(t) {
		if over++; over%20 != 0 {
			continue
		}
		for _, most := range []int{0, 1, 2000} {
			if got := mustOne(t, x.p, x.after, most); !sameSys(got, x.after) {
				t.Fatalf("%d: %+v, of %+v", most, got, x.after)
			}
		}
	}
	enough(t, 1000, over)
}

func TestSysTimeOneByOne(t *testing.T) {
	p, systems := okSystems(t)
	for word, s := range systems {
		s = copiedSys(s)
		s.Clock = impl.SysTime
		for _, most := range []int{0, 1, 2000} {
			sysIs(t, word, mustOne(t, p, s, most), s)
		}
		// One below it all goes on, till somebody takes the last time.
		s.Clock = impl.SysTime - 1
		judgedOneSys(t, p, s, 2000)
		if last := mustOne(t, p, s, 2000); last.Clock > impl.SysTime || !impl.SysOver(p, last) || !judgedSysOk(t, p, last) {
			t.Errorf("%s: %+v", word, last)
		}
	}
	s := copiedSys(systems["time"])
	s.Clock = impl.SysTime - 1
	sysIs(t, "the last step", mustOne(t, p, s, 2000), mustStep(t, p, s, 1))
	for _, most := range []int{-1, 2001} {
		s.Clock = impl.SysTime
		oneSysIsNot(t, p, s, most)
	}
}

func TestProgramsThatAreNotOkOneByOne(t *testing.T) {
	p, systems := okSystems(t)
	for _, bad := range []impl.Prog{
		{},
		{Cells: p.Cells},
		{Cells: []int{5, 6, 100}, Bodies: p.Bodies},
		{Cells: []int{5, 6, -1}, Bodies: p.Bodies},
		{Cells: []int{5, 6, 7, 8}, Bodies: p.Bodies},
		{Cells: p.Cells, Bodies: append(slices.Clone(p.Bodies), nil)},
		{Bodies: repeated([]impl.Act(nil), 5)},
		{Bodies: [][]impl.Act{{{Kind: impl.ActFork, Kids: []int{0}}}}},
		{Bodies: [][]impl.Act{{{Kind: impl.ActFork, Kids: []int{1}}}}},
		{Bodies: [][]impl.Act{{{Kind: impl.ActFail}, {Kind: 5}}}},
		{Bodies: [][]impl.Act{{{}}}},
		{Bodies: [][]impl.Act{nil, {{Kind: impl.ActFork, Kids: []int{1}}}}},
		{Bodies: [][]impl.Act{{{Kind: impl.ActFail, Reg: 1}}}},
		{Bodies: [][]impl.Act{{{Kind: impl.ActFailIf, Reg: 3}}}},
		{Bodies: [][]impl.Act{{{Kind: impl.ActTry, Deeds: []impl.Deed{load(0, 0)}}}}},
		{Bodies: [][]impl.Act{repeated(impl.Act{Kind: impl.ActFork, Kids: []int{1, 1}}, 4), nil}},
	} {
		if wantOk(bad) {
			t.Fatalf("the test itself is wrong: %v", bad)
		}
		oneIsNot(t, bad)
		for _, s := range systems {
			for _, most := range []int{0, 1, 2000} {
				oneSysIsNot(t, bad, s, most)
			}
		}
		oneSysIsNot(t, bad, impl.Sys{}, 0)
	}
}

// Systems of another program, and such of none.
func TestSystemsOfAnotherProgramOneByOne(t *testing.T) {
	p, systems := okSystems(t)
	for _, text := range []string{"cells\nbody\n", "cells 5 6 7\nbody\n", "cells 5 6\nbody\ntry r=A\nfork 1\nbody\n"} {
		for _, s := range systems {
			for _, most := range []int{0, 1, 2000} {
				oneSysIsNot(t, mustRead(t, text), s, most)
			}
		}
	}
	for _, most := range []int{0, 1, 2000} {
		oneSysIsNot(t, p, impl.Sys{}, most)
	}
	// A system may be another program's as well.
	oneSysIsNot(t, p, mustNew(t, mustRead(t, "cells 1 2\nbody\n")), 1)
	s := mustNew(t, mustRead(t, "cells 1 2 3\nbody\n"))
	judgedOneSys(t, p, s, 2000)
	sysIs(t, "of another one", mustOne(t, p, s, 1), mustStep(t, p, s, 0))
}

// One thing of a system made another one: it is refused just where the document refuses it.
func TestBentSystemsOneByOne(t *testing.T) {
	r := rand.New(rand.NewPCG(99, 100))
	good, bad := 0, 0
	for _, x := range someTreeSteps(20) {
		s := bentSys(r, x.after)
		most := []int{0, 1, 2, r.IntN(30)}[r.IntN(4)]
		judgedOneSys(t, x.p, s, most)
		if len(wantBroken(x.p, s)) > 0 {
			bad++
			oneSysIsNot(t, x.p, s, most)
		} else {
			good++
		}
	}
	enough(t, 1000, good, bad)
}

// A system with all its tasks whose first one comes to a fork is none that a program comes to, but it is ok: steps are taken all the same.
func TestMoreTasksThanThereMayBeOneByOne(t *testing.T) {
	p, s := begun(t, "cells\nbody\nfork 1\nbody\n", 0, 1, 0)
	for len(s.Tasks) < impl.ProgTasks {
		s.Tasks = append(s.Tasks, copiedSys(s).Tasks[1])
	}
	s.Tasks[0].Pc = 0
	for most := range 6 {
		judgedOneSys(t, p, s, most)
	}
	last := mustOne(t, p, s, 2000)
	if len(last.Tasks) != impl.ProgTasks+1 || last.Tasks[0].Way != impl.TaskEnded {
		t.Errorf("%+v", last)
	}
	oneSysIsNot(t, p, last, 0)
}

// seenIs says so, if what a task has read is told to be otherwise.
func seenIs(t *testing.T, want bool, cells []int, log []impl.Entry, tasks ...impl.Task) {
	t.Helper()
	p, s := impl.Prog{Cells: cells}, impl.Sys{Tasks: tasks}
	if got := impl.SeenOk(p, s, log); got != want {
		t.Errorf("%v, not %v: %v, %+v, of %+v", got, want, cells, tasks, log)
	}
	judgedSeen(t, p, s, log)
}

func reader(stage, since int, nums ...int) impl.Task {
	return impl.Task{Stage: stage, Since: since, Reads: puts(nums...)}
}

func TestReadersAreAsTheDocumentSays(t *testing.T) {
	good, bad, none := 0, 0, 0
	for _, x := range someReaders(6000) {
		reads := slices.ContainsFunc(x.s.Tasks, func(x impl.Task) bool { return x.Stage != 0 && len(x.Reads) > 0 })
		switch ok := judgedSeen(t, x.p, x.s, x.log); {
		case !reads:
			none++
		case ok:
			good++
		default:
			bad++
		}
	}
	enough(t, 500, good, bad, none)
	for _, x := range someTreeSteps(30) {
		judgedSeen(t, x.p, x.after, x.after.Log)
		judgedSeen(t, x.p, x.after, nil)
	}
}

// Each stage, and such as are none: only of StageNone nothing is asked, however a task stands.
func TestOnlyThoseWithinAChangeAreAsked(t *testing.T) {
	for _, stage := range []int{-1, 0, 1, 2, 3, 4, 5, 6, math.MinInt, math.MaxInt} {
		for way := -1; way < 6; way++ {
			x := reader(stage, 0, 0, 4)
			x.Way = way
			seenIs(t, stage == 0, []int{3}, nil, x)
			x.Reads[0].Num = 3
			seenIs(t, true, []int{3}, nil, x)
		}
	}
	// Each task is asked, whichever stands where.
	good, bad, none := reader(1, 0, 0, 3), reader(1, 0, 0, 4), reader(0, 0, 0, 4)
	for _, list := range [][]impl.Task{{good}, {good, good}, {none}, {none, good, none}, {}} {
		seenIs(t, true, []int{3}, nil, list...)
		for at := range len(list) + 1 {
			seenIs(t, false, []int{3}, nil, slices.Insert(slices.Clone(list), at, bad)...)
		}
	}
	// Puts are not asked, nor what cells of the system have, nor anything else.
	x := reader(4, 0, 0, 3)
	x.Puts, x.When, x.From, x.Regs, x.At = puts(0, 9), 8, 7, []int{6}, 5
	p := impl.Prog{Cells: []int{3}}
	if !impl.SeenOk(p, impl.Sys{Cells: []impl.Cell{{Num: 9, Time: 9, Lock: 2}}, Clock: -3, Tasks: []impl.Task{x}, Log: []impl.Entry{{Puts: puts(0, 8)}}}, nil) {
		t.Error("something else was asked")
	}
	// Nobody, and nothing.
	seenIs(t, true, nil, nil)
	seenIs(t, true, nil, nil, reader(1, 0))
	if !impl.SeenOk(impl.Prog{}, impl.Sys{}, nil) || !impl.SeenOk(impl.Prog{}, impl.Sys{}, []impl.Entry{{When: 3, Puts: puts(0, 1)}}) {
		t.Error("there is nobody")
	}
}

// A cell that is not there has nothing, whatever entries put there.
func TestReadsOfCellsThatAreNotThere(t *testing.T) {
	for _, cell := range []int{-1, 2, 3, 99, math.MinInt, math.MaxInt} {
		for _, n := range []int{0, 3, 4, -1} {
			seenIs(t, false, []int{3, 4}, nil, reader(1, 0, cell, n))
			log := []impl.Entry{{When: 0, Puts: puts(cell, n, 0, 3)}}
			seenIs(t, false, []int{3, 4}, log, reader(1, 0, cell, n))
			seenIs(t, false, []int{3, 4}, log, reader(1, 0, 0, 3, cell, n))
			seenIs(t, true, []int{3, 4}, log, reader(1, 0, 0, 3, 1, 4))
			seenIs(t, true, []int{3, 4}, log, reader(0, 0, cell, n))
		}
	}
	seenIs(t, false, nil, nil, reader(1, 0, 0, 0))
	// A program may have any cells here, more than one that is ok, and other numbers.
	seenIs(t, true, []int{1, -2, 300, 4, 5}, nil, reader(1, 0, 1, -2, 2, 300, 4, 5))
	// The same cell twice: both must be so. They need not ascend.
	seenIs(t, true, []int{3, 4}, nil, reader(1, 0, 1, 4, 0, 3, 1, 4))
	seenIs(t, false, []int{3, 4}, nil, reader(1, 0, 0, 3, 0, 4))
	seenIs(t, false, []int{3, 4}, nil, reader(1, 0, 0, 4, 0, 3))
}

// All that was put up to Since counts, and nothing later; below 0 is ahead of all times from 0 on.
func TestSinceOfReaders(t *testing.T) {
	// In no order, as they may be ended.
	log := []impl.Entry{{When: 5, Puts: puts(0, 50)}, {When: 0, Puts: puts(0, 10)}, {When: 5}, {When: 2, Puts: puts(0, 20, 1, 21)}, {When: 2, Reads: puts(0, 77)}}
	for _, x := range []struct{ since, a, b int }{
		{math.MinInt, 3, 4}, {-2, 3, 4}, {-1, 3, 4}, {0, 10, 4}, {1, 10, 4}, {2, 20, 21}, {3, 20, 21}, {4, 20, 21}, {5, 50, 21}, {6, 50, 21}, {impl.SysTime, 50, 21}, {impl.SysTime + 1, 50, 21}, {math.MaxInt, 50, 21},
	} {
		for _, a := range []int{3, 10, 20, 50, 77} {
			seenIs(t, a == x.a, []int{3, 4}, log, reader(1, x.since, 0, a))
		}
		for _, b := range []int{4, 21} {
			seenIs(t, b == x.b, []int{3, 4}, log, reader(3, x.since, 1, b))
			seenIs(t, b == x.b, []int{3, 4}, log, reader(3, x.since, 0, x.a, 1, b))
		}
	}
	// Each task sees since its own time.
	seenIs(t, true, []int{3, 4}, log, reader(1, -1, 0, 3), reader(1, 9, 0, 50), reader(1, 0, 0, 10))
	seenIs(t, false, []int{3, 4}, log, reader(1, 9, 0, 50), reader(1, -1, 0, 50))
	// An entry below 0 is seen by who sees since then.
	seenIs(t, true, []int{3}, []impl.Entry{{When: -5, Puts: puts(0, 8)}}, reader(1, -5, 0, 8), reader(1, -6, 0, 3))
	// Of one time the last one in LogOrder counts.
	seenIs(t, true, []int{3}, []impl.Entry{{When: 1, Puts: puts(0, 8)}, {When: 1, Puts: puts(0, 9)}}, reader(1, 1, 0, 9))
	seenIs(t, false, []int{3}, []impl.Entry{{When: 1, Puts: puts(0, 9)}, {When: 1, Puts: puts(0, 8)}}, reader(1, 1, 0, 9))
	// The last number of an entry counts.
	seenIs(t, true, []int{3}, []impl.Entry{{When: 1, Puts: puts(0, 9, 0, 8)}}, reader(1, 1, 0, 8))
}

// It is asked by the log that is handed in, not by that of the system.
func TestReadersAreAskedByTheLogThatIsHandedIn(t *testing.T) {
	p, s := begun(t, "cells 0\nbody\ntry r=3 A=r\ntry r=A\n", repeated(0, 9)...)
	if x := s.Tasks[0]; x.Stage != impl.StageDeeds || x.Since != 1 || len(s.Log) != 1 {
		t.Fatalf("the test itself is wrong: %+v", s)
	}
	s = mustStep(t, p, s, 0)
	for _, x := range []struct {
		log  []impl.Entry
		want bool
	}{{s.Log, true}, {nil, false}, {[]impl.Entry{{When: 1, Puts: puts(0, 3)}}, true}, {[]impl.Entry{{When: 2, Puts: puts(0, 3)}}, false}, {append(copiedLog(s.Log), impl.Entry{When: 1, Puts: puts(0, 4)}), false}, {append(copiedLog(s.Log), impl.Entry{When: 2, Puts: puts(0, 4)}), true}} {
		if got := impl.SeenOk(p, s, x.log); got != x.want {
			t.Errorf("%v: %+v", got, x.log)
		}
	}
}

// Programs and systems need not be ok for SeenOk.
func TestReadersOfWhatIsNotOk(t *testing.T) {
	r := rand.New(rand.NewPCG(101, 102))
	good, bad := 0, 0
	for _, x := range someTreeSteps(20) {
		p, s := bent(r, x.p), bentSys(r, x.after)
		for _, log := range [][]impl.Entry{s.Log, nil, x.before.Log} {
			if judgedSeen(t, x.p, s, log) && judgedSeen(t, p, x.after, log) && judgedSeen(t, p, s, log) {
				good++
			} else {
				bad++
			}
		}
	}
	enough(t, 200, good, bad)
}

// Very many tasks and entries come to an end as well.
func TestManyReaders(t *testing.T) {
	const n = 300
	var s impl.Sys
	var log []impl.Entry
	for i := range n {
		s.Tasks = append(s.Tasks, reader(1, i, 0, i))
		log = append(log, impl.Entry{When: n - 1 - i, Puts: puts(0, n-1-i)})
	}
	p := impl.Prog{Cells: []int{7}}
	if !impl.SeenOk(p, s, log) {
		t.Error("each saw its own")
	}
	for _, i := range []int{0, n / 2, n - 1} {
		q := copiedSys(s)
		q.Tasks[i].Since--
		if impl.SeenOk(p, q, log) {
			t.Errorf("%d saw what was later", i)
		}
	}
}
