package tests

import (
	"math"
	"math/rand/v2"
	"slices"
	"testing"

	"loop.example/equerry/impl"
)

// Promises 87 to 95, in their order; what a promise speaks of is asked of the program, or worked out on the spot, not taken from the tests' own reading.

// Promise 87: of all programs that come to an end one by one; then their tasks are over, too.
func TestOneSysLeavesWhatOneRunTells(t *testing.T) {
	failed, not, below := 0, 0, 0
	for _, x := range endedProgs(t) {
		way := x.last.Tasks[0].Way
		if !slices.Equal(impl.SysNums(x.last), x.nums) || !impl.SysOver(x.p, x.last) {
			t.Fatalf("%v, not %v: %v: %+v", impl.SysNums(x.last), x.nums, x.p, x.last)
		}
		if x.failed && way != impl.TaskFailed || !x.failed && way != impl.TaskEnded {
			t.Fatalf("%d, though it failed is %v: %v", way, x.failed, x.p)
		}
		if !x.failed {
			not++
		} else if failed++; slices.Contains(impl.SysWays(x.last)[1:], impl.TaskFailed) {
			below++
		}
	}
	enough(t, 500, failed, not, below)
}

// Promise 88: of systems on the way, up to SysTime.
func TestStepsOneByOneAreTakenCutAnywhere(t *testing.T) {
	r := rand.New(rand.NewPCG(111, 112))
	some := 0
	for _, x := range someTreeSteps(150) {
		most := 1 + r.IntN(60)
		all := mustOne(t, x.p, x.after, most)
		for cut := range most + 1 {
			first := mustOne(t, x.p, x.after, cut)
			if got := mustOne(t, x.p, first, most-cut); !sameSys(got, all) {
				t.Fatalf("cut at %d of %d: %+v, not %+v", cut, most, got, all)
			}
		}
		if !sameSys(all, x.after) {
			some++
		}
	}
	enough(t, 300, some)
	for _, p := range oneProgs(200) {
		s := mustNew(t, p)
		all := mustOne(t, p, s, 2000)
		for _, cut := range []int{0, 1, r.IntN(100), r.IntN(2001), 1999, 2000} {
			if got := mustOne(t, p, mustOne(t, p, s, cut), 2000-cut); !sameSys(got, all) {
				t.Fatalf("cut at %d: %+v, not %+v: %v", cut, got, all, p)
			}
		}
	}
}

// Promise 89: and at each cut of the way, as these are the first of them.
func TestEntriesOneByOneAreInLogOrder(t *testing.T) {
	several, beside := 0, 0
	for _, x := range endedProgs(t) {
		log := x.last.Log
		if !sameLog(impl.LogOrder(log), log) || !impl.LogReal(log) {
			t.Fatalf("%v: %+v", x.p, log)
		}
		nums, ok := impl.LogReplay(x.p.Cells, log)
		if !ok || !slices.Equal(nums, x.nums) {
			t.Fatalf("%v, not %v: %v: %+v", nums, x.nums, x.p, log)
		}
		// Each began behind all that were ended.
		for i, e := range log {
			if e.From != i {
				t.Fatalf("%v: %+v", x.p, log)
			}
			if i > 0 && e.When == log[i-1].When {
				beside++
			}
		}
		if len(log) > 2 {
			several++
		}
	}
	enough(t, 500, several, beside)
}

// Promise 90: of all ok systems; if none is ready nothing changes.
func TestOneSysOfOneIsAStepOfTheFirstThatIsReady(t *testing.T) {
	first, later, none, begun := 0, 0, 0, 0
	for _, x := range okSteps(3) {
		want, at := x.after, -1
		ready := impl.SysReady(x.p, x.after)
		walk := impl.TreeWalk(x.after)
		for i, task := range walk {
			if slices.Contains(ready, task) {
				want, at = mustStep(t, x.p, x.after, task), i
				break
			}
		}
		if got := mustOne(t, x.p, x.after, 1); !sameSys(got, want) {
			t.Fatalf("%+v, not %+v, of %v of %v: %+v", got, want, ready, walk, x.after)
		}
		switch {
		case at < 0:
			none++
		case walk[at] == ready[0]:
			first++
		default:
			later++
		}
		begun += len(want.Tasks) - len(x.after.Tasks)
	}
	enough(t, 50, first, later, none, begun)
}

// Each step is of the first that is ready then, also of those that were begun on the way, and no step more is taken than most.
func TestEachStepOneByOneIsOfTheFirstThatIsReadyThen(t *testing.T) {
	steps := 0
	for i, x := range someTreeSteps(300) {
		s := x.after
		for most := range 1 + i%40 {
			if got := mustOne(t, x.p, x.after, most); !sameSys(got, s) {
				t.Fatalf("%d steps: %+v, not %+v, of %+v", most, got, s, x.after)
			}
			ready := impl.SysReady(x.p, s)
			for _, task := range impl.TreeWalk(s) {
				if slices.Contains(ready, task) {
					s = mustStep(t, x.p, s, task)
					steps++
					break
				}
			}
		}
	}
	enough(t, 3000, steps)
}

// Promise 91.
func TestIfOneRunDoesNotFailAllTasksHaveEnded(t *testing.T) {
	one, more := 0, 0
	for _, x := range endedProgs(t) {
		if x.failed {
			continue
		}
		ways := impl.SysWays(x.last)
		if !slices.Equal(ways, repeated(impl.TaskEnded, impl.ProgTree(x.p, 0))) {
			t.Fatalf("%v, not %d: %v", ways, impl.ProgTree(x.p, 0), x.p)
		}
		if len(ways) > 1 {
			more++
		} else {
			one++
		}
	}
	enough(t, 200, one, more)
}

// withFail is a program with an ActFail more behind all acts of the first body; false, if there is no room.
func withFail(p impl.Prog) (impl.Prog, bool) {
	q := copied(p)
	q.Bodies[0] = append(q.Bodies[0], impl.Act{Kind: impl.ActFail})
	return q, len(q.Bodies[0]) <= impl.ProgActs
}

// Promise 92: what does not come to an end does not so, either.
func TestWithAFailAtTheEndOneRunFailsAndLeavesTheSame(t *testing.T) {
	failed, not, stuck := 0, 0, 0
	for _, p := range append(oneProgs(1500), markedProgs()...) {
		q, room := withFail(p)
		if !room {
			oneIsNot(t, q)
			continue
		}
		nums, fails, ok := impl.OneRun(p)
		got, gotFails, gotOk := impl.OneRun(q)
		if gotOk != ok || gotFails != ok || !slices.Equal(got, nums) {
			t.Fatalf("%v, %v, %v, not %v: %v", got, gotFails, gotOk, nums, q)
		}
		if ok {
			last := mustOne(t, q, mustNew(t, q), 2000)
			if !slices.Equal(impl.SysNums(last), nums) || last.Tasks[0].Way != impl.TaskFailed {
				t.Fatalf("%v: %+v", q, last)
			}
		}
		switch {
		case !ok:
			stuck++
		case fails:
			failed++
		default:
			not++
		}
	}
	enough(t, 200, failed, not, stuck)
}

// Promise 93: of each read alone, too, and with another number.
func TestSeenOkComparesEachReadWithLogSeen(t *testing.T) {
	good, bad, alone := 0, 0, 0
	for _, x := range append(someReaders(3000), readersOnTheWay(20)...) {
		want := true
		for i, task := range x.s.Tasks {
			seen := impl.LogSeen(x.p.Cells, x.log, task.Since)
			for j, read := range task.Reads {
				has := inRange(read.Cell, 0, len(seen)-1) && seen[read.Cell] == read.Num
				want = want && (has || task.Stage == impl.StageNone)
				if inRange(read.Cell, 0, len(seen)-1) {
					alone += comparedAlone(t, x, i, j, seen[read.Cell])
				}
			}
		}
		if got := impl.SeenOk(x.p, x.s, x.log); got != want {
			t.Fatalf("%v: %v, %+v, of %+v", got, x.p.Cells, x.s.Tasks, x.log)
		}
		if want {
			good++
		} else {
			bad++
		}
	}
	enough(t, 500, good, bad, alone)
}

// comparedAlone asks for one read of one task, with what was seen, and with something else.
func comparedAlone(t *testing.T, x oddReaders, task, read, n int) int {
	t.Helper()
	one := copiedSys(x.s).Tasks[task]
	one.Stage = impl.StageCheck
	one.Reads = one.Reads[read : read+1]
	for _, other := range []int{n, n + 1, n - 1, -n - 1} {
		one.Reads[0].Num = other
		if impl.SeenOk(x.p, impl.Sys{Tasks: []impl.Task{one}}, x.log) != (other == n) {
			t.Fatalf("%d, not %d: %v, %+v, of %+v", other, n, x.p.Cells, one, x.log)
		}
	}
	return 1
}

// readersOnTheWay is systems on the way, with their own logs, and with all that are ended at last.
func readersOnTheWay(each int) []oddReaders {
	var list []oddReaders
	for _, x := range someTreeSteps(each) {
		last, _ := impl.SysRest(x.p, x.after, 2000)
		list = append(list, oddReaders{x.p, x.after, x.after.Log}, oddReaders{x.p, x.after, last.Log})
	}
	return list
}

// Promise 94: whatever log there is.
func TestAtFirstItIsSeenOk(t *testing.T) {
	logs := append(oddLogs(20), madeLogs(20)...)
	for _, p := range oneProgs(500) {
		s := mustNew(t, p)
		for _, x := range logs {
			if !impl.SeenOk(p, s, x.log) {
				t.Fatalf("%v: %+v", p, x.log)
			}
		}
		if !impl.SeenOk(p, s, nil) || !impl.SeenOk(p, s, mustRest(t, p, s, 2000).Log) {
			t.Fatalf("%v", p)
		}
	}
}

// lasts is what a system may be at last: each in turn, one by one, and by turns of chance ahead of that. One by one it need not come to an end, so it rests behind that.
func lasts(t *testing.T, r *rand.Rand, p impl.Prog, s impl.Sys) []impl.Sys {
	t.Helper()
	list := []impl.Sys{mustRest(t, p, s, 2000), mustRest(t, p, mustOne(t, p, s, 200), 2000), mustRest(t, p, mustRun(t, p, s, someTurns(r, 100, impl.ProgTasks)...), 2000)}
	for _, last := range list {
		if !impl.SysOver(p, last) {
			t.Fatalf("not at last: %+v", last)
		}
	}
	return list
}

// readsOf is how many cells were read in changes that go on.
func readsOf(s impl.Sys) int {
	n := 0
	for _, x := range s.Tasks {
		n += len(x.Reads)
	}
	return n
}

// Promise 95 (TOGETHER): also of what was read of a change that is still being written, and though who has read, or written, is called off. It is asked where nobody comes to SysTime any more, as then somebody may be writing at last: see below.
func TestWhatWasReadIsSeenOkByAllThatAreEndedAtLast(t *testing.T) {
	r := rand.New(rand.NewPCG(113, 114))
	reads, writing, early, off := 0, 0, 0, 0
	for i, x := range treeSteps() {
		half := isWriting(x.after)
		if readsOf(x.after) == 0 || !half && i%8 > 0 || x.after.Clock >= impl.SysTime-20 {
			continue
		}
		for _, last := range lasts(t, r, x.p, x.after) {
			if last.Clock == impl.SysTime || !impl.SeenOk(x.p, x.after, last.Log) {
				t.Fatalf("%v: %+v, of %+v", x.p, x.after, last.Log)
			}
			reads += readsOf(x.after)
			if half {
				writing++
			}
			if !impl.SeenOk(x.p, x.after, x.after.Log) {
				early++
			}
			if slices.Contains(impl.SysWays(last), impl.TaskOff) {
				off++
			}
		}
	}
	enough(t, 60, reads, writing, early, off)
}

// Promise 95, in all orders of steps of small programs: somebody puts cells together, and others read them meanwhile, or all fail.
func TestAllOrdersAreSeenOkAtLast(t *testing.T) {
	r := rand.New(rand.NewPCG(115, 116))
	early := 0
	for _, text := range []string{
		"cells 0 0 0\nbody\nfork 1 2\nbody\ntry r=4 A=r B=r C=r\nbody\ntry r=A s=B t=C\n",
		"cells 0 0 0\nbody\nfork 1 2\nbody\ntry r=4 A=r B=r C=r\nbody\ntry r=B s=A C=r\nfailif r\n",
		"cells 1 2\nbody\nfork 1 2\nbody\ntry r=A s=B A=s B=r\nbody\ntry s=B r=A A=s\nfail\n",
	} {
		p := mustRead(t, text)
		for i, s := range allSystems(t, p) {
			list := []impl.Sys{mustRest(t, p, s, 2000)}
			if i%5 == 0 {
				list = lasts(t, r, p, s)
			}
			for _, last := range list {
				if !impl.SeenOk(p, s, last.Log) {
					t.Fatalf("%q: %+v, of %+v", text, s, last.Log)
				}
			}
			if !impl.SeenOk(p, s, s.Log) {
				early++
			}
		}
	}
	enough(t, 10, early)
}

// halfText is a program whose tasks 3 and 5 load A and store to B and C, and tasks 4 and 6 read B, and then store to A and B.
const halfText = "cells 1 2 3\nbody\nfork 1 1\nbody\nfork 2 3\nbody\ntry r=A B=r C=r\nbody\ntry r=B\ntry A=s B=s\n"

// What is being written at SysTime is never ended, so that what was read of it is not seen: promise 95 is not of such. By turns alone a program comes to it.
func TestWhatIsBeingWrittenAtSysTimeIsNeverSeen(t *testing.T) {
	one, other := 3, 5
	p, s := begun(t, halfText, slices.Concat([]int{0, 1, 2}, repeated(4, 3), repeated(one, 5), repeated(other, 5), repeated(one, 2))...)
	// One holds B and C, and takes a time; task 4 holds A, so that one begins again; the other one holds B and C, so that task 4 begins again, too.
	for s.Clock < impl.SysTime-2 {
		before := s.Clock
		s = mustRun(t, p, s, slices.Concat([]int{one}, repeated(4, 5), []int{one, other, other, 4}, repeated(one, 5))...)
		one, other = other, one
		if s.Clock != before+1 || s.Tasks[one].Stage != impl.StageTime || len(s.Log) != 1 {
			t.Fatalf("the test itself is wrong: %+v", s)
		}
	}
	// It writes B, which task 6 reads then; task 4 takes the last time.
	s = mustRun(t, p, s, slices.Concat(repeated(one, 4), repeated(6, 2), repeated(4, 7))...)
	if x := s.Tasks[one]; s.Clock != impl.SysTime || x.Stage != impl.StageWrite || x.When != impl.SysTime-1 || !judgedSysOk(t, p, s) {
		t.Fatalf("the test itself is wrong: %+v", s)
	}
	if x := s.Tasks[6]; x.Since != impl.SysTime-1 || !slices.Equal(x.Reads, puts(1, 1)) {
		t.Fatalf("the test itself is wrong: %+v", s)
	}
	last := mustRest(t, p, s, 2000)
	sysIs(t, "nobody takes a step", last, s)
	sysIs(t, "nobody takes a step", mustOne(t, p, s, 2000), s)
	if impl.SeenOk(p, s, last.Log) {
		t.Error("B was never put by what is ended")
	}
	listIs(t, "it was never there", impl.LogSeen(p.Cells, last.Log, math.MaxInt), 1, 2, 3)
	// Had that been ended, it would be there.
	half := s.Tasks[one]
	if log := append(last.Log, impl.Entry{Task: one, When: half.When, Reads: half.Reads, Puts: half.Puts}); !impl.SeenOk(p, s, log) {
		t.Error("B was put")
	}
}
