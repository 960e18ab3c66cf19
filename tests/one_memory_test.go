package tests

import (
	"math/rand/v2"
	"runtime"
	"slices"
	"testing"

	"loop.example/equerry/impl"
)

// oneAnswers is all that chapter 22 tells of a program, a system and a log, each twice: systems, and lists.
func oneAnswers(p impl.Prog, s impl.Sys, log []impl.Entry) ([]impl.Sys, [][]int) {
	var systems []impl.Sys
	var lists [][]int
	for range 2 {
		nums, _, _ := impl.OneRun(p)
		lists = append(lists, nums)
		for _, most := range []int{0, 1, 9, 40, -1, 2001} {
			q, _ := impl.OneSys(p, s, most)
			systems = append(systems, q)
		}
		impl.SeenOk(p, s, log)
	}
	return systems, lists
}

// memoryOnes is programs with systems on the way and logs, ok or not.
func memoryOnes() []oddReaders {
	r := rand.New(rand.NewPCG(121, 122))
	var list []oddReaders
	for _, x := range someTreeSteps(150) {
		list = append(list, oddReaders{x.p, x.after, x.after.Log}, oddReaders{x.p, bentSys(r, x.after), x.before.Log}, oddReaders{bent(r, x.p), x.after, nil})
	}
	for _, p := range oneProgs(50) {
		s, _ := impl.SysNew(p)
		list = append(list, oddReaders{p, s, oddLog(r).log})
	}
	return append(list, someReaders(100)...)
}

func paddedOne(x oddReaders) oddReaders {
	return oddReaders{padded(x.p), paddedSys(x.s), paddedLog(x.log)}
}

func wholeOne(x oddReaders) string { return whole(x.p) + wholeSys(x.s) + wholeLog(x.log) }

// Each list of an answer is its own: of no argument, of no other list, and of no other call's.
func TestOneByOneSharesNoMemory(t *testing.T) {
	for _, x := range memoryOnes() {
		y := paddedOne(x)
		systems, lists := oneAnswers(y.p, y.s, y.log)
		list := slices.Concat(spansOf(y.p), spansOfSys(y.s), spansOfLog(y.log), spanOfAll(lists))
		for _, q := range systems {
			list = append(list, spansOfSys(q)...)
		}
		shareNone(t, list, shownSys(y.s))
		runtime.KeepAlive(y)
		runtime.KeepAlive(systems)
		runtime.KeepAlive(lists)
	}
}

// Nothing is written into an argument, or behind the end of one of its lists, those within programs, tasks and entries included.
func TestNothingIsWrittenOneByOne(t *testing.T) {
	for _, x := range memoryOnes() {
		y := paddedOne(x)
		before := wholeOne(y)
		oneAnswers(y.p, y.s, y.log)
		impl.OneSys(y.p, y.s, 2000)
		// What is the first part of a longer list is not written behind, either.
		for cut := range len(y.s.Tasks) {
			oneAnswers(y.p, impl.Sys{Cells: y.s.Cells, Tasks: y.s.Tasks[:cut], Clock: y.s.Clock, Log: y.s.Log[:len(y.s.Log)/2]}, y.log[:len(y.log)/2])
		}
		for cut := range len(y.p.Bodies) {
			oneAnswers(impl.Prog{Cells: y.p.Cells[:len(y.p.Cells)/2], Bodies: y.p.Bodies[:cut]}, y.s, y.log)
		}
		if wholeOne(y) != before {
			t.Fatalf("something was written: %v, %+v, %+v, not %s", y.p, y.s, y.log, before)
		}
	}
}

// What is written into an answer is in no later one, nor in an argument.
func TestAnswersOneByOneAreNotKept(t *testing.T) {
	for _, x := range memoryOnes() {
		before := wholeOne(x)
		systems, lists := oneAnswers(x.p, x.s, x.log)
		seen := impl.SeenOk(x.p, x.s, x.log)
		var wantSystems []string
		for _, q := range systems {
			wantSystems = append(wantSystems, shownSys(q))
		}
		var wantLists [][]int
		for _, q := range lists {
			wantLists = append(wantLists, slices.Clone(q))
		}
		for _, q := range systems {
			spoilSys(q)
		}
		for _, q := range lists {
			spoil(q, 88)
		}
		if wholeOne(x) != before {
			t.Fatalf("written into an argument: %v, %+v, %+v, not %s", x.p, x.s, x.log, before)
		}
		again, againLists := oneAnswers(x.p, x.s, x.log)
		for i, q := range again {
			if shownSys(q) != wantSystems[i] {
				t.Fatalf("answer %d: %+v, not %s", i, q, wantSystems[i])
			}
		}
		for i, q := range againLists {
			listIs(t, "numbers", q, wantLists[i]...)
		}
		if impl.SeenOk(x.p, x.s, x.log) != seen {
			t.Fatalf("SeenOk was %v: %+v", seen, x.s)
		}
	}
}

// Lists of a program may share memory, with each other and with those of a system and a log: what is done to one is not done to the other.
func TestListsMayShareMemoryOneByOne(t *testing.T) {
	nums := []int{3, 4, 5, 0, 0, 0}
	deeds := []impl.Deed{load(0, 0), add(0, 0), store(1, 0), store(0, 2), load(1, 1)}
	kids := []int{1, 2}
	acts := []impl.Act{{Kind: impl.ActTry, Deeds: deeds}, {Kind: impl.ActTry, Deeds: deeds[:3]}, {Kind: impl.ActTry, Deeds: deeds[2:4]}}
	p := impl.Prog{Cells: nums[:3], Bodies: [][]impl.Act{{{Kind: impl.ActFork, Kids: kids}, {Kind: impl.ActFork, Kids: kids[:1]}}, acts, acts[1:]}}
	s := mustNew(t, p)
	s.Tasks[0].Regs, s.Tasks[0].Old = nums[3:], nums[3:]
	before := whole(p) + wholeSys(s)
	judgedOne(t, p)
	if _, failed, ok := impl.OneRun(p); failed || !ok {
		t.Errorf("the test itself is wrong: %v", p)
	}
	for most := range 80 {
		judgedOneSys(t, p, s, most)
	}
	one := puts(0, 3, 1, 4, 2, 5)
	log := []impl.Entry{{When: 1, Reads: one, Puts: one[:1]}, {When: 0, Puts: one[1:]}}
	s.Tasks = append(s.Tasks, impl.Task{Stage: 1, Reads: one}, impl.Task{Stage: 2, Reads: one[:2], Puts: one, Since: 1})
	if !judgedSeen(t, p, s, log) {
		t.Error("all was there")
	}
	if s.Tasks = s.Tasks[:1]; whole(p)+wholeSys(s) == before {
		t.Error("the test itself is wrong: tasks were laid behind the end")
	}
	listIs(t, "numbers", nums, 3, 4, 5, 0, 0, 0)
}

// Lists of no length, but with room, are as good as nil ones.
func TestEmptyListsAreNilListsOneByOne(t *testing.T) {
	for _, text := range []string{"cells\nbody\ntry\nfork 1\nbody\n", "cells 4\nbody\ntry\nfailif t\n"} {
		p := mustRead(t, text)
		q := copied(p)
		q.Cells = append(make([]int, 0, 5), q.Cells...)
		for i := range q.Bodies {
			q.Bodies[i] = append(make([]impl.Act, 0, 5), q.Bodies[i]...)
		}
		judgedOne(t, p)
		judgedOne(t, q)
		for most := range 20 {
			judgedOneSys(t, q, mustNew(t, p), most)
		}
		s := mustNew(t, p)
		s.Tasks[0].Reads, s.Tasks[0].Puts, s.Log = []impl.Put{}, make([]impl.Put, 0, 3), []impl.Entry{}
		judgedOneSys(t, q, s, 20)
		s.Tasks[0].Stage = impl.StageDeeds
		if !judgedSeen(t, q, s, make([]impl.Entry, 0, 4)) {
			t.Error("nothing was read")
		}
	}
}
