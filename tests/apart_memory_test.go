package tests

import (
	"math/rand/v2"
	"runtime"
	"slices"
	"testing"

	"loop.example/equerry/impl"
)

// apartAnswers is all that chapter 23 tells of a program, a system and entries, each twice.
func apartAnswers(x doing) [][]int {
	var lists [][]int
	for range 2 {
		for body := -1; body <= len(x.p.Bodies); body++ {
			lists = append(lists, impl.ApartReads(x.p, body), impl.ApartWrites(x.p, body))
		}
		impl.ApartOk(x.p)
		for _, list := range [][]impl.Entry{x.list, nil} {
			nums, regs, _ := impl.LogDo(x.p, x.s, list)
			lists = append(lists, nums)
			lists = append(lists, regs...)
		}
	}
	return lists
}

// memoryDoings is entries that are done, and such that are not, of systems that are ok, or not.
func memoryDoings() []doing {
	r := rand.New(rand.NewPCG(143, 144))
	var list []doing
	for i, x := range someDoings() {
		if i%60 == 0 {
			list = append(list, x, doing{x.p, bentSys(r, x.s), x.list}, doing{bent(r, x.p), x.s, x.list})
		}
	}
	for _, p := range anyProgs(100) {
		s, _ := impl.SysNew(p)
		list = append(list, madeDoing(r, p, s))
	}
	return list
}

func paddedDoing(x doing) doing {
	return doing{padded(x.p), paddedSys(x.s), paddedLog(x.list)}
}

func wholeDoing(x doing) string { return whole(x.p) + wholeSys(x.s) + wholeLog(x.list) }

// Each list of an answer is its own: of no argument, of no other list, and of no other call's. Registers of all tasks lie in a list of their own, too.
func TestApartSharesNoMemory(t *testing.T) {
	many := 0
	for _, x := range memoryDoings() {
		y := paddedDoing(x)
		lists := apartAnswers(y)
		_, regs, _ := impl.LogDo(y.p, y.s, y.list)
		_, again, _ := impl.LogDo(y.p, y.s, y.list)
		list := slices.Concat(spansOf(y.p), spansOfSys(y.s), spansOfLog(y.list), spanOfAll(lists), spanOfAll(regs), spanOfAll(again))
		shareNone(t, append(list, spanOf(regs), spanOf(again)), y)
		if len(regs) > 1 && len(y.list) > 0 {
			many++
		}
		runtime.KeepAlive(y)
		runtime.KeepAlive(lists)
		runtime.KeepAlive(regs)
		runtime.KeepAlive(again)
	}
	enough(t, 100, many)
}

// Nothing is written into an argument, or behind the end of one of its lists, those within programs, tasks and entries included.
func TestNothingIsWrittenApart(t *testing.T) {
	for _, x := range memoryDoings() {
		y := paddedDoing(x)
		before := wholeDoing(y)
		apartAnswers(y)
		// What is the first part of a longer list is not written behind, either.
		for cut := range len(y.list) {
			apartAnswers(doing{y.p, y.s, y.list[:cut]})
		}
		for cut := range len(y.p.Bodies) {
			apartAnswers(doing{impl.Prog{Cells: y.p.Cells, Bodies: y.p.Bodies[:cut]}, y.s, y.list})
		}
		for cut := range len(y.s.Tasks) {
			apartAnswers(doing{y.p, impl.Sys{Cells: y.s.Cells, Tasks: y.s.Tasks[:cut], Clock: y.s.Clock, Log: y.s.Log[:len(y.s.Log)/2]}, y.list})
		}
		if wholeDoing(y) != before {
			t.Fatalf("something was written: %v, %+v, %+v, not %s", y.p, y.s, y.list, before)
		}
	}
}

// What is written into an answer is in no later one, nor in an argument.
func TestAnswersApartAreNotKept(t *testing.T) {
	for _, x := range memoryDoings() {
		before := wholeDoing(x)
		lists := apartAnswers(x)
		apart := impl.ApartOk(x.p)
		var want [][]int
		for _, list := range lists {
			want = append(want, slices.Clone(list))
		}
		for _, list := range lists {
			spoil(list, 88)
		}
		if wholeDoing(x) != before {
			t.Fatalf("written into an argument: %v, %+v, %+v, not %s", x.p, x.s, x.list, before)
		}
		for i, list := range apartAnswers(x) {
			listIs(t, "a list", list, want[i]...)
		}
		if impl.ApartOk(x.p) != apart {
			t.Fatalf("ApartOk was %v: %v", apart, x.p)
		}
	}
}

// Lists of arguments may share memory, within one and with each other: what is done to one is not done to the other.
func TestListsMayShareMemoryApart(t *testing.T) {
	nums := []int{5, 6, 7, 0, 0, 0}
	deeds := []impl.Deed{load(0, 0), add(0, 0), store(1, 0), store(0, 2), load(1, 1)}
	acts := []impl.Act{{Kind: impl.ActTry, Deeds: deeds}, {Kind: impl.ActTry, Deeds: deeds[:3]}, {Kind: impl.ActTry, Deeds: deeds[2:4]}}
	p := impl.Prog{Cells: nums[:3], Bodies: [][]impl.Act{{{Kind: impl.ActFork, Kids: []int{1, 2}}}, acts, acts[1:]}}
	s := mustRest(t, p, mustNew(t, p), 1)
	for i := range s.Tasks {
		s.Tasks[i].Regs, s.Tasks[i].Old = nums[3:], nums[3:]
	}
	all := puts(0, 5, 0, 0, 1, 10)
	one := impl.Entry{Task: 1, Reads: all[:1], Puts: all[1:]}
	list := []impl.Entry{one, {Task: 1, Act: 1, Puts: puts(1, 0)}}
	before := whole(p) + wholeSys(s) + wholeLog(list)
	judgedApart(t, p)
	if impl.ApartOk(p) || !judgedLogDo(t, p, s, list) {
		t.Errorf("the test itself is wrong: %v, %+v", p, s)
	}
	s.Log = list
	judgedLogDo(t, p, s, list)
	// The same entry again reads something else.
	logDoIsNot(t, p, s, []impl.Entry{one, one})
	if s.Log = nil; whole(p)+wholeSys(s)+wholeLog(list) != before {
		t.Error("something was written")
	}
	listIs(t, "numbers", nums, 5, 6, 7, 0, 0, 0)
	nums2, regs := mustLogDo(t, p, s, list)
	shareNone(t, append(spanOfAll(regs), spanOf(regs), spanOf(nums2), spanOf(nums), spanOf(all)), p)
	runtime.KeepAlive(nums)
	runtime.KeepAlive(all)
}

// Lists of no length, but with room, are as good as nil ones.
func TestEmptyListsAreNilListsApart(t *testing.T) {
	for _, text := range []string{"cells\nbody\ntry\nfork 1 1\nbody\n", "cells 4\nbody\ntry\ntry r=A\nfork 1\nbody\nfailif t\n", "cells 4 5\nbody\ntry r=B A=r\n"} {
		p := mustRead(t, text)
		q := copied(p)
		q.Cells = append(make([]int, 0, 5), q.Cells...)
		for i := range q.Bodies {
			q.Bodies[i] = append(make([]impl.Act, 0, 5), q.Bodies[i]...)
		}
		s := mustRest(t, p, mustNew(t, p), 2000)
		list := impl.LogOrder(s.Log)
		for i := range list {
			list[i].Reads = append(make([]impl.Put, 0, 4), list[i].Reads...)
			list[i].Puts = append([]impl.Put{}, list[i].Puts...)
		}
		for i := range s.Tasks {
			s.Tasks[i].Reads, s.Tasks[i].Puts = []impl.Put{}, make([]impl.Put, 0, 3)
		}
		judgedApart(t, q)
		if !judgedLogDo(t, q, s, list) || !judgedLogDo(t, q, s, make([]impl.Entry, 0, 4)) {
			t.Errorf("not done: %q: %+v", text, list)
		}
	}
}
