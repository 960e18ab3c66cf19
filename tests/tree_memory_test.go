package tests

import (
	"math/rand/v2"
	"runtime"
	"slices"
	"testing"

	"loop.example/equerry/impl"
)

// treeAnswers is all that chapter 21 tells of a system, each twice.
func treeAnswers(s impl.Sys) [][]int {
	var lists [][]int
	for range 2 {
		lists = append(lists, impl.TreeLive(s), impl.TreeWalk(s))
		for _, task := range treePlaces(s) {
			lists = append(lists, impl.TreeKids(s, task))
			for _, up := range treePlaces(s) {
				impl.TreeUnder(s, task, up)
			}
		}
		impl.TreeOk(s)
	}
	return lists
}

// memoryTrees is systems with lists in their tasks and entries, ok or not.
func memoryTrees() []impl.Sys {
	r := rand.New(rand.NewPCG(83, 84))
	list := oddTrees(500)
	for _, x := range someTreeSteps(150) {
		list = append(list, x.after, bentSys(r, x.after))
	}
	return list
}

// Each list of an answer is its own: of no argument, of no other list, and of no other call's.
func TestTreesShareNoMemory(t *testing.T) {
	for _, x := range memoryTrees() {
		s := paddedSys(x)
		lists := treeAnswers(s)
		shareNone(t, append(spansOfSys(s), spanOfAll(lists)...), upsAndWays(s))
		runtime.KeepAlive(s)
		runtime.KeepAlive(lists)
	}
}

// Nothing is written into an argument, or behind the end of one of its lists, those within tasks and entries included.
func TestNothingIsWrittenIntoATree(t *testing.T) {
	for _, x := range memoryTrees() {
		s := paddedSys(x)
		before := wholeSys(s)
		treeAnswers(s)
		// A system whose tasks are the first of another one's is not written behind, either.
		for cut := range len(s.Tasks) {
			treeAnswers(impl.Sys{Cells: s.Cells, Tasks: s.Tasks[:cut], Clock: s.Clock, Log: s.Log})
		}
		if wholeSys(s) != before {
			t.Fatalf("something was written: %+v, not %s", s, before)
		}
	}
}

// Tasks behind the end of the list are not there, though memory has them.
func TestTasksBehindTheEndAreNotThere(t *testing.T) {
	for _, s := range memoryTrees() {
		for cut := range len(s.Tasks) {
			judgedTree(t, impl.Sys{Tasks: s.Tasks[:cut]})
		}
	}
}

// What is written into an answer is in no later one, nor in the argument.
func TestAnswersOfTreesAreNotKept(t *testing.T) {
	for _, s := range memoryTrees() {
		before := shownSys(s)
		lists := treeAnswers(s)
		var want [][]int
		for _, list := range lists {
			want = append(want, slices.Clone(list))
		}
		for _, list := range lists {
			spoil(list, 88)
		}
		if shownSys(s) != before {
			t.Fatalf("written into the argument: %+v, not %s", s, before)
		}
		for i, list := range treeAnswers(s) {
			listIs(t, "again", list, want[i]...)
		}
	}
}
