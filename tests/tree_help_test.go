package tests

import (
	"math"
	"math/rand/v2"
	"slices"
	"sync"
	"testing"

	"loop.example/equerry/impl"
)

// The tests' own reading of chapter 21, as those of the chapters ahead. It walks nothing: each task has a path, of all from which it comes down to it, and all else is told from paths.

// wantPath is all places from the uppermost one down to a task, as far as Up is ahead.
func wantPath(s impl.Sys, task int) []int {
	if !inRange(task, 0, len(s.Tasks)-1) {
		return nil
	}
	path := []int{task}
	for inRange(s.Tasks[path[0]].Up, 0, path[0]-1) {
		path = slices.Insert(path, 0, s.Tasks[path[0]].Up)
	}
	return path
}

func wantKids(s impl.Sys, task int) []int {
	var list []int
	for i := range s.Tasks {
		if path := wantPath(s, i); len(path) > 1 && path[len(path)-2] == task {
			list = append(list, i)
		}
	}
	return list
}

func wantUnder(s impl.Sys, task, up int) bool {
	path := wantPath(s, task)
	return len(path) > 0 && slices.Contains(path[:len(path)-1], up)
}

func wantLives(s impl.Sys) []int {
	var list []int
	for i, x := range s.Tasks {
		if wantLive(x) {
			list = append(list, i)
		}
	}
	return list
}

func wantTreeOk(s impl.Sys) bool {
	ups := map[int]int{}
	for i, x := range s.Tasks {
		ups[i] = x.Way
	}
	for _, x := range s.Tasks {
		if way, there := ups[x.Up]; there && way != 1 && wantLive(x) {
			return false
		}
	}
	return true
}

// wantWalk is those that come from one whose Up is -1, in the order of their paths: a path stands ahead of all that go on from it.
func wantWalk(s impl.Sys) []int {
	var paths [][]int
	for i := range s.Tasks {
		if path := wantPath(s, i); s.Tasks[path[0]].Up == -1 {
			paths = append(paths, path)
		}
	}
	slices.SortFunc(paths, slices.Compare)
	var list []int
	for _, path := range paths {
		list = append(list, path[len(path)-1])
	}
	return list
}

// treePlaces is all tasks of a system, and places that are none.
func treePlaces(s impl.Sys) []int {
	n := len(s.Tasks)
	return append([]int{math.MinInt, -8, -2, -1, n, n + 1, n + 7, math.MaxInt}, placesOf(s)...)
}

// judgedTree holds all functions of chapter 21 against what is wanted of one system.
func judgedTree(t *testing.T, s impl.Sys) {
	t.Helper()
	for _, task := range treePlaces(s) {
		if got, want := impl.TreeKids(s, task), wantKids(s, task); !slices.Equal(got, want) {
			t.Fatalf("TreeKids of %d: %v, not %v: %v", task, got, want, upsAndWays(s))
		}
		for _, up := range treePlaces(s) {
			if got := impl.TreeUnder(s, task, up); got != wantUnder(s, task, up) {
				t.Fatalf("TreeUnder of %d and %d: %v: %v", task, up, got, upsAndWays(s))
			}
		}
	}
	if got, want := impl.TreeWalk(s), wantWalk(s); !slices.Equal(got, want) {
		t.Fatalf("TreeWalk: %v, not %v: %v", got, want, upsAndWays(s))
	}
	judgedLive(t, s)
}

func judgedLive(t *testing.T, s impl.Sys) {
	t.Helper()
	if got, want := impl.TreeLive(s), wantLives(s); !slices.Equal(got, want) {
		t.Fatalf("TreeLive: %v, not %v: %v", got, want, upsAndWays(s))
	}
	if got := impl.TreeOk(s); got != wantTreeOk(s) {
		t.Fatalf("TreeOk: %v: %v", got, upsAndWays(s))
	}
}

// upsAndWays is all of a system that chapter 21 looks at.
func upsAndWays(s impl.Sys) [][2]int {
	var list [][2]int
	for _, x := range s.Tasks {
		list = append(list, [2]int{x.Up, x.Way})
	}
	return list
}

// treeOf is a system whose tasks have these Ups, and all wait.
func treeOf(ups ...int) impl.Sys {
	var s impl.Sys
	for _, up := range ups {
		s.Tasks = append(s.Tasks, impl.Task{Up: up, Way: impl.TaskWaits, Regs: []int{0, 0, 0}, Old: []int{0, 0, 0}})
	}
	return s
}

// withWays is the same system with these Ways.
func withWays(s impl.Sys, ways ...int) impl.Sys {
	s = copiedSys(s)
	for i, way := range ways {
		s.Tasks[i].Way = way
	}
	return s
}

// inAllWays is each list of so many numbers out of some.
func inAllWays(n int, nums []int) [][]int {
	lists := [][]int{nil}
	for range n {
		var more [][]int
		for _, list := range lists {
			for _, x := range nums {
				more = append(more, append(slices.Clone(list), x))
			}
		}
		lists = more
	}
	return lists
}

// upsOf is what Up may be of so many tasks, and some that are none.
func upsOf(n int) []int {
	list := []int{-2, -1}
	for up := range n + 1 {
		list = append(list, up)
	}
	return list
}

// smallTrees is all systems of at most so many tasks, whatever their Ups.
func smallTrees(most int) []impl.Sys {
	var list []impl.Sys
	for n := range most + 1 {
		for _, ups := range inAllWays(n, upsOf(n)) {
			list = append(list, treeOf(ups...))
		}
	}
	return list
}

// oddTree is a system of tasks with any Ups and Ways, most of them ahead, so that some go far.
func oddTree(r *rand.Rand) impl.Sys {
	var s impl.Sys
	n := r.IntN(14)
	for place := range n {
		up := r.IntN(place+1) - 1
		if r.IntN(4) == 0 {
			up = oneOf(r, []int{-1, -1, -2, place, place + 1, n - 1, n, n + 1, r.IntN(n), math.MinInt, math.MaxInt})
		}
		s.Tasks = append(s.Tasks, impl.Task{Up: up, Way: oneOf(r, []int{0, 1, 1, 1, 2, 3, 4, -1, 5, math.MinInt, math.MaxInt})})
	}
	return s
}

// oddTrees is the same each time.
func oddTrees(n int) []impl.Sys {
	r := rand.New(rand.NewPCG(71, 72))
	var list []impl.Sys
	for range n {
		list = append(list, oddTree(r))
	}
	return list
}

// lateTexts is programs in which tasks 3 and 4 load A and store to another cell, task 2 stores to both, and tasks 0 and 1 wait for them.
var lateTexts = []string{
	"cells 1 2\nbody\nfork 1 3\nbody\nfork 2 2\nbody\ntry r=A B=r\nbody\ntry A=r B=r\n",
	"cells 1 2 3\nbody\nfork 1 3\ntry r=C\nbody\nfork 2 2\nfail\nbody\ntry r=A C=r\nfail\nbody\ntry C=r A=r\nfail\n",
}

// lateTurns keeps all changes of these programs from being ended: one of both that load comes to hold its cell, and takes a time; then task 2 holds A, so that one begins again; the other one holds the cell that task 2 needs as well, so that begins again, too.
func lateTurns() []int {
	turns := slices.Concat([]int{0, 1}, repeated(3, 4), repeated(4, 4), []int{3})
	for time := range impl.SysTime {
		one, other := 3+time%2, 4-time%2
		turns = slices.Concat(turns, []int{one}, repeated(2, 5), []int{one, other, 2}, repeated(one, 4))
	}
	return turns
}

// lateSteps is steps up to SysTime, and steps at the last time but one of systems that were there earlier.
var lateSteps = sync.OnceValue(func() []seenStep {
	var list []seenStep
	for _, text := range lateTexts {
		p, _ := impl.ProgRead(text)
		s, _ := impl.SysNew(p)
		for _, task := range lateTurns() {
			if q, ok := impl.SysStep(p, s, task); ok {
				list = append(list, seenStep{p, s, task, q})
				s = q
			}
		}
	}
	for _, x := range seenSystems(20) {
		s := copiedSys(x.before)
		s.Clock = impl.SysTime - 1
		for _, task := range impl.SysReady(x.p, s) {
			if q, ok := impl.SysStep(x.p, s, task); ok {
				list = append(list, seenStep{x.p, s, task, q})
			}
		}
	}
	return list
})

// treeSteps is all steps of which promises speak, those up to SysTime included.
var treeSteps = sync.OnceValue(func() []seenStep {
	return slices.Concat(seenSteps(), lateSteps())
})

// someTreeSteps is some of them.
func someTreeSteps(each int) []seenStep {
	var list []seenStep
	for i, x := range treeSteps() {
		if i%each == 0 {
			list = append(list, x)
		}
	}
	return list
}

// okSteps is systems that are ok, though no program may come to some of them: what is behind steps, and such with something in them changed.
func okSteps(each int) []seenStep {
	r := rand.New(rand.NewPCG(75, 76))
	var list []seenStep
	for _, x := range someTreeSteps(each) {
		list = append(list, x)
		for range 3 {
			if s := bentSys(r, x.after); impl.SysOk(x.p, s) {
				list = append(list, seenStep{x.p, x.before, x.task, s})
			}
		}
	}
	return list
}

// underOf is who is under a task, by the program's own words.
func underOf(s impl.Sys, up int) []int {
	var list []int
	for i := range s.Tasks {
		if impl.TreeUnder(s, i, up) {
			list = append(list, i)
		}
	}
	return list
}

// liveOf is those of a list that run, or wait.
func liveOf(s impl.Sys, list []int) []int {
	return slices.DeleteFunc(slices.Clone(list), func(i int) bool {
		return s.Tasks[i].Way != impl.TaskRuns && s.Tasks[i].Way != impl.TaskWaits
	})
}

func sameTask(a, b impl.Task) bool {
	return sameSys(impl.Sys{Tasks: []impl.Task{a}}, impl.Sys{Tasks: []impl.Task{b}})
}
