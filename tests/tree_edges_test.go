package tests

import (
	"math"
	"math/rand/v2"
	"slices"
	"testing"

	"loop.example/equerry/impl"
)

// walkIs says so, if tasks are walked in another order, or others are.
func walkIs(t *testing.T, s impl.Sys, want ...int) {
	t.Helper()
	if got := impl.TreeWalk(s); !slices.Equal(got, want) {
		t.Errorf("TreeWalk: %v, not %v: %v", got, want, upsAndWays(s))
	}
	judgedTree(t, s)
}

// underIs says so, if others are under a task.
func underIs(t *testing.T, s impl.Sys, up int, want ...int) {
	t.Helper()
	if got := underOf(s, up); !slices.Equal(got, want) {
		t.Errorf("under %d: %v, not %v: %v", up, got, want, upsAndWays(s))
	}
}

// All functions, of systems of each kind, against the tests' own reading.
func TestTreesAreAsTheDocumentSays(t *testing.T) {
	r := rand.New(rand.NewPCG(81, 82))
	for _, s := range oddTrees(10000) {
		judgedTree(t, s)
	}
	for _, x := range someTreeSteps(20) {
		judgedTree(t, x.after)
		judgedTree(t, bentSys(r, x.after))
	}
}

// All systems of at most four tasks, whatever their Ups.
func TestAllSmallTrees(t *testing.T) {
	for _, s := range smallTrees(4) {
		judgedTree(t, s)
	}
}

// All systems of at most three tasks, whatever their Ups and Ways.
func TestAllWaysOfSmallTrees(t *testing.T) {
	for n := range 4 {
		for _, ways := range inAllWays(n, []int{-1, 0, 1, 2, 3, 4, 5}) {
			for _, ups := range inAllWays(n, upsOf(n)) {
				judgedLive(t, withWays(treeOf(ups...), ways...))
			}
		}
	}
}

func TestNoTasks(t *testing.T) {
	for _, s := range []impl.Sys{{}, {Tasks: []impl.Task{}}, {Tasks: make([]impl.Task, 0, 4)}, {Clock: 7, Cells: []impl.Cell{free(3, 1)}, Log: []impl.Entry{{}}}} {
		for _, place := range oddPlaces {
			listIs(t, "kids", impl.TreeKids(s, place))
			for _, up := range oddPlaces {
				if impl.TreeUnder(s, place, up) {
					t.Errorf("%d is under %d", place, up)
				}
			}
		}
		listIs(t, "live", impl.TreeLive(s))
		listIs(t, "walk", impl.TreeWalk(s))
		if !impl.TreeOk(s) {
			t.Error("there is nobody who could be left")
		}
	}
}

func TestOneTask(t *testing.T) {
	for way := -1; way < 6; way++ {
		s := withWays(treeOf(-1), way)
		walkIs(t, s, 0)
		listIs(t, "kids", impl.TreeKids(s, 0))
		underIs(t, s, 0)
		if !impl.TreeOk(s) {
			t.Errorf("there is nobody above: %v", upsAndWays(s))
		}
	}
	listIs(t, "runs", impl.TreeLive(withWays(treeOf(-1), impl.TaskRuns)), 0)
	listIs(t, "waits", impl.TreeLive(withWays(treeOf(-1), impl.TaskWaits)), 0)
	for _, way := range []int{-1, impl.TaskEnded, impl.TaskFailed, impl.TaskOff, 5} {
		listIs(t, "neither", impl.TreeLive(withWays(treeOf(-1), way)))
	}
	// Without an Up of -1 there is nobody to walk from.
	for _, up := range []int{0, 1, 2, -2, math.MinInt, math.MaxInt} {
		walkIs(t, treeOf(up))
		listIs(t, "live", impl.TreeLive(treeOf(up)), 0)
	}
}

// Tasks that begin tasks that begin tasks, as many as there may be.
func TestTasksOfTasksOfTasks(t *testing.T) {
	p, s := begun(t, "cells\nbody\nfork 1 1\nbody\nfork 2 2\nbody\ntry\n", 0, 2, 1)
	if len(s.Tasks) != impl.ProgTasks || !impl.SysOk(p, s) {
		t.Fatalf("%+v", s)
	}
	// Task 2 began its tasks first, so they stand ahead of those of task 1, but are walked behind them.
	walkIs(t, s, 0, 1, 5, 6, 2, 3, 4)
	for task, kids := range [][]int{{1, 2}, {5, 6}, {3, 4}, nil, nil, nil, nil} {
		listIs(t, "kids", impl.TreeKids(s, task), kids...)
	}
	underIs(t, s, 0, 1, 2, 3, 4, 5, 6)
	underIs(t, s, 1, 5, 6)
	underIs(t, s, 2, 3, 4)
	for task := 3; task < 7; task++ {
		underIs(t, s, task)
	}
	listIs(t, "live", impl.TreeLive(s), 0, 1, 2, 3, 4, 5, 6)
	s = mustRest(t, p, s, 2000)
	walkIs(t, s, 0, 1, 5, 6, 2, 3, 4)
	listIs(t, "live", impl.TreeLive(s))
	listIs(t, "all ended", impl.SysWays(s), repeated(impl.TaskEnded, impl.ProgTasks)...)
}

// Each task has one task, which has one task, as far as that goes; or all are of the first one, by three forks.
func TestDeepAndWideTrees(t *testing.T) {
	p, s := begun(t, "cells\nbody\nfork 1\nbody\nfork 2\nbody\nfork 3\nbody\n", 0, 1, 2)
	walkIs(t, s, 0, 1, 2, 3)
	underIs(t, s, 0, 1, 2, 3)
	underIs(t, s, 1, 2, 3)
	underIs(t, s, 2, 3)
	listIs(t, "live", impl.TreeLive(s), 0, 1, 2, 3)
	listIs(t, "ready", impl.SysReady(p, s), 3)
	p, s = begun(t, "cells\nbody\nfork 1 1\nfork 1 1\nfork 1 1\nbody\n", 0, 2, 1, 0, 0, 3, 4, 0, 0)
	walkIs(t, s, 0, 1, 2, 3, 4, 5, 6)
	listIs(t, "kids", impl.TreeKids(s, 0), 1, 2, 3, 4, 5, 6)
	listIs(t, "live", impl.TreeLive(s), 0, 5, 6)
	listIs(t, "ready", impl.SysReady(p, s), 5, 6)
	for task := 1; task < 7; task++ {
		listIs(t, "kids", impl.TreeKids(s, task))
		underIs(t, s, task)
	}
}

// One of tasks of tasks fails: that goes up step by step, and all that are under are called off.
func TestOneFailsAndThoseUnderAreCalledOff(t *testing.T) {
	p, s := begun(t, "cells\nbody\nfork 1 2\nbody\nfork 3 3\nbody\nfail\nbody\ntry\n", 0, 1)
	listIs(t, "live", impl.TreeLive(s), 0, 1, 2, 3, 4)
	walkIs(t, s, 0, 1, 3, 4, 2)
	s = mustRun(t, p, s, 3, 3, 3, 2)
	listIs(t, "ways", impl.SysWays(s), 1, 1, 3, 2, 0)
	listIs(t, "live", impl.TreeLive(s), 0, 1, 4)
	if !impl.TreeOk(s) {
		t.Error("the first still waits")
	}
	s = mustStep(t, p, s, 0)
	listIs(t, "ways", impl.SysWays(s), 3, 4, 3, 2, 4)
	listIs(t, "live", impl.TreeLive(s))
	walkIs(t, s, 0, 1, 3, 4, 2)
	if !impl.TreeOk(s) || !impl.SysOver(p, s) {
		t.Errorf("%+v", s)
	}
	// Had it left one of them behind, that would show, whichever it was.
	for task := 1; task < 5; task++ {
		for _, way := range []int{impl.TaskRuns, impl.TaskWaits} {
			q := copiedSys(s)
			q.Tasks[task].Way = way
			listIs(t, "live", impl.TreeLive(q), task)
			if impl.TreeOk(q) || impl.SysOk(p, q) {
				t.Errorf("%d is left: %v", task, upsAndWays(q))
			}
		}
	}
}

// By turns alone a program comes to SysTime; tasks stay there as they are: live, and holding what they hold.
func TestTreesAtSysTime(t *testing.T) {
	for _, text := range lateTexts {
		p, s := begun(t, text)
		for turns := lateTurns(); len(turns) > 0; turns = turns[min(300, len(turns)):] {
			s = mustRun(t, p, s, turns[:min(300, len(turns))]...)
		}
		if s.Clock != impl.SysTime || !impl.SysOk(p, s) || !impl.TreeOk(s) || !impl.SysOver(p, s) || len(s.Log) != 0 {
			t.Fatalf("%+v", s)
		}
		walkIs(t, s, 0, 1, 3, 4, 2)
		listIs(t, "live", impl.TreeLive(s), 0, 1, 2, 3, 4)
		listIs(t, "held", impl.SysHeld(s), len(s.Cells)-1)
		listIs(t, "ready", impl.SysReady(p, s))
		listIs(t, "awaits", impl.SysAwait(s))
		sysIs(t, "nobody takes a step", mustRest(t, p, s, 2000), s)
	}
}

// Up may be anything: what is no task's place, or not ahead, is nobody's, but TreeOk looks at any task.
func TestUpsThatAreNotAhead(t *testing.T) {
	for _, up := range []int{1, 2, 3, 4, 99, -2, -3, math.MinInt, math.MaxInt} {
		// Task 1 is cut off, with task 2, that is of its.
		s := treeOf(-1, up, 1, 0)
		walkIs(t, s, 0, 3)
		underIs(t, s, 0, 3)
		underIs(t, s, 1, 2)
		underIs(t, s, 2)
		underIs(t, s, 3)
	}
	// Its own place: it is under nobody, but asked whether it waits.
	s := treeOf(-1, 1)
	walkIs(t, s, 0)
	underIs(t, s, 1)
	listIs(t, "kids", impl.TreeKids(s, 1))
	if !impl.TreeOk(s) || impl.TreeOk(withWays(s, impl.TaskWaits, impl.TaskRuns)) {
		t.Error("its own place")
	}
	// Behind it.
	s = withWays(treeOf(-1, 2, -1), impl.TaskWaits, impl.TaskRuns, impl.TaskEnded)
	walkIs(t, s, 0, 2)
	if impl.TreeOk(s) || !impl.TreeOk(withWays(s, impl.TaskWaits, impl.TaskRuns, impl.TaskWaits)) {
		t.Error("behind it")
	}
	// Past the end, and below 0: there is no task that could wait.
	for _, up := range []int{2, 3, math.MaxInt, -1, -2, math.MinInt} {
		s = withWays(treeOf(-1, up), impl.TaskEnded, impl.TaskRuns)
		if !impl.TreeOk(s) {
			t.Errorf("%v", upsAndWays(s))
		}
	}
}

// Tasks that stand each above the other: one comes from the last one to the first of them, and no farther.
func TestTasksThatStandEachAboveTheOther(t *testing.T) {
	s := treeOf(-1, 2, 1)
	walkIs(t, s, 0)
	underIs(t, s, 0)
	underIs(t, s, 1, 2)
	underIs(t, s, 2)
	listIs(t, "kids", impl.TreeKids(s, 1), 2)
	listIs(t, "kids", impl.TreeKids(s, 2))
	// The first one among them: it is under nobody.
	s = treeOf(1, 0)
	walkIs(t, s)
	underIs(t, s, 0, 1)
	underIs(t, s, 1)
	// Three in a ring, in both directions.
	s = treeOf(2, 0, 1)
	walkIs(t, s)
	underIs(t, s, 0, 1, 2)
	underIs(t, s, 1, 2)
	s = treeOf(1, 2, 0)
	walkIs(t, s)
	underIs(t, s, 0, 2)
	underIs(t, s, 1)
	// A ring with tasks under it, and beside a tree.
	s = treeOf(-1, 3, 0, 1, 3, 2)
	walkIs(t, s, 0, 2, 5)
	underIs(t, s, 1, 3, 4)
	underIs(t, s, 3, 4)
}

// TreeUnder goes on only as long as Up is ahead: what is beyond is not come to, though Up names it.
func TestUnderGoesOnOnlyAsLongAsUpIsAhead(t *testing.T) {
	s := treeOf(-1, 0, 4, 2, 1, 3)
	// From 5 to 3 and 2; Up of 2 is 4, which is behind, so neither 4, nor 1, nor 0 is come to.
	for up, want := range []bool{false, false, true, true, false, false} {
		if impl.TreeUnder(s, 5, up) != want {
			t.Errorf("5 under %d: %v", up, !want)
		}
	}
	for up, want := range []bool{true, true, false, false, false, false} {
		if impl.TreeUnder(s, 4, up) != want {
			t.Errorf("4 under %d: %v", up, !want)
		}
	}
	walkIs(t, s, 0, 1, 4)
	// Below 0 is nobody, also not of an Up that names it.
	s = treeOf(-1, -2, math.MinInt)
	for task := range 3 {
		for _, up := range []int{-1, -2, math.MinInt} {
			if impl.TreeUnder(s, task, up) || len(impl.TreeKids(s, up)) != 0 {
				t.Errorf("%d under %d", task, up)
			}
		}
	}
}

// Each one whose Up is -1 is walked from, in the order of their places, with all of its own ahead of the next.
func TestSeveralFromWhomToWalk(t *testing.T) {
	walkIs(t, treeOf(-1, -1, -1), 0, 1, 2)
	walkIs(t, treeOf(-1, -1, 0, 1, 0, 1), 0, 2, 4, 1, 3, 5)
	walkIs(t, treeOf(-1, 0, -1, 1, 2, 0), 0, 1, 3, 5, 2, 4)
	// The first is not among them, or is cut off with its own.
	walkIs(t, treeOf(-2, -1, 0, 1), 1, 3)
	walkIs(t, treeOf(0, 0, -1, 2, 1), 2, 3)
	walkIs(t, treeOf(5, 0, -1, -1), 2, 3)
	// Nobody is.
	walkIs(t, treeOf(0, 1, 2))
	walkIs(t, treeOf(-2, 0, 1, 2))
	walkIs(t, treeOf(3, 0, 1, 2))
}

// A Way that is none is not live, and does not wait.
func TestWaysThatAreNone(t *testing.T) {
	for _, way := range []int{-1, -2, 5, 6, 99, math.MinInt, math.MaxInt} {
		s := withWays(treeOf(-1, 0, 1), impl.TaskWaits, way, impl.TaskEnded)
		listIs(t, "live", impl.TreeLive(s), 0)
		if !impl.TreeOk(s) {
			t.Errorf("nobody asks: %v", upsAndWays(s))
		}
		s = withWays(s, way, way, impl.TaskRuns)
		listIs(t, "live", impl.TreeLive(s), 2)
		if impl.TreeOk(s) {
			t.Errorf("it does not wait: %v", upsAndWays(s))
		}
		walkIs(t, s, 0, 1, 2)
	}
}

// Each Way of a task under each Way of another one.
func TestWhoMayBeUnderWhom(t *testing.T) {
	for up := range 5 {
		for way := range 5 {
			s := withWays(treeOf(-1, 0), up, way)
			want := up == impl.TaskWaits || way != impl.TaskRuns && way != impl.TaskWaits
			if impl.TreeOk(s) != want {
				t.Errorf("not %v: %v", want, upsAndWays(s))
			}
			// The same, far behind others that are as they must be.
			s = withWays(treeOf(-1, 0, 0, 0, 2, 4, 5), 1, 2, 1, 3, 1, up, way)
			if impl.TreeOk(s) != want {
				t.Errorf("not %v: %v", want, upsAndWays(s))
			}
		}
	}
}

// A place that is no task's has no tasks, and is under nobody, whatever Ups name.
func TestPlacesThatAreNoTasks(t *testing.T) {
	s := treeOf(-1, 0, -1, 7, -2, math.MaxInt, math.MinInt)
	for _, none := range []int{-1, -2, -3, 7, 8, 100, math.MinInt, math.MaxInt} {
		listIs(t, "kids", impl.TreeKids(s, none))
		for _, task := range treePlaces(s) {
			if impl.TreeUnder(s, task, none) || impl.TreeUnder(s, none, task) {
				t.Errorf("%d and %d", task, none)
			}
		}
	}
}

// Chapter 21 looks at Up and Way of tasks alone: not at cells, the time, the log, or anything else of tasks.
func TestNothingElseIsLookedAtForTrees(t *testing.T) {
	for _, x := range someTreeSteps(200) {
		var s impl.Sys
		for _, task := range x.after.Tasks {
			s.Tasks = append(s.Tasks, impl.Task{Up: task.Up, Way: task.Way})
		}
		if impl.TreeOk(s) != impl.TreeOk(x.after) {
			t.Fatalf("%+v", x.after)
		}
		listIs(t, "live", impl.TreeLive(s), impl.TreeLive(x.after)...)
		listIs(t, "walk", impl.TreeWalk(s), impl.TreeWalk(x.after)...)
		for task := range s.Tasks {
			listIs(t, "kids", impl.TreeKids(s, task), impl.TreeKids(x.after, task)...)
			underIs(t, s, task, underOf(x.after, task)...)
		}
	}
}

// bigTree is so many tasks, each with an Up.
func bigTree(n int, up func(place int) int) impl.Sys {
	s := impl.Sys{Tasks: make([]impl.Task, n)}
	for place := range n {
		s.Tasks[place] = impl.Task{Up: up(place), Way: impl.TaskWaits}
	}
	return s
}

// Systems of very many tasks come to an end as well, be they deep, wide, a ring, or both.
func TestBigTreesComeToAnEnd(t *testing.T) {
	const n = 200000
	all := placesOf(bigTree(n, func(int) int { return 0 }))
	for name, x := range map[string]struct {
		up   func(place int) int
		walk []int
		// Whether the last task is under the first one, and the one ahead of it.
		first, ahead bool
	}{
		"deep":       {func(place int) int { return place - 1 }, all, true, true},
		"wide":       {func(place int) int { return min(place, 1) - 1 }, all, true, false},
		"apart":      {func(int) int { return -1 }, all, false, false},
		"backwards":  {func(place int) int { return place + 1 }, nil, false, false},
		"own places": {func(place int) int { return place }, nil, false, false},
		"a ring":     {func(place int) int { return (place + n - 1) % n }, nil, true, true},
	} {
		s := bigTree(n, x.up)
		if got := impl.TreeWalk(s); !slices.Equal(got, x.walk) {
			t.Errorf("%s: %d were walked, not %d", name, len(got), len(x.walk))
		}
		if impl.TreeUnder(s, n-1, 0) != x.first || impl.TreeUnder(s, n-1, n-2) != x.ahead || impl.TreeUnder(s, 0, n-1) || impl.TreeUnder(s, n-1, n-1) || impl.TreeUnder(s, n-1, -1) || impl.TreeUnder(s, n-1, n) {
			t.Errorf("%s: under", name)
		}
		if !impl.TreeOk(s) || len(impl.TreeLive(s)) != n {
			t.Errorf("%s: live", name)
		}
		s.Tasks[n/2].Way = impl.TaskOff
		if want := name == "apart" || name == "wide" || name == "own places"; impl.TreeOk(s) != want || len(impl.TreeLive(s)) != n-1 {
			t.Errorf("%s: one was called off", name)
		}
	}
	listIs(t, "kids", impl.TreeKids(bigTree(n, func(place int) int { return min(place, 1) - 1 }), 0), all[1:]...)
}
