package tests

import (
	"math"
	"math/rand/v2"
	"slices"
	"testing"

	"loop.example/equerry/impl"
)

// Promises 61 to 86, in their order; what a promise speaks of is asked of the program, or worked out on the spot, not taken from the tests' own reading.

// Promise 61.
func TestAStepLeavesAnOkSystemAndWhoTookItWasReady(t *testing.T) {
	took, not, late := 0, 0, 0
	for _, x := range treeSteps() {
		if !impl.SysOk(x.p, x.after) || !impl.TreeOk(x.after) {
			t.Fatalf("%d: %+v, of %+v", x.task, x.after, x.before)
		}
		if x.after.Clock == impl.SysTime {
			late++
		}
	}
	for _, x := range someTreeSteps(5) {
		ready := impl.SysReady(x.p, x.before)
		for _, task := range treePlaces(x.before) {
			s, ok := impl.SysStep(x.p, x.before, task)
			if !ok {
				not++
				continue
			}
			took++
			if !slices.Contains(ready, task) || !impl.SysOk(x.p, s) || !impl.TreeOk(s) {
				t.Fatalf("%d: %+v, of %+v", task, s, x.before)
			}
		}
	}
	enough(t, 100, took, not, late)
}

// Promise 62: of all ok systems, at SysTime, too, where nobody can.
func TestReadyAreJustThoseThatCanTakeAStep(t *testing.T) {
	can, not, late := 0, 0, 0
	for _, x := range okSteps(5) {
		ready, live := impl.SysReady(x.p, x.after), impl.TreeLive(x.after)
		for _, task := range treePlaces(x.after) {
			_, ok := impl.SysStep(x.p, x.after, task)
			if ok != slices.Contains(ready, task) || ok && !slices.Contains(live, task) {
				t.Fatalf("%d, %v, of %v: %+v", task, ok, ready, x.after)
			}
			if ok {
				can++
			} else {
				not++
			}
		}
		if x.after.Clock == impl.SysTime {
			late++
			listIs(t, "at SysTime", ready)
		}
	}
	enough(t, 100, can, not, late)
}

// Promise 63: those that are begun are under it, too.
func TestAStepChangesNothingOfWhoIsNotUnder(t *testing.T) {
	stay, changed, begun, times, entries := 0, 0, 0, 0, 0
	for _, x := range treeSteps() {
		for i, b := range x.after.Tasks {
			under := impl.TreeUnder(x.after, i, x.task)
			if i >= len(x.before.Tasks) {
				begun++
				if !under {
					t.Fatalf("%d was begun: %+v, of %+v", i, x.after, x.before)
				}
				continue
			}
			if impl.TreeUnder(x.before, i, x.task) != under {
				t.Fatalf("%d is elsewhere: %+v, of %+v", i, x.after, x.before)
			}
			same := sameTask(x.before.Tasks[i], b)
			if under && !same {
				changed++
			}
			if !under && i != x.task {
				stay++
				if !same {
					t.Fatalf("%d: %+v, of %+v", i, x.after, x.before)
				}
			}
		}
		if !inRange(x.after.Clock-x.before.Clock, 0, 1) || !isFirstOf(x.before.Log, x.after.Log) {
			t.Fatalf("%+v, of %+v", x.after, x.before)
		}
		times += x.after.Clock - x.before.Clock
		entries += len(x.after.Log) - len(x.before.Log)
	}
	enough(t, 200, stay, changed, begun, times, entries)
}

// isFirstOf says whether a log goes on as another one.
func isFirstOf(first, log []impl.Entry) bool {
	return len(first) <= len(log) && sameLog(first, log[:len(first)])
}

// Promise 64.
func TestRunsLeaveAnOkSystem(t *testing.T) {
	r := rand.New(rand.NewPCG(77, 78))
	for _, x := range someTreeSteps(20) {
		turns := someTurns(r, r.IntN(80), 7)
		s := mustRun(t, x.p, x.before, turns...)
		if !impl.SysOk(x.p, s) || !impl.TreeOk(s) {
			t.Fatalf("%v: %+v, of %+v", turns, s, x.before)
		}
		if s.Clock < x.before.Clock || len(s.Tasks) < len(x.before.Tasks) || !isFirstOf(x.before.Log, s.Log) {
			t.Fatalf("%v: less: %+v, of %+v", turns, s, x.before)
		}
	}
	for _, p := range someProgs(1000) {
		s := mustRun(t, p, mustNew(t, p), someTurns(r, 300, impl.ProgTasks)...)
		if !impl.SysOk(p, s) || !impl.TreeOk(s) || len(s.Tasks) < 1 || s.Clock < 0 {
			t.Fatalf("%v: %+v", p, s)
		}
	}
}

// Promise 65.
func TestRestsLeaveAnOkSystem(t *testing.T) {
	r := rand.New(rand.NewPCG(79, 80))
	over, not := 0, 0
	for _, x := range someTreeSteps(20) {
		s := mustRest(t, x.p, x.before, []int{0, 1, r.IntN(60), 2000}[r.IntN(4)])
		if !impl.SysOk(x.p, s) || !impl.TreeOk(s) {
			t.Fatalf("%+v, of %+v", s, x.before)
		}
		if !impl.SysOver(x.p, s) {
			not++
			continue
		}
		over++
		for _, most := range []int{0, 1, 7, 2000} {
			if more := mustRest(t, x.p, s, most); !sameSys(more, s) {
				t.Fatalf("%d more: %+v, of %+v", most, more, s)
			}
		}
	}
	enough(t, 500, over, not)
}

// Promise 66: of all ok systems; and with anything in it changed so that it is not so, a system is not ok.
func TestInAnOkSystemNoCellIsNewerThanClock(t *testing.T) {
	newer, left := 0, 0
	for _, x := range okSteps(4) {
		if !impl.SysOk(x.p, x.after) || !impl.TreeOk(x.after) {
			t.Fatalf("%+v", x.after)
		}
		for cell, c := range x.after.Cells {
			if c.Time > x.after.Clock {
				t.Fatalf("cell %d: %+v", cell, x.after)
			}
			s := copiedSys(x.after)
			s.Cells[cell].Time = s.Clock + 1
			if newer++; impl.SysOk(x.p, s) {
				t.Fatalf("cell %d: %+v", cell, s)
			}
		}
		for i := range x.after.Tasks {
			for _, way := range []int{impl.TaskRuns, impl.TaskWaits, impl.TaskEnded, impl.TaskFailed, impl.TaskOff} {
				s := copiedSys(x.after)
				s.Tasks[i].Way = way
				if impl.TreeOk(s) {
					continue
				}
				if left++; impl.SysOk(x.p, s) {
					t.Fatalf("task %d: %+v", i, s)
				}
			}
		}
	}
	enough(t, 5000, newer, left)
}

// Promise 67.
func TestAProgramBeginsWithOneTaskThatIsReady(t *testing.T) {
	for _, p := range someProgs(2000) {
		s := mustNew(t, p)
		if len(s.Tasks) != 1 || !impl.SysOk(p, s) || !impl.TreeOk(s) {
			t.Fatalf("%v: %+v", p, s)
		}
		listIs(t, "ready", impl.SysReady(p, s), 0)
		listIs(t, "held", impl.SysHeld(s))
		listIs(t, "live", impl.TreeLive(s), 0)
		listIs(t, "walk", impl.TreeWalk(s), 0)
		listIs(t, "kids", impl.TreeKids(s, 0))
		listIs(t, "awaits", impl.SysAwait(s))
	}
}

// overSystems is systems that are over, behind steps and rests, and such with something changed in them that still are.
func overSystems(t *testing.T) []seenStep {
	t.Helper()
	var list []seenStep
	for _, x := range okSteps(2) {
		if impl.SysOver(x.p, x.after) {
			list = append(list, x)
		}
	}
	for _, x := range someTreeSteps(10) {
		s := mustRest(t, x.p, x.after, 2000)
		if !impl.SysOver(x.p, s) {
			t.Fatalf("not over: %+v", s)
		}
		list = append(list, seenStep{x.p, x.before, x.task, s})
	}
	return list
}

// Promise 68: ahead of SysTime; then nobody takes a step, whatever is held.
func TestIfOverNothingIsHeldAndWhoRunsAwaits(t *testing.T) {
	awaits, none, late := 0, 0, 0
	for _, x := range overSystems(t) {
		if x.after.Clock == impl.SysTime {
			late += len(impl.SysHeld(x.after))
			continue
		}
		listIs(t, "held", impl.SysHeld(x.after))
		var runs []int
		for i, way := range impl.SysWays(x.after) {
			if way == impl.TaskRuns {
				runs = append(runs, i)
			}
		}
		listIs(t, "who runs", impl.SysAwait(x.after), runs...)
		if len(runs) > 0 {
			awaits++
		} else {
			none++
		}
	}
	enough(t, 100, awaits, none, late)
}

// Promise 69: of any system.
func TestWaysAreAsManyAsTasksAndAsManyAreLive(t *testing.T) {
	live, not := 0, 0
	for _, s := range someTrees(t) {
		ways := impl.SysWays(s)
		if len(ways) != len(s.Tasks) {
			t.Fatalf("%v: %v", ways, upsAndWays(s))
		}
		n := 0
		for _, way := range ways {
			if way == impl.TaskRuns || way == impl.TaskWaits {
				n++
			}
		}
		if list := impl.TreeLive(s); len(list) != n {
			t.Fatalf("%v: %v", list, upsAndWays(s))
		}
		live, not = live+n, not+len(ways)-n
	}
	enough(t, 5000, live, not)
}

// someTrees is systems of all kinds: small ones with any Ups, odd ones, and such on the way.
func someTrees(t *testing.T) []impl.Sys {
	t.Helper()
	list := slices.Concat(smallTrees(4), oddTrees(3000))
	for _, x := range okSteps(40) {
		list = append(list, x.after)
	}
	return list
}

// Promise 70: of all ok systems.
func TestWhoAwaitsIsLiveNotReadyAndWaitsForTheNextTime(t *testing.T) {
	awaits, beside := 0, 0
	for _, x := range okSteps(2) {
		ready, live := impl.SysReady(x.p, x.after), impl.TreeLive(x.after)
		for _, i := range impl.SysAwait(x.after) {
			awaits++
			beside += len(ready)
			if !slices.Contains(live, i) || slices.Contains(ready, i) || x.after.Tasks[i].When != x.after.Clock+1 {
				t.Fatalf("%d: %+v", i, x.after)
			}
		}
	}
	enough(t, 500, awaits, beside)
}

// Promise 71.
func TestTasksAreBegunJustByAFork(t *testing.T) {
	forks, not := 0, 0
	for _, x := range treeSteps() {
		a := x.before.Tasks[x.task]
		acts := x.p.Bodies[a.Body]
		var kids []int
		if a.Way == impl.TaskRuns && a.Pc < len(acts) && acts[a.Pc].Kind == impl.ActFork {
			kids = acts[a.Pc].Kids
			forks++
			if x.after.Tasks[x.task].Way != impl.TaskWaits {
				t.Fatalf("it does not wait: %+v, of %+v", x.after, x.before)
			}
		} else {
			not++
		}
		var bodies []int
		for i, b := range x.after.Tasks[len(x.before.Tasks):] {
			bodies = append(bodies, b.Body)
			if !sameTask(b, impl.Task{Body: b.Body, Up: x.task, Regs: []int{0, 0, 0}, Old: []int{0, 0, 0}}) {
				t.Fatalf("%d: %+v, of %+v", i, b, x.before)
			}
			if !slices.Contains(impl.TreeKids(x.after, x.task), len(x.before.Tasks)+i) {
				t.Fatalf("%d is elsewhere: %+v", i, x.after)
			}
		}
		if !slices.Equal(bodies, kids) {
			t.Fatalf("%v, not %v: %+v, of %+v", bodies, kids, x.after, x.before)
		}
	}
	enough(t, 1000, forks, not)
}

// Promise 72: by its own act, and as one of its has failed.
func TestUnderWhoHasJustFailedNobodyIsLive(t *testing.T) {
	own, waited, deep := 0, 0, 0
	for _, x := range treeSteps() {
		a, b := x.before.Tasks[x.task], x.after.Tasks[x.task]
		if a.Way == impl.TaskFailed || b.Way != impl.TaskFailed {
			continue
		}
		under := underOf(x.after, x.task)
		if live := liveOf(x.after, under); len(live) > 0 {
			t.Fatalf("%v: %+v, of %+v", live, x.after, x.before)
		}
		if len(liveOf(x.before, under)) > len(liveOf(x.before, impl.TreeKids(x.before, x.task))) {
			deep++
		}
		if a.Way == impl.TaskWaits {
			waited++
		} else {
			own++
		}
	}
	enough(t, 20, own, waited, deep)
}

// Promise 73.
func TestWhoWaitedRunsOnJustIfAllHaveEnded(t *testing.T) {
	on, failed := 0, 0
	for _, x := range treeSteps() {
		a, b := x.before.Tasks[x.task], x.after.Tasks[x.task]
		if a.Way != impl.TaskWaits {
			continue
		}
		kids := impl.TreeKids(x.before, x.task)
		all := !slices.ContainsFunc(kids, func(i int) bool { return x.before.Tasks[i].Way != impl.TaskEnded })
		if all {
			on++
			a.Way, a.Pc = impl.TaskRuns, a.Pc+1
		} else {
			failed++
			a.Way = impl.TaskFailed
			if live := liveOf(x.after, underOf(x.after, x.task)); len(live) > 0 {
				t.Fatalf("%v: %+v, of %+v", live, x.after, x.before)
			}
		}
		if !sameTask(a, b) || len(kids) == 0 {
			t.Fatalf("%+v, of %+v", x.after, x.before)
		}
	}
	enough(t, 200, on, failed)
}

// Promise 74: ahead of SysTime, as promise 68.
func TestIfOverAndNobodyAwaitsNobodyIsLive(t *testing.T) {
	none, awaits := 0, 0
	for _, x := range overSystems(t) {
		if x.after.Clock == impl.SysTime {
			continue
		}
		if len(impl.SysAwait(x.after)) > 0 {
			awaits++
			continue
		}
		none++
		listIs(t, "live", impl.TreeLive(x.after))
	}
	enough(t, 100, none, awaits)
}

// atDeed is the kind of the deed that a task is at; 0, if it is at none.
func atDeed(p impl.Prog, x impl.Task) int {
	if x.Stage != impl.StageDeeds {
		return 0
	}
	deeds := p.Bodies[x.Body][x.Pc].Deeds
	if x.At == len(deeds) {
		return 0
	}
	return deeds[x.At].Kind
}

// Promise 75: but with a step that takes the time SysTime, behind which there are none.
func TestADeedThatLoadsNothingMayChangePlace(t *testing.T) {
	kinds := map[int]int{}
	stages := map[int]int{}
	for _, x := range treeSteps() {
		s := x.after
		ready := impl.SysReady(x.p, s)
		for _, one := range ready {
			kind := atDeed(x.p, s.Tasks[one])
			if kind == 0 || kind == impl.DeedLoad {
				continue
			}
			for _, other := range ready {
				if other == one || impl.TreeUnder(s, one, other) || s.Clock+1 == impl.SysTime && s.Tasks[other].Stage == impl.StageTime {
					continue
				}
				kinds[kind]++
				stages[s.Tasks[other].Stage]++
				ahead := mustStep(t, x.p, mustStep(t, x.p, s, one), other)
				behind := mustStep(t, x.p, mustStep(t, x.p, s, other), one)
				if !sameSys(ahead, behind) {
					t.Fatalf("%d and %d: %+v, not %+v: %+v", one, other, ahead, behind, s)
				}
			}
		}
	}
	enough(t, 50, kinds[impl.DeedStore], kinds[impl.DeedNum], kinds[impl.DeedAdd], kinds[impl.DeedNeed])
	enough(t, 50, stages[0], stages[1], stages[2], stages[3], stages[4], stages[5])
}

// Promise 76: of any system.
func TestKidsAreBehindAndUnderAscending(t *testing.T) {
	some := 0
	for _, s := range someTrees(t) {
		for _, task := range treePlaces(s) {
			last := task
			for _, kid := range impl.TreeKids(s, task) {
				some++
				if kid <= last || kid >= len(s.Tasks) || !impl.TreeUnder(s, kid, task) || s.Tasks[kid].Up != task {
					t.Fatalf("%d of %d: %v", kid, task, upsAndWays(s))
				}
				last = kid
			}
		}
	}
	enough(t, 5000, some)
}

// Promise 77: of all ok systems.
func TestAllTasksButTheFirstAreInKidsOfOne(t *testing.T) {
	some := 0
	for _, x := range okSteps(10) {
		of := map[int]int{}
		for task := range x.after.Tasks {
			for _, kid := range impl.TreeKids(x.after, task) {
				of[kid]++
			}
		}
		for task := range x.after.Tasks {
			some += of[task]
			if of[task] != min(task, 1) || impl.TreeUnder(x.after, task, 0) != (task > 0) {
				t.Fatalf("%d: %v", task, upsAndWays(x.after))
			}
		}
		if len(of) != len(x.after.Tasks)-1 {
			t.Fatalf("%v: %v", of, upsAndWays(x.after))
		}
	}
	enough(t, 5000, some)
}

// Promise 78: of any system.
func TestWhoIsUnderAnotherOneIsBehindAndNotAbove(t *testing.T) {
	right, far := 0, 0
	for _, s := range someTrees(t) {
		for _, task := range treePlaces(s) {
			for _, up := range treePlaces(s) {
				if !impl.TreeUnder(s, task, up) {
					continue
				}
				if task <= up || impl.TreeUnder(s, up, task) {
					t.Fatalf("%d and %d: %v", task, up, upsAndWays(s))
				}
				if s.Tasks[task].Up == up {
					right++
				} else if far++; !impl.TreeUnder(s, s.Tasks[task].Up, up) {
					t.Fatalf("%d and %d: %v", task, up, upsAndWays(s))
				}
			}
		}
	}
	enough(t, 1000, right, far)
}

// Promise 79: of any system.
func TestUnderGoesOnAndNobodyIsUnderItself(t *testing.T) {
	on := 0
	for _, s := range someTrees(t) {
		for _, task := range treePlaces(s) {
			if impl.TreeUnder(s, task, task) {
				t.Fatalf("%d: %v", task, upsAndWays(s))
			}
			for _, below := range underOf(s, task) {
				for _, lower := range underOf(s, below) {
					if on++; !impl.TreeUnder(s, lower, task) {
						t.Fatalf("%d, %d and %d: %v", task, below, lower, upsAndWays(s))
					}
				}
			}
		}
	}
	enough(t, 1000, on)
}

// Promise 80: of any system.
func TestLiveAreThoseThatRunOrWait(t *testing.T) {
	of := map[int]int{}
	for _, s := range someTrees(t) {
		list := impl.TreeLive(s)
		if !slices.IsSorted(list) || len(slices.Compact(slices.Clone(list))) != len(list) {
			t.Fatalf("%v: %v", list, upsAndWays(s))
		}
		for _, i := range list {
			if !inRange(i, 0, len(s.Tasks)-1) {
				t.Fatalf("%v: %v", list, upsAndWays(s))
			}
		}
		for i, x := range s.Tasks {
			of[x.Way]++
			if slices.Contains(list, i) != (x.Way == impl.TaskRuns || x.Way == impl.TaskWaits) {
				t.Fatalf("%v: %v", list, upsAndWays(s))
			}
		}
	}
	enough(t, 100, of[0], of[1], of[2], of[3], of[4], of[5], of[-1], of[math.MinInt], of[math.MaxInt])
}

// Promise 81: of any system; each one that is live is asked for alone, too.
func TestTreeOkLooksAtUpOfEachLiveOne(t *testing.T) {
	good, bad := 0, 0
	for _, s := range someTrees(t) {
		want := true
		for _, i := range impl.TreeLive(s) {
			up := s.Tasks[i].Up
			if !inRange(up, 0, len(s.Tasks)-1) {
				continue
			}
			waits := s.Tasks[up].Way == impl.TaskWaits
			want = want && waits
			// All others have ended, but for the one of Up.
			alone := copiedSys(s)
			for j := range alone.Tasks {
				if j != i && j != up {
					alone.Tasks[j].Way = impl.TaskEnded
				}
			}
			alone.Tasks[up].Up = len(s.Tasks)
			if up != i && impl.TreeOk(alone) != waits {
				t.Fatalf("%d: %v", i, upsAndWays(alone))
			}
		}
		if impl.TreeOk(s) != want {
			t.Fatalf("not %v: %v", want, upsAndWays(s))
		}
		if want {
			good++
		} else {
			bad++
		}
	}
	enough(t, 1000, good, bad)
}

// Promise 82: of all ok systems.
func TestWalkIsAllTasksEachOnceBehindUp(t *testing.T) {
	some := 0
	for _, x := range okSteps(5) {
		walk := impl.TreeWalk(x.after)
		if len(walk) != len(x.after.Tasks) || walk[0] != 0 {
			t.Fatalf("%v: %v", walk, upsAndWays(x.after))
		}
		seen := map[int]int{}
		for i, task := range walk {
			if _, twice := seen[task]; twice || !inRange(task, 0, len(walk)-1) {
				t.Fatalf("%v: %v", walk, upsAndWays(x.after))
			}
			seen[task] = i
			if _, ahead := seen[x.after.Tasks[task].Up]; !ahead && i > 0 {
				t.Fatalf("%v: %v", walk, upsAndWays(x.after))
			}
			some++
		}
	}
	enough(t, 5000, some)
}

// Promise 83: of all ok systems, and of any other one, but for those from whom the walk begins.
func TestTheOneAheadInTheWalkIsUpOrUnderUp(t *testing.T) {
	up, under := 0, 0
	for _, s := range append(someTrees(t), systemsOf(okSteps(5))...) {
		walk := impl.TreeWalk(s)
		for i, task := range walk {
			above := s.Tasks[task].Up
			if i == 0 || above == -1 {
				continue
			}
			if walk[i-1] == above {
				up++
			} else if under++; !impl.TreeUnder(s, walk[i-1], above) {
				t.Fatalf("%d of %v: %v", task, walk, upsAndWays(s))
			}
		}
	}
	enough(t, 1000, up, under)
}

func systemsOf(steps []seenStep) []impl.Sys {
	var list []impl.Sys
	for _, x := range steps {
		list = append(list, x.after)
	}
	return list
}

// Promise 84: of any system.
func TestTheFirstIsUnderNobodyAndNobodyUnderWhatIsNotThere(t *testing.T) {
	named := 0
	for _, s := range someTrees(t) {
		for _, place := range treePlaces(s) {
			if impl.TreeUnder(s, 0, place) {
				t.Fatalf("the first is under %d: %v", place, upsAndWays(s))
			}
			if inRange(place, 0, len(s.Tasks)-1) {
				continue
			}
			listIs(t, "what is not there has none", impl.TreeKids(s, place))
			for _, task := range treePlaces(s) {
				if inRange(task, 0, len(s.Tasks)-1) && s.Tasks[task].Up == place {
					named++
				}
				if impl.TreeUnder(s, task, place) || impl.TreeUnder(s, place, task) {
					t.Fatalf("%d and %d: %v", task, place, upsAndWays(s))
				}
			}
		}
	}
	enough(t, 1000, named)
}

// Promise 85 (NOBODY LEFT): of all ok systems.
func TestIfTheFirstIsOverNobodyIsLeft(t *testing.T) {
	ways := map[int]int{}
	for _, x := range okSteps(1) {
		way := x.after.Tasks[0].Way
		if way == impl.TaskRuns || way == impl.TaskWaits {
			continue
		}
		ways[way]++
		if len(impl.TreeLive(x.after)) != 0 || len(impl.SysHeld(x.after)) != 0 || !impl.SysOver(x.p, x.after) {
			t.Fatalf("%+v", x.after)
		}
	}
	enough(t, 100, ways[impl.TaskEnded], ways[impl.TaskFailed])
}

// nobodyLeft is promise 86 of one system; how many have ended under one, and how many were called off.
func nobodyLeft(t *testing.T, s impl.Sys) (ended, off int) {
	t.Helper()
	for i, x := range s.Tasks {
		if x.Way == impl.TaskEnded {
			for _, below := range underOf(s, i) {
				if ended++; s.Tasks[below].Way != impl.TaskEnded {
					t.Fatalf("%d under %d: %v", below, i, upsAndWays(s))
				}
			}
		}
		if x.Way == impl.TaskOff {
			off++
			if i == 0 || s.Tasks[x.Up].Way != impl.TaskFailed && s.Tasks[x.Up].Way != impl.TaskOff {
				t.Fatalf("%d was called off: %v", i, upsAndWays(s))
			}
		}
	}
	return ended, off
}

// Promise 86 (NOBODY LEFT).
func TestAllUnderWhoHasEndedHaveEnded(t *testing.T) {
	ended, off := 0, 0
	for i, x := range treeSteps() {
		e, o := nobodyLeft(t, x.after)
		ended, off = ended+e, off+o
		if i%20 == 0 {
			nobodyLeft(t, mustRest(t, x.p, x.after, 2000))
		}
	}
	enough(t, 1000, ended, off)
}

// Promises 61 to 86, in all orders of steps of small programs in which tasks of tasks end, fail, and are called off, some of them behind each other.
func TestNobodyIsLeftInAllOrders(t *testing.T) {
	for _, text := range []string{
		"cells\nbody\nfork 1 2\nfork 3\nbody\nfork 3 3\nbody\nfork 3\nfail\nbody\n",
		"cells 0\nbody\nfork 1\nbody\nfork 2 3\nbody\nfork 3\nbody\ntry r=1 A=r\nfailif r\n",
		"cells\nbody\nfork 1 1\nbody\nfork 2 2\nbody\nfail\n",
		"cells 0\nbody\nfork 1\nfork 3\nbody\nfork 2 3\nbody\ntry r=A r?\nbody\ntry r=4 A=r\n",
	} {
		p := mustRead(t, text)
		last := 0
		for _, s := range allSystems(t, p) {
			if !impl.SysOk(p, s) || !impl.TreeOk(s) {
				t.Fatalf("%q: %+v", text, s)
			}
			judgedTree(t, s)
			nobodyLeft(t, s)
			if !impl.SysOver(p, s) {
				continue
			}
			last++
			if way := s.Tasks[0].Way; way != impl.TaskEnded && way != impl.TaskFailed || len(impl.TreeLive(s)) != 0 {
				t.Fatalf("%q: %+v", text, s)
			}
		}
		if last == 0 {
			t.Errorf("nobody came to an end: %q", text)
		}
	}
}
