package tests

import (
	"math"
	"math/rand/v2"
	"slices"
	"testing"

	"loop.example/equerry/impl"
)

// wantBroken is which of the document's sentences on what SysOk asks do not hold, each by a word for it. What a sentence speaks of may not be there, as another one is broken: then it is not asked.
func wantBroken(p impl.Prog, s impl.Sys) []string {
	if !wantOk(p) {
		return []string{"program"}
	}
	var list []string
	ask := func(word string, holds bool) {
		if !holds && !slices.Contains(list, word) {
			list = append(list, word)
		}
	}
	ask("clock", inRange(s.Clock, 0, 200))
	ask("how many cells", len(s.Cells) == len(p.Cells))
	for i, c := range s.Cells {
		ask("cell's number", inRange(c.Num, 0, 99))
		ask("cell's time", inRange(c.Time, 0, s.Clock))
		if i < len(p.Cells) {
			ask("held", wantHolder(s, i, c.Lock))
		}
	}
	ask("how many tasks", inRange(len(s.Tasks), 1, 7))
	for i, t := range s.Tasks {
		askUp(ask, s, i, t)
		askTask(ask, p, s, i, t)
	}
	for i, e := range s.Log {
		ask("entry's task", inRange(e.Task, 0, len(s.Tasks)-1))
		if inRange(e.Task, 0, len(s.Tasks)-1) && inRange(s.Tasks[e.Task].Body, 0, len(p.Bodies)-1) {
			ask("entry's act", inRange(e.Act, 0, len(p.Bodies[s.Tasks[e.Task].Body])-1))
		}
		ask("entry's When", inRange(e.When, 0, s.Clock))
		ask("entry's From", inRange(e.From, 0, i))
		ask("entry's Reads", wantByCells(e.Reads, len(p.Cells)))
		ask("entry's Puts", wantByCells(e.Puts, len(p.Cells)))
	}
	return list
}

func wantByCells(list []impl.Put, cells int) bool {
	last := -1
	for _, x := range list {
		if x.Cell <= last || x.Cell >= cells || !inRange(x.Num, 0, 99) {
			return false
		}
		last = x.Cell
	}
	return true
}

// wantHolder says whether just that one must hold a cell (-1: nobody).
func wantHolder(s impl.Sys, cell, lock int) bool {
	var who []int
	for i, t := range s.Tasks {
		var cells []int
		for _, x := range t.Puts {
			cells = append(cells, x.Cell)
		}
		if (t.Stage == 3 || t.Stage == 4 || inRange(t.At, 0, len(cells))) && slices.Contains(mustHold(t.Stage, t.At, cells), cell) {
			who = append(who, i)
		}
	}
	if len(who) == 0 {
		return lock == -1
	}
	return len(who) == 1 && lock == who[0]
}

func wantLive(t impl.Task) bool { return t.Way == 0 || t.Way == 1 }

func askUp(ask func(string, bool), s impl.Sys, i int, t impl.Task) {
	if i == 0 {
		ask("first's Up", t.Up == -1)
		return
	}
	ask("Up", inRange(t.Up, 0, i-1))
	if inRange(t.Up, 0, i-1) && wantLive(t) {
		ask("Up waits", s.Tasks[t.Up].Way == 1)
	}
}

func askTask(ask func(string, bool), p impl.Prog, s impl.Sys, i int, t impl.Task) {
	ask("Regs", len(t.Regs) == 3 && wantNums(t.Regs))
	ask("Old", len(t.Old) == 3 && wantNums(t.Old))
	ask("Way", inRange(t.Way, 0, 4))
	ask("Stage", inRange(t.Stage, 0, 5))
	ask("Since", inRange(t.Since, 0, s.Clock))
	ask("From", inRange(t.From, 0, len(s.Log)))
	ask("Reads", wantByCells(t.Reads, len(p.Cells)))
	ask("Puts", wantByCells(t.Puts, len(p.Cells)))
	switch {
	case t.Stage == 0:
		ask("none in StageNone", len(t.Reads) == 0 && len(t.Puts) == 0)
		ask("When", inRange(t.When, 0, s.Clock+1))
	case t.Stage == 4 || t.Stage == 5:
		ask("When", t.When > t.Since && t.When <= s.Clock)
	default:
		ask("When", t.When == 0)
	}
	ask("who runs", t.Stage == 0 || t.Way == 0)
	ask("Body", inRange(t.Body, 0, len(p.Bodies)-1))
	if !inRange(t.Body, 0, len(p.Bodies)-1) {
		return
	}
	acts := p.Bodies[t.Body]
	ask("Pc", inRange(t.Pc, 0, len(acts)))
	if !inRange(t.Pc, 0, len(acts)) {
		return
	}
	a := append(slices.Clone(acts), impl.Act{})[t.Pc]
	ask("at an ActTry", t.Stage == 0 || a.Kind == 1)
	ask("ended", t.Way != 2 || t.Pc == len(acts))
	if t.Way == 1 {
		ask("at an ActFork", a.Kind == 2)
		ask("tasks of its", wantKidsNotOff(s, i) >= len(a.Kids))
	}
	askAt(ask, t, len(a.Deeds))
}

func askAt(ask func(string, bool), t impl.Task, deeds int) {
	ask("there are Puts", t.Stage < 2 || len(t.Puts) > 0)
	most := map[int]int{1: deeds, 2: len(t.Puts) - 1, 4: len(t.Reads), 5: len(t.Puts) - 1}[t.Stage]
	// Without Puts there is no At in form: that is another sentence.
	if t.Stage < 2 || len(t.Puts) > 0 {
		ask("At", inRange(t.At, 0, most))
	}
}

func wantKidsNotOff(s impl.Sys, task int) int {
	n := 0
	for _, t := range s.Tasks {
		if t.Up == task && t.Way != 4 {
			n++
		}
	}
	return n
}

// judgedSysOk holds SysOk, and all functions that ask for an ok system, against what is wanted; it gives whether it is ok.
func judgedSysOk(t *testing.T, p impl.Prog, s impl.Sys) bool {
	t.Helper()
	broken := wantBroken(p, s)
	ok := len(broken) == 0
	if impl.SysOk(p, s) != ok {
		t.Fatalf("SysOk is not %v (%v): %v, %+v", ok, broken, p, s)
	}
	ready := impl.SysReady(p, s)
	if !slices.Equal(ready, wantReady(p, s)) {
		t.Fatalf("SysReady: %v, not %v: %v, %+v", ready, wantReady(p, s), p, s)
	}
	if impl.SysOver(p, s) != (ok && len(ready) == 0) {
		t.Fatalf("SysOver: %v, %+v", p, s)
	}
	if !ok {
		refusedSys(t, p, s)
	}
	return ok
}

// refusedSys says so, if anything at all comes of a system that is not ok.
func refusedSys(t *testing.T, p impl.Prog, s impl.Sys) {
	t.Helper()
	for task := -1; task <= len(s.Tasks); task++ {
		if q, ok := impl.SysStep(p, s, task); ok || !isNothing(q) {
			t.Fatalf("SysStep of %d: %+v, of %v, %+v", task, q, p, s)
		}
	}
	for _, turns := range [][]int{nil, {0}, {0, 1, 2}, {-1}} {
		if q, ok := impl.SysRun(p, s, turns); ok || !isNothing(q) {
			t.Fatalf("SysRun of %v: %+v, of %v, %+v", turns, q, p, s)
		}
	}
	for _, most := range []int{0, 1, 2000} {
		if q, ok := impl.SysRest(p, s, most); ok || !isNothing(q) {
			t.Fatalf("SysRest of %d: %+v, of %v, %+v", most, q, p, s)
		}
	}
	if impl.SysOk(p, s) || len(impl.SysReady(p, s)) != 0 || impl.SysOver(p, s) {
		t.Fatalf("SysOk, SysReady or SysOver: %v, %+v", p, s)
	}
}

// okText is a program with each kind of act, whose tasks come to all stages.
const okText = "cells 5 6 7\nbody\ntry r=A\nfork 1 2\nbody\ntry r=A s=C B=r A=s\nfork 3\nfailif t\nbody\ntry t=9 C=t\ntry r=B\nbody\nfail\n"

// okSystems is systems of that program, by what task 1 is at; task 0 waits, task 2 is behind its first change.
func okSystems(t *testing.T) (impl.Prog, map[string]impl.Sys) {
	t.Helper()
	// Task 2 ends its first change, which makes the time 1, and task 0 has read.
	first := append([]int{0, 0, 0, 0}, repeated(2, 8)...)
	list := map[string]impl.Sys{}
	p, s := begun(t, okText, first...)
	for turn, word := range []string{"none", "deeds", "load", "loads", "store", "stores", "locks", "lock", "time", "check", "checks", "checked", "write", "writes", "fork", "waits"} {
		list[word] = s
		if turn < 15 {
			s = mustStep(t, p, s, 1)
		}
	}
	s = mustRun(t, p, s, 3, 1, 2, 2, 2, 2)
	list["failed"] = s
	list["ended"] = mustRun(t, p, list["none"], 2, 2, 2, 2)
	list["over"] = mustRest(t, p, list["failed"], 100)
	return p, list
}

func TestSystemsOnTheWayAreAsTheTestsBelieve(t *testing.T) {
	p, list := okSystems(t)
	looks := map[string][3]int{"none": {0, 0, 0}, "deeds": {1, 0, 0}, "load": {1, 1, 0}, "loads": {1, 2, 0}, "store": {1, 3, 0}, "stores": {1, 4, 0}, "locks": {2, 0, 0}, "lock": {2, 1, 1}, "time": {3, 0, 2}, "check": {4, 0, 2}, "checks": {4, 1, 2}, "checked": {4, 2, 2}, "write": {5, 0, 2}, "writes": {5, 1, 1}, "fork": {0, 0, 0}}
	for word, x := range looks {
		s := list[word]
		if s.Tasks[1].Stage != x[0] || s.Tasks[1].At != x[1] || len(impl.SysHeld(s)) != x[2] {
			t.Errorf("%s: %+v", word, s)
		}
	}
	ways := map[string][]int{"waits": {1, 1, 0, 0}, "failed": {1, 3, 2, 3}, "ended": {1, 0, 2}, "over": {3, 3, 2, 3}}
	for word, x := range ways {
		if got := impl.SysWays(list[word]); !slices.Equal(got, x) {
			t.Errorf("%s: %v", word, got)
		}
	}
	for word, s := range list {
		if !judgedSysOk(t, p, s) {
			t.Errorf("%s is not ok: %v", word, wantBroken(p, s))
		}
	}
}

// sysBreak is one thing of a system made another one, and the only sentence that this breaks.
type sysBreak struct {
	at, word string
	bend     func(s *impl.Sys)
}

// setting is breaks that set one number, of any kind, to each of these.
func setting(at, word string, field func(s *impl.Sys) *int, nums ...int) []sysBreak {
	var list []sysBreak
	for _, n := range nums {
		list = append(list, sysBreak{at, word, func(s *impl.Sys) { *field(s) = n }})
	}
	return list
}

func brokenAlone(t *testing.T, list ...sysBreak) {
	t.Helper()
	p, systems := okSystems(t)
	for i, x := range list {
		s := copiedSys(systems[x.at])
		if len(s.Tasks) == 0 {
			t.Fatalf("the test itself is wrong: no system %s", x.at)
		}
		x.bend(&s)
		if broken := wantBroken(p, s); !slices.Equal(broken, []string{x.word}) {
			t.Errorf("the test itself is wrong: break %d, %s at %s: %v", i, x.word, x.at, broken)
		}
		if judgedSysOk(t, p, s) {
			t.Errorf("break %d, %s at %s: ok", i, x.word, x.at)
		}
	}
}

// bentOk is the other side: what may be so is ok.
func bentOk(t *testing.T, list ...sysBreak) {
	t.Helper()
	p, systems := okSystems(t)
	for i, x := range list {
		s := copiedSys(systems[x.at])
		x.bend(&s)
		if !judgedSysOk(t, p, s) {
			t.Errorf("bend %d, %s at %s: not ok: %v", i, x.word, x.at, wantBroken(p, s))
		}
	}
}

func clockOf(s *impl.Sys) *int { return &s.Clock }

// fieldOf is a number of a task.
func fieldOf(task int, name string) func(s *impl.Sys) *int {
	return func(s *impl.Sys) *int {
		x := &s.Tasks[task]
		return map[string]*int{"Body": &x.Body, "Pc": &x.Pc, "Up": &x.Up, "Way": &x.Way, "Stage": &x.Stage, "At": &x.At, "Since": &x.Since, "When": &x.When, "From": &x.From}[name]
	}
}

func cellOf(cell int, name string) func(s *impl.Sys) *int {
	return func(s *impl.Sys) *int {
		x := &s.Cells[cell]
		return map[string]*int{"Num": &x.Num, "Time": &x.Time, "Lock": &x.Lock}[name]
	}
}

func entryOf(entry int, name string) func(s *impl.Sys) *int {
	return func(s *impl.Sys) *int {
		x := &s.Log[entry]
		return map[string]*int{"Task": &x.Task, "Act": &x.Act, "When": &x.When, "From": &x.From}[name]
	}
}

func TestTheProgramMustBeOk(t *testing.T) {
	p, list := okSystems(t)
	for _, s := range list {
		for _, bad := range []impl.Prog{{}, {Cells: p.Cells}, {Cells: []int{5, 6, 100}, Bodies: p.Bodies}, {Cells: append(slices.Clone(p.Cells), 1), Bodies: p.Bodies}, {Cells: p.Cells, Bodies: append(slices.Clone(p.Bodies), nil)}} {
			refusedSys(t, bad, s)
		}
	}
	for _, text := range []string{"cells\nbody\n", "cells 5 6 7\nbody\n", "cells 5 6\nbody\ntry r=A\nfork 1\nbody\n"} {
		for _, s := range list {
			refusedSys(t, mustRead(t, text), s)
		}
	}
}

func TestCellsOfASystemMustBeInForm(t *testing.T) {
	var list []sysBreak
	for _, at := range []string{"none", "ended", "over"} {
		list = append(list,
			sysBreak{at, "how many cells", func(s *impl.Sys) { s.Cells = append(s.Cells, impl.Cell{Lock: -1}) }})
		for cell := range 3 {
			list = append(list, setting(at, "cell's number", cellOf(cell, "Num"), -1, 100, math.MinInt, math.MaxInt)...)
			list = append(list, setting(at, "cell's time", cellOf(cell, "Time"), -1, 100, math.MinInt, math.MaxInt)...)
		}
		list = append(list, setting(at, "held", cellOf(1, "Lock"), -2, 0, 1, 2, 3, 7, math.MinInt, math.MaxInt)...)
	}
	list = append(list, setting("none", "cell's time", cellOf(0, "Time"), 2)...)
	brokenAlone(t, list...)
	p, systems := okSystems(t)
	for n := range 3 {
		s := copiedSys(systems["none"])
		s.Cells = s.Cells[:n]
		refusedSys(t, p, s)
	}
	for _, n := range []int{0, 1, 99} {
		bentOk(t, setting("none", "", cellOf(0, "Num"), n)...)
	}
	bentOk(t, setting("none", "", cellOf(0, "Time"), 0, 1)...)
}

func TestTheClockMustBeInForm(t *testing.T) {
	brokenAlone(t, setting("none", "clock", clockOf, 201, 202, math.MaxInt-1)...)
	bentOk(t, setting("none", "", clockOf, 1, 2, 100, 199, 200)...)
	// Below 0 everything is newer than that, too.
	p, list := okSystems(t)
	for _, n := range []int{-1, -2, math.MinInt, math.MaxInt} {
		s := copiedSys(list["none"])
		s.Clock = n
		refusedSys(t, p, s)
	}
	s := mustNew(t, mustRead(t, "cells\nbody\n"))
	s.Clock = -1
	refusedSys(t, mustRead(t, "cells\nbody\n"), s)
}

// Cells 0 and 1 are put by task 1, in this order.
func TestCellsMustBeHeldJustByWhoMust(t *testing.T) {
	holds := map[string][]int{"none": {-1, -1}, "deeds": {-1, -1}, "stores": {-1, -1}, "locks": {-1, -1}, "lock": {1, -1}, "time": {1, 1}, "check": {1, 1}, "checks": {1, 1}, "checked": {1, 1}, "write": {1, 1}, "writes": {-1, 1}, "fork": {-1, -1}, "waits": {-1, -1}, "over": {-1, -1}}
	var list []sysBreak
	for at, locks := range holds {
		for cell, lock := range append(locks, -1) {
			for _, other := range []int{-2, -1, 0, 1, 2, 3, 8, math.MinInt, math.MaxInt} {
				if other != lock {
					list = append(list, setting(at, "held", cellOf(cell, "Lock"), other)...)
				}
			}
			bentOk(t, setting(at, "", cellOf(cell, "Lock"), lock)...)
		}
	}
	brokenAlone(t, list...)
}

// Two that must hold one cell cannot both, whoever is told to.
func TestNoCellIsHeldByTwo(t *testing.T) {
	p, s := begun(t, "cells 1\nbody\nfork 1 1\nbody\ntry A=r\n", 0, 1, 1, 1, 2, 2, 2, 1)
	if !judgedSysOk(t, p, s) || s.Tasks[1].Stage != impl.StageTime || s.Tasks[2].Stage != impl.StageLocks {
		t.Fatalf("%+v", s)
	}
	for lock := -2; lock < 4; lock++ {
		q := copiedSys(s)
		q.Tasks[2].Stage = impl.StageTime
		q.Cells[0].Lock = lock
		if broken := wantBroken(p, q); !slices.Equal(broken, []string{"held"}) {
			t.Fatalf("the test itself is wrong: %v", broken)
		}
		judgedSysOk(t, p, q)
	}
}

func TestTasksMustBeAsManyAsMayBe(t *testing.T) {
	p := mustRead(t, "cells\nbody\nfork 1 1\nfork 1 1\nfork 1 1\nbody\n")
	s := mustRest(t, p, mustNew(t, p), 200)
	if len(s.Tasks) != 7 || !judgedSysOk(t, p, s) {
		t.Fatalf("%+v", s)
	}
	q := copiedSys(s)
	q.Tasks = append(q.Tasks, q.Tasks[6])
	if broken := wantBroken(p, q); !slices.Equal(broken, []string{"how many tasks"}) {
		t.Fatalf("the test itself is wrong: %v", broken)
	}
	judgedSysOk(t, p, q)
	q.Tasks = nil
	if broken := wantBroken(p, q); !slices.Equal(broken, []string{"how many tasks"}) {
		t.Fatalf("the test itself is wrong: %v", broken)
	}
	judgedSysOk(t, p, q)
	refusedSys(t, p, impl.Sys{})
}

func TestUpMustBeAheadAndWait(t *testing.T) {
	list := setting("none", "first's Up", fieldOf(0, "Up"), -2, 0, 1, 2, math.MinInt, math.MaxInt)
	// Task 3 has failed, so that nothing is asked of who waits.
	list = append(list, setting("failed", "Up", fieldOf(3, "Up"), -1, -2, 3, 4, math.MinInt, math.MaxInt)...)
	list = append(list, sysBreak{"waits", "Up waits", func(s *impl.Sys) {
		s.Tasks = append(s.Tasks, s.Tasks[3])
		s.Tasks[4].Up = 2
	}})
	list = append(list, sysBreak{"ended", "Up waits", func(s *impl.Sys) { s.Tasks[0].Way = impl.TaskFailed }})
	list = append(list, sysBreak{"ended", "Up waits", func(s *impl.Sys) { s.Tasks[0].Way = impl.TaskOff }})
	list = append(list, sysBreak{"ended", "Up waits", func(s *impl.Sys) { s.Tasks[0].Way = impl.TaskRuns }})
	list = append(list, sysBreak{"ended", "Up waits", func(s *impl.Sys) { s.Tasks[0].Way, s.Tasks[0].Pc = impl.TaskEnded, 2 }})
	brokenAlone(t, list...)
	// A task whose Up waits at an act may be of any body.
	bentOk(t, setting("failed", "", fieldOf(3, "Up"), 0, 1, 2)...)
	bentOk(t, setting("waits", "", fieldOf(3, "Way"), impl.TaskFailed)...)
}

func TestNumbersOfTasksMustBeInForm(t *testing.T) {
	far := []int{-2, -1, 8, 100, math.MinInt, math.MaxInt}
	var list []sysBreak
	for task := range 3 {
		list = append(list, setting("over", "Body", fieldOf(task, "Body"), append(far, 4)...)...)
		list = append(list, setting("over", "Way", fieldOf(task, "Way"), append(far, 5)...)...)
		list = append(list, setting("over", "Pc", fieldOf(task, "Pc"), far...)...)
		list = append(list, setting("none", "Since", fieldOf(task, "Since"), append(far, 2)...)...)
		list = append(list, setting("none", "From", fieldOf(task, "From"), append(far, 3)...)...)
		list = append(list, setting("none", "When", fieldOf(task, "When"), append(far, 3)...)...)
		list = append(list, setting("none", "At", fieldOf(task, "At"), append(far, 1)...)...)
		for at := range 3 {
			for _, n := range []int{-1, 100, math.MinInt, math.MaxInt} {
				list = append(list, sysBreak{"none", "Regs", func(s *impl.Sys) { s.Tasks[task].Regs[at] = n }})
				list = append(list, sysBreak{"none", "Old", func(s *impl.Sys) { s.Tasks[task].Old[at] = n }})
			}
		}
		for n := range 6 {
			if n != 3 {
				list = append(list, sysBreak{"none", "Regs", func(s *impl.Sys) { s.Tasks[task].Regs = make([]int, n) }})
				list = append(list, sysBreak{"none", "Old", func(s *impl.Sys) { s.Tasks[task].Old = make([]int, n) }})
			}
		}
	}
	list = append(list, setting("over", "Pc", fieldOf(1, "Pc"), 4)...)
	list = append(list, setting("over", "Pc", fieldOf(3, "Pc"), 2)...)
	brokenAlone(t, list...)
	bentOk(t, setting("none", "", fieldOf(1, "Since"), 0, 1)...)
	bentOk(t, setting("none", "", fieldOf(1, "From"), 0, 1, 2)...)
	bentOk(t, setting("none", "", fieldOf(1, "When"), 0, 1, 2)...)
	bentOk(t, setting("over", "", fieldOf(1, "Pc"), 0, 1, 2, 3)...)
	bentOk(t, setting("over", "", fieldOf(3, "Way"), impl.TaskFailed, impl.TaskOff)...)
}

func TestStagesMustBeThoseOfWhoRunsAtAChange(t *testing.T) {
	put := []impl.Put{{Cell: 0, Num: 1}}
	var list []sysBreak
	list = append(list, setting("none", "Stage", fieldOf(1, "Stage"), -1, math.MinInt)...)
	list = append(list, sysBreak{"none", "Stage", func(s *impl.Sys) { s.Tasks[1].Stage, s.Tasks[1].Puts = 6, put }})
	for _, way := range []int{impl.TaskFailed, impl.TaskOff} {
		for _, at := range []string{"deeds", "load", "loads", "store", "stores", "locks", "lock", "time", "check", "checks", "checked", "write", "writes"} {
			list = append(list, sysBreak{at, "who runs", func(s *impl.Sys) {
				s.Tasks[1].Way = way
				// One more of task 0's, so that it has enough that were not called off.
				s.Tasks = append(s.Tasks, impl.Task{Way: impl.TaskFailed, Regs: []int{0, 0, 0}, Old: []int{0, 0, 0}})
			}})
		}
	}
	// Task 1 runs at an ActFork, and task 2 behind its last act.
	list = append(list, setting("fork", "at an ActTry", fieldOf(1, "Stage"), impl.StageDeeds)...)
	list = append(list, sysBreak{"ended", "at an ActTry", func(s *impl.Sys) { s.Tasks[2].Way, s.Tasks[2].Stage = impl.TaskRuns, impl.StageDeeds }})
	brokenAlone(t, list...)
	bentOk(t, setting("none", "", fieldOf(1, "Stage"), impl.StageDeeds)...)
}

func TestAtMustBeInForm(t *testing.T) {
	far := []int{-1, 6, math.MinInt, math.MaxInt}
	most := map[string]int{"deeds": 4, "stores": 4, "time": 0, "check": 2, "checked": 2, "fork": 0}
	var list []sysBreak
	for at, n := range most {
		list = append(list, setting(at, "At", fieldOf(1, "At"), append(far, n+1)...)...)
		for i := range n + 1 {
			bentOk(t, setting(at, "", fieldOf(1, "At"), i)...)
		}
	}
	// Who locks, or writes, holds other cells with another At.
	for _, n := range append(far, 2) {
		list = append(list, sysBreak{"locks", "At", func(s *impl.Sys) {
			s.Tasks[1].At = n
			if n == 2 {
				s.Cells[0].Lock, s.Cells[1].Lock = 1, 1
			}
		}})
		list = append(list, sysBreak{"writes", "At", func(s *impl.Sys) { s.Tasks[1].At, s.Cells[1].Lock = n, -1 }})
	}
	brokenAlone(t, list...)
}

func TestPutsMustBeThereFromLocksOn(t *testing.T) {
	var list []sysBreak
	for _, at := range []string{"locks", "lock", "time", "check", "checked", "write", "writes"} {
		list = append(list, sysBreak{at, "there are Puts", func(s *impl.Sys) {
			s.Tasks[1].Puts = nil
			s.Cells[0].Lock, s.Cells[1].Lock = -1, -1
			if s.Tasks[1].Stage != impl.StageCheck {
				s.Tasks[1].At = 0
			}
		}})
	}
	brokenAlone(t, list...)
	bentOk(t, sysBreak{"stores", "", func(s *impl.Sys) { s.Tasks[1].Puts = nil }}, sysBreak{"check", "", func(s *impl.Sys) { s.Tasks[1].Reads = nil }})
}

// wrongPuts is lists that are not by cells, each once, with numbers, of three cells.
var wrongPuts = [][]impl.Put{
	{{Cell: -1}}, {{Cell: 3}}, {{Cell: math.MinInt}}, {{Cell: math.MaxInt}}, {{Cell: 0, Num: -1}}, {{Cell: 1, Num: 100}}, {{Cell: 2, Num: math.MinInt}}, {{Cell: 2, Num: math.MaxInt}},
	{{Cell: 0}, {Cell: 0}}, {{Cell: 1}, {Cell: 0}}, {{Cell: 0}, {Cell: 2}, {Cell: 1}}, {{Cell: 0}, {Cell: 2}, {Cell: 2}}, {{Cell: 0}, {Cell: 1}, {Cell: 2}, {Cell: 3}},
	{{Cell: 0}, {Cell: 1, Num: 100}, {Cell: 2}}, {{Cell: 2}, {Cell: 1}, {Cell: 0}}, {{Cell: 0}, {Cell: 1}, {Cell: 2}, {Cell: 2}},
}

// rightPuts is lists that are.
var rightPuts = [][]impl.Put{nil, {}, {{Cell: 0, Num: 99}}, {{Cell: 2}}, {{Cell: 0}, {Cell: 2, Num: 1}}, {{Cell: 0}, {Cell: 1}, {Cell: 2}}}

func TestReadsAndPutsMustBeByCells(t *testing.T) {
	var list []sysBreak
	for _, puts := range wrongPuts {
		for _, at := range []string{"deeds", "locks", "check", "write"} {
			list = append(list, sysBreak{at, "Reads", func(s *impl.Sys) { s.Tasks[1].Reads = puts }})
		}
		list = append(list, sysBreak{"deeds", "Puts", func(s *impl.Sys) { s.Tasks[1].Puts = puts }})
		list = append(list, sysBreak{"locks", "Puts", func(s *impl.Sys) { s.Tasks[1].Puts = puts }})
		list = append(list, sysBreak{"over", "entry's Reads", func(s *impl.Sys) { s.Log[1].Reads = puts }})
		list = append(list, sysBreak{"over", "entry's Puts", func(s *impl.Sys) { s.Log[1].Puts = puts }})
	}
	for _, puts := range rightPuts {
		if len(puts) > 0 {
			for task := range 3 {
				list = append(list, sysBreak{"none", "none in StageNone", func(s *impl.Sys) { s.Tasks[task].Reads = puts }})
				list = append(list, sysBreak{"none", "none in StageNone", func(s *impl.Sys) { s.Tasks[task].Puts = puts }})
			}
			bentOk(t, sysBreak{"locks", "", func(s *impl.Sys) { s.Tasks[1].Puts = puts }})
		}
		bentOk(t, sysBreak{"deeds", "", func(s *impl.Sys) { s.Tasks[1].Puts, s.Tasks[1].Reads = puts, puts }}, sysBreak{"over", "", func(s *impl.Sys) { s.Log[1].Reads, s.Log[1].Puts = puts, puts }})
	}
	brokenAlone(t, list...)
}

// The time is 1 ahead of the change of task 1, and 2 behind it.
func TestTimesOfAChangeMustBeInForm(t *testing.T) {
	far := []int{-1, 201, math.MinInt, math.MaxInt}
	var list []sysBreak
	for _, at := range []string{"deeds", "load", "stores", "locks", "lock", "time"} {
		list = append(list, setting(at, "When", fieldOf(1, "When"), append(far, 1, 2)...)...)
		list = append(list, setting(at, "Since", fieldOf(1, "Since"), append(far, 2)...)...)
		bentOk(t, setting(at, "", fieldOf(1, "Since"), 0, 1)...)
		list = append(list, setting(at, "From", fieldOf(1, "From"), append(far, 3)...)...)
		bentOk(t, setting(at, "", fieldOf(1, "From"), 0, 1, 2)...)
	}
	for _, at := range []string{"check", "checks", "checked", "write", "writes"} {
		list = append(list, setting(at, "When", fieldOf(1, "When"), append(far, 0, 1, 3)...)...)
		list = append(list, setting(at, "When", fieldOf(1, "Since"), 2)...)
		list = append(list, setting(at, "From", fieldOf(1, "From"), append(far, 3)...)...)
		bentOk(t, setting(at, "", fieldOf(1, "Since"), 0, 1)...)
		bentOk(t, sysBreak{at, "", func(s *impl.Sys) { s.Tasks[1].Since, s.Tasks[1].When = 0, 1 }})
	}
	brokenAlone(t, list...)
}

func TestWhoWaitsMustBeAtAForkWithItsTasks(t *testing.T) {
	brokenAlone(t,
		sysBreak{"waits", "at an ActFork", func(s *impl.Sys) { s.Tasks[0].Pc = 0 }},
		sysBreak{"waits", "at an ActFork", func(s *impl.Sys) { s.Tasks[0].Pc = 2 }},
		sysBreak{"waits", "at an ActFork", func(s *impl.Sys) { s.Tasks[1].Pc = 0 }},
		sysBreak{"waits", "at an ActFork", func(s *impl.Sys) { s.Tasks[1].Pc = 2 }},
		sysBreak{"waits", "at an ActFork", func(s *impl.Sys) { s.Tasks[1].Pc = 3 }},
		sysBreak{"fork", "tasks of its", func(s *impl.Sys) { s.Tasks[1].Way = impl.TaskWaits }},
		sysBreak{"waits", "tasks of its", func(s *impl.Sys) { s.Tasks[3].Way = impl.TaskOff }},
		sysBreak{"waits", "tasks of its", func(s *impl.Sys) { s.Tasks[2].Way = impl.TaskOff }},
		sysBreak{"waits", "tasks of its", func(s *impl.Sys) { s.Tasks = s.Tasks[:3] }},
		sysBreak{"ended", "tasks of its", func(s *impl.Sys) { s.Tasks[1].Way = impl.TaskOff }},
	)
	bentOk(t,
		sysBreak{"waits", "", func(s *impl.Sys) { s.Tasks[3].Way = impl.TaskFailed }},
		// More tasks than the act has are those of acts ahead.
		sysBreak{"waits", "", func(s *impl.Sys) { s.Tasks = append(s.Tasks, s.Tasks[3], s.Tasks[3]) }},
		sysBreak{"waits", "", func(s *impl.Sys) {
			s.Tasks = append(s.Tasks, s.Tasks[3])
			s.Tasks[3].Way = impl.TaskOff
		}},
	)
}

func TestWhoHasEndedMustBeBehindItsLastAct(t *testing.T) {
	var list []sysBreak
	list = append(list, setting("ended", "ended", fieldOf(2, "Pc"), 0, 1)...)
	list = append(list, sysBreak{"none", "ended", func(s *impl.Sys) { s.Tasks[1].Way = impl.TaskEnded }})
	brokenAlone(t, list...)
	bentOk(t, sysBreak{"none", "", func(s *impl.Sys) { s.Tasks[1].Way, s.Tasks[1].Pc = impl.TaskEnded, 3 }}, sysBreak{"none", "", func(s *impl.Sys) { s.Tasks[1].Way, s.Tasks[1].Pc = impl.TaskFailed, 3 }})
}

func TestEntriesMustBeInForm(t *testing.T) {
	far := []int{-1, 201, math.MinInt, math.MaxInt}
	var list []sysBreak
	for entry, acts := range []int{2, 2, 3, 2} {
		list = append(list, setting("over", "entry's task", entryOf(entry, "Task"), append(far, 4, 7)...)...)
		list = append(list, setting("over", "entry's act", entryOf(entry, "Act"), append(far, acts)...)...)
		list = append(list, setting("over", "entry's When", entryOf(entry, "When"), append(far, 3)...)...)
		list = append(list, setting("over", "entry's From", entryOf(entry, "From"), append(far, entry+1)...)...)
		for act := range acts {
			bentOk(t, setting("over", "", entryOf(entry, "Act"), act)...)
		}
		bentOk(t, setting("over", "", entryOf(entry, "When"), 0, 1, 2)...)
		for from := range entry + 1 {
			bentOk(t, setting("over", "", entryOf(entry, "From"), from)...)
		}
	}
	// A task's body says which acts there are: that of task 3 has one.
	list = append(list, sysBreak{"over", "entry's act", func(s *impl.Sys) { s.Log[0].Task, s.Log[0].Act = 3, 1 }})
	brokenAlone(t, list...)
	bentOk(t, sysBreak{"over", "", func(s *impl.Sys) { s.Log[0].Task, s.Log[0].Act = 3, 0 }})
	p, systems := okSystems(t)
	if got := len(systems["over"].Log); got != 4 {
		t.Fatalf("%d entries of %v", got, p)
	}
}

// bentSys is a system with one number of it changed, or one of its lists longer or shorter.
func bentSys(r *rand.Rand, s impl.Sys) impl.Sys {
	q := copiedSys(s)
	n := []int{math.MinInt, -2, -1, 0, 0, 1, 1, 2, 3, 4, 5, 6, 7, 99, 100, 199, 200, 201, math.MaxInt}[r.IntN(19)]
	if r.IntN(3) == 0 {
		n = r.IntN(s.Clock + 2)
	}
	var nums []*int
	ofPuts := func(list []impl.Put) {
		for i := range list {
			nums = append(nums, &list[i].Cell, &list[i].Num)
		}
	}
	switch r.IntN(9) {
	case 0:
		nums = append(nums, &q.Clock)
	case 1:
		for i := range q.Cells {
			nums = append(nums, &q.Cells[i].Num, &q.Cells[i].Time, &q.Cells[i].Lock)
		}
	case 2:
		for i := range q.Log {
			e := &q.Log[i]
			nums = append(nums, &e.Task, &e.Act, &e.When, &e.From)
			ofPuts(e.Reads)
			ofPuts(e.Puts)
		}
	case 3:
		return resizedSys(r, q, n)
	default:
		for i := range q.Tasks {
			x := &q.Tasks[i]
			nums = append(nums, &x.Body, &x.Pc, &x.Up, &x.Way, &x.Stage, &x.At, &x.Since, &x.When, &x.From)
			if r.IntN(4) == 0 {
				nums = append(nums, &x.Regs[0], &x.Regs[2], &x.Old[0], &x.Old[2])
				ofPuts(x.Reads)
				ofPuts(x.Puts)
			}
		}
	}
	if len(nums) > 0 {
		*nums[r.IntN(len(nums))] = n
	}
	return q
}

func resizedSys(r *rand.Rand, q impl.Sys, n int) impl.Sys {
	x := &q.Tasks[r.IntN(len(q.Tasks))]
	put := impl.Put{Cell: n, Num: r.IntN(100)}
	switch r.IntN(11) {
	case 0:
		q.Cells = append(q.Cells, impl.Cell{Lock: -1})
	case 1:
		q.Cells = q.Cells[:len(q.Cells)/2]
	case 2:
		q.Tasks = append(q.Tasks, *x)
	case 3:
		q.Tasks = q.Tasks[:len(q.Tasks)-1]
	case 4:
		q.Log = append(q.Log, impl.Entry{})
	case 5:
		q.Log = q.Log[:len(q.Log)/2]
	case 6:
		x.Regs = append(x.Regs, 0)
	case 7:
		x.Old = x.Old[:2]
	case 8:
		x.Reads = append(x.Reads, put)
	case 9:
		x.Puts = append(x.Puts, put)
	default:
		x.Puts = nil
	}
	return q
}

// One thing of a system made another one: it is refused just where the document refuses it, and tasks of what is still ok take steps as the document says, though no program would come to it.
func TestBentSystemsAreJudged(t *testing.T) {
	r := rand.New(rand.NewPCG(23, 24))
	good, bad := 0, 0
	words := map[string]int{}
	for _, x := range seenSystems(4) {
		for range 4 {
			s := bentSys(r, x.before)
			if judgedSysOk(t, x.p, s) {
				good++
				judgedSteps(t, x.p, s)
				continue
			}
			bad++
			for _, word := range wantBroken(x.p, s) {
				words[word]++
			}
		}
	}
	if good < 10000 || bad < 20000 || len(words) < 29 {
		t.Fatalf("too few were looked at: %d, %d, %v", good, bad, words)
	}
}
