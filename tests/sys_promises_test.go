package tests

import (
	"math"
	"math/rand/v2"
	"slices"
	"testing"

	"loop.example/equerry/impl"
)

// Promises 16 to 35, in their order, of steps that were taken by chance; what a promise speaks of is taken from systems ahead of a step and behind it, not from the tests' own reading.

// enough says so, if too little of what a promise speaks of was looked at.
func enough(t *testing.T, least int, counts ...int) {
	t.Helper()
	for i, n := range counts {
		if n < least {
			t.Fatalf("too few were looked at: %d of the kind %d", n, i)
		}
	}
}

// Promise 16.
func TestTurnsAreTakenOneBehindTheOtherCutAnywhere(t *testing.T) {
	r := rand.New(rand.NewPCG(31, 32))
	for _, x := range seenSystems(300) {
		turns := someTurns(r, 1+r.IntN(40), 7)
		all := mustRun(t, x.p, x.before, turns...)
		for cut := range len(turns) + 1 {
			part := mustRun(t, x.p, mustRun(t, x.p, x.before, turns[:cut]...), turns[cut:]...)
			if !sameSys(part, all) {
				t.Fatalf("cut at %d of %v: %+v, not %+v", cut, turns, part, all)
			}
		}
	}
}

// Promise 17.
func TestATurnIsAStepOrNothing(t *testing.T) {
	steps, none := 0, 0
	for _, x := range seenSystems(10) {
		for _, task := range append([]int{math.MinInt, -1, len(x.before.Tasks), math.MaxInt}, placesOf(x.before)...) {
			s := mustRun(t, x.p, x.before, task)
			q, ok := impl.SysStep(x.p, x.before, task)
			if ok != slices.Contains(impl.SysReady(x.p, x.before), task) {
				t.Fatalf("%d: %+v", task, x.before)
			}
			if ok {
				steps++
				if !sameSys(s, q) || sameSys(s, x.before) {
					t.Fatalf("%d: %+v, not %+v", task, s, q)
				}
				continue
			}
			none++
			if !sameSys(s, x.before) || !isNothing(q) {
				t.Fatalf("%d: %+v, not %+v", task, s, x.before)
			}
		}
	}
	enough(t, 5000, steps, none)
}

// Promise 18.
func TestNumsAreTheNumbersOfCells(t *testing.T) {
	r := rand.New(rand.NewPCG(33, 34))
	for _, x := range seenSystems(5) {
		for _, s := range []impl.Sys{x.after, bentSys(r, x.after)} {
			var want []int
			for _, c := range s.Cells {
				want = append(want, c.Num)
			}
			if got := impl.SysNums(s); !slices.Equal(got, want) {
				t.Fatalf("%v, not %v", got, want)
			}
		}
		if p := x.p; !slices.Equal(impl.SysNums(mustNew(t, p)), p.Cells) {
			t.Fatalf("%v", p)
		}
	}
}

// Promise 19.
func TestHeldCellsAreInPutsOfWhoHoldsThem(t *testing.T) {
	held := 0
	for _, x := range seenSteps() {
		for cell, c := range x.after.Cells {
			if c.Lock == -1 {
				continue
			}
			held++
			if !inRange(c.Lock, 0, len(x.after.Tasks)-1) {
				t.Fatalf("held by nobody that is there: %+v", x.after)
			}
			holder := x.after.Tasks[c.Lock]
			if _, there := numOf(holder.Puts, cell); !there || holder.Stage < impl.StageLocks || holder.Way != impl.TaskRuns {
				t.Fatalf("cell %d: %+v", cell, x.after)
			}
		}
	}
	enough(t, 5000, held)
}

// Promise 20.
func TestWhoNeitherRunsNorWaitsStays(t *testing.T) {
	stay := 0
	for _, x := range seenSteps() {
		if len(x.after.Tasks) < len(x.before.Tasks) {
			t.Fatalf("fewer tasks: %+v, of %+v", x.after, x.before)
		}
		for i, a := range x.before.Tasks {
			b := x.after.Tasks[i]
			if a.Body != b.Body || a.Up != b.Up || b.Pc < a.Pc {
				t.Fatalf("task %d: %+v, of %+v", i, x.after, x.before)
			}
			if a.Way == impl.TaskRuns || a.Way == impl.TaskWaits {
				continue
			}
			stay++
			if !sameSys(impl.Sys{Tasks: []impl.Task{a}}, impl.Sys{Tasks: []impl.Task{b}}) {
				t.Fatalf("task %d: %+v, of %+v", i, b, a)
			}
		}
	}
	enough(t, 5000, stay)
}

// Promise 21: of each two systems of one run, so of each two that follow each other.
func TestTimesOfCellsAreNotLessLater(t *testing.T) {
	same, later := 0, 0
	for _, x := range seenSteps() {
		for i, a := range x.before.Cells {
			b := x.after.Cells[i]
			if b.Time < a.Time || b.Time == a.Time && b.Num != a.Num {
				t.Fatalf("cell %d: %+v, of %+v", i, b, a)
			}
			if b.Time == a.Time {
				same++
			} else {
				later++
			}
		}
	}
	enough(t, 1000, same, later)
}

// Promise 22.
func TestAChangeBeginsAtClockBehindAllThatWereEnded(t *testing.T) {
	begins, late := 0, 0
	for _, x := range seenSteps() {
		a, b := x.before.Tasks[x.task], x.after.Tasks[x.task]
		if !atTry(x.p, a) || a.Stage != impl.StageNone {
			continue
		}
		begins++
		if x.before.Clock > 0 && len(x.before.Log) > 0 {
			late++
		}
		if b.Stage != impl.StageDeeds || b.At != 0 || b.Since != x.before.Clock || b.From != len(x.before.Log) || b.When != 0 {
			t.Fatalf("%+v, of %+v", b, a)
		}
		if len(b.Reads) != 0 || len(b.Puts) != 0 || !slices.Equal(b.Old, a.Regs) || !slices.Equal(b.Regs, a.Regs) || b.Pc != a.Pc {
			t.Fatalf("%+v, of %+v", b, a)
		}
		if x.after.Clock != x.before.Clock || len(x.after.Log) != len(x.before.Log) {
			t.Fatalf("%+v, of %+v", x.after, x.before)
		}
	}
	enough(t, 1000, begins, late)
}

// Promise 23.
func TestATaskHasEndedJustByAStepBehindItsLastAct(t *testing.T) {
	ends, not := 0, 0
	for _, x := range seenSteps() {
		for i, a := range x.before.Tasks {
			b := x.after.Tasks[i]
			behind := i == x.task && a.Way == impl.TaskRuns && a.Pc == len(x.p.Bodies[a.Body])
			if now := a.Way != impl.TaskEnded && b.Way == impl.TaskEnded; now != behind {
				t.Fatalf("task %d: %+v, of %+v", i, b, a)
			}
			if behind {
				ends++
			} else {
				not++
			}
		}
		for _, b := range x.after.Tasks[len(x.before.Tasks):] {
			if b.Way != impl.TaskRuns {
				t.Fatalf("begun: %+v", b)
			}
		}
	}
	enough(t, 1000, ends, not)
}

// Promise 24.
func TestClockIsOneMoreJustByStageTime(t *testing.T) {
	more, same := 0, 0
	for _, x := range seenSteps() {
		want := x.before.Clock
		if x.before.Tasks[x.task].Stage == impl.StageTime {
			want++
			more++
			if b := x.after.Tasks[x.task]; b.When != want || b.Stage != impl.StageCheck || b.At != 0 {
				t.Fatalf("%+v", b)
			}
		} else {
			same++
		}
		if x.after.Clock != want {
			t.Fatalf("%+v, of %+v", x.after, x.before)
		}
	}
	enough(t, 1000, more, same)
}

// begunAgain says whether a task begins a change again by a step: it was within one, and is ahead of the same act.
func begunAgain(a, b impl.Task) bool {
	return a.Stage != impl.StageNone && b.Stage == impl.StageNone && b.Pc == a.Pc
}

// Promise 25.
func TestAFreeCellIsHeldInStageLocks(t *testing.T) {
	free, last, held := 0, 0, 0
	for _, x := range seenSteps() {
		a, b := x.before.Tasks[x.task], x.after.Tasks[x.task]
		if a.Stage != impl.StageLocks {
			continue
		}
		cell := a.Puts[a.At].Cell
		if x.before.Cells[cell].Lock != -1 {
			held++
			if !begunAgain(a, b) || x.after.Cells[cell].Lock != x.before.Cells[cell].Lock {
				t.Fatalf("%+v, of %+v", x.after, x.before)
			}
			continue
		}
		stage, at := impl.StageLocks, a.At+1
		if at == len(a.Puts) {
			stage, at = impl.StageTime, 0
			last++
		} else {
			free++
		}
		if x.after.Cells[cell].Lock != x.task || b.Stage != stage || b.At != at {
			t.Fatalf("%+v, of %+v", x.after, x.before)
		}
	}
	enough(t, 200, free, last, held)
}

// Promise 26.
func TestAChangeBeginsAgainInStageCheckJustIfACellIsBlind(t *testing.T) {
	sees, last, held, newer, own := 0, 0, 0, 0, 0
	for _, x := range seenSteps() {
		a, b := x.before.Tasks[x.task], x.after.Tasks[x.task]
		if a.Stage != impl.StageCheck {
			continue
		}
		if a.At == len(a.Reads) {
			last++
			if b.Stage != impl.StageWrite || b.At != 0 {
				t.Fatalf("%+v, of %+v", b, a)
			}
			continue
		}
		c := x.before.Cells[a.Reads[a.At].Cell]
		switch {
		case c.Lock != -1 && c.Lock != x.task:
			held++
		case c.Time > a.Since:
			newer++
		case c.Lock == x.task:
			own++
		default:
			sees++
		}
		if blind := c.Lock != -1 && c.Lock != x.task || c.Time > a.Since; begunAgain(a, b) != blind {
			t.Fatalf("%+v, of %+v", b, a)
		} else if !blind && (b.Stage != impl.StageCheck || b.At != a.At+1) {
			t.Fatalf("%+v, of %+v", b, a)
		}
	}
	enough(t, 20, sees, last, held, newer, own)
}

// Promise 27.
func TestNumbersChangeJustByStageWrite(t *testing.T) {
	by, off, lasts := 0, 0, 0
	for _, x := range seenSteps() {
		for i, a := range x.before.Cells {
			b := x.after.Cells[i]
			if a.Num == b.Num && a.Time == b.Time {
				continue
			}
			if a.Lock == -1 || x.before.Tasks[a.Lock].Stage != impl.StageWrite {
				t.Fatalf("cell %d: %+v, of %+v", i, x.after, x.before)
			}
			who := x.before.Tasks[a.Lock]
			if n, there := numOf(who.Puts, i); !there || n != b.Num || b.Time != who.When || b.Lock != -1 {
				t.Fatalf("cell %d: %+v, of %+v", i, x.after, x.before)
			}
			if a.Lock == x.task {
				by++
			} else if off++; x.after.Tasks[a.Lock].Way != impl.TaskOff {
				t.Fatalf("cell %d: %+v, of %+v", i, x.after, x.before)
			}
		}
		lasts += lastOneEnds(t, x)
	}
	enough(t, 100, by, off, lasts)
}

// lastOneEnds asks of a step in StageWrite that it writes one cell, and ends the change with the last one.
func lastOneEnds(t *testing.T, x seenStep) int {
	t.Helper()
	a, b := x.before.Tasks[x.task], x.after.Tasks[x.task]
	if a.Stage != impl.StageWrite {
		return 0
	}
	put := a.Puts[a.At]
	if c := x.after.Cells[put.Cell]; c != (impl.Cell{Num: put.Num, Time: a.When, Lock: -1}) {
		t.Fatalf("%+v, of %+v", x.after, x.before)
	}
	if a.At+1 < len(a.Puts) {
		if b.Stage != impl.StageWrite || b.At != a.At+1 || len(x.after.Log) != len(x.before.Log) || b.Pc != a.Pc {
			t.Fatalf("%+v, of %+v", b, a)
		}
		return 0
	}
	want := impl.Entry{Task: x.task, Act: a.Pc, When: a.When, Reads: a.Reads, Puts: a.Puts, From: a.From}
	if len(x.after.Log) != len(x.before.Log)+1 || !sameSys(impl.Sys{Log: x.after.Log[len(x.before.Log):]}, impl.Sys{Log: []impl.Entry{want}}) {
		t.Fatalf("%+v, of %+v", x.after.Log, x.before)
	}
	if b.Pc != a.Pc+1 || b.Stage != impl.StageNone || b.At != 0 || len(b.Reads)+len(b.Puts)+b.Since+b.When+b.From != 0 {
		t.Fatalf("%+v, of %+v", b, a)
	}
	return 1
}

// Promise 28.
func TestWhatIsNewlyReadIsNotNewerThanSince(t *testing.T) {
	reads := 0
	for _, x := range seenSteps() {
		for i, b := range x.after.Tasks {
			if i >= len(x.before.Tasks) {
				if len(b.Reads) != 0 {
					t.Fatalf("begun: %+v", b)
				}
				continue
			}
			a := x.before.Tasks[i]
			for _, x2 := range b.Reads {
				if n, there := numOf(a.Reads, x2.Cell); there && n == x2.Num {
					continue
				}
				reads++
				c := x.before.Cells[x2.Cell]
				d := x.p.Bodies[a.Body][a.Pc].Deeds[a.At]
				if i != x.task || c.Time > a.Since || c.Lock != -1 && c.Lock != i || c.Num != x2.Num || d.Kind != impl.DeedLoad || d.B != x2.Cell || b.Regs[d.A] != x2.Num {
					t.Fatalf("%+v, of %+v", x.after, x.before)
				}
			}
		}
	}
	enough(t, 1000, reads)
}

// Promise 29: by a step of its own, and by being called off.
func TestWhoBeginsAgainHoldsNothingAndEndedNothing(t *testing.T) {
	own, off := 0, 0
	for _, x := range seenSteps() {
		for i, a := range x.before.Tasks {
			b := x.after.Tasks[i]
			if !begunAgain(a, b) {
				continue
			}
			for cell, c := range x.after.Cells {
				if c.Lock == i || x.before.Cells[cell].Lock == i && (c.Num != x.before.Cells[cell].Num || c.Time != x.before.Cells[cell].Time) {
					t.Fatalf("cell %d: %+v, of %+v", cell, x.after, x.before)
				}
			}
			if !slices.Equal(b.Regs, a.Old) || !slices.Equal(b.Old, a.Old) || len(b.Reads)+len(b.Puts)+b.At != 0 || b.Since != a.Since || b.From != a.From {
				t.Fatalf("%+v, of %+v", b, a)
			}
			for _, e := range x.after.Log[len(x.before.Log):] {
				if e.Task == i {
					t.Fatalf("ended: %+v, of %+v", x.after, x.before)
				}
			}
			if i == x.task {
				own++
				if len(x.after.Log) != len(x.before.Log) || b.Way != impl.TaskRuns {
					t.Fatalf("%+v, of %+v", x.after, x.before)
				}
			} else if off++; b.Way != impl.TaskOff || b.When != 0 {
				t.Fatalf("%+v, of %+v", b, a)
			}
		}
	}
	enough(t, 200, own, off)
}

// Promise 30.
func TestTurnsOfNobodyChangeNothing(t *testing.T) {
	r := rand.New(rand.NewPCG(35, 36))
	over := 0
	for _, x := range seenSystems(20) {
		n := len(x.before.Tasks)
		nobody := []int{-1, n, n + 1, math.MinInt, math.MaxInt, -7, 1000}
		if s := mustRun(t, x.p, x.before, nobody...); !sameSys(s, x.before) {
			t.Fatalf("%+v, of %+v", s, x.before)
		}
		if s := mustRun(t, x.p, x.before); !sameSys(s, x.before) {
			t.Fatalf("%+v, of %+v", s, x.before)
		}
		last := mustRest(t, x.p, x.before, 2000)
		if !impl.SysOver(x.p, last) {
			continue
		}
		over++
		if s := mustRun(t, x.p, last, someTurns(r, 300, len(last.Tasks))...); !sameSys(s, last) {
			t.Fatalf("%+v, of %+v", s, last)
		}
		if s := mustRest(t, x.p, last, 2000); !sameSys(s, last) || len(impl.SysReady(x.p, last)) != 0 {
			t.Fatalf("%+v, of %+v", s, last)
		}
	}
	enough(t, 2000, over)
}

// Promise 31: what so many steps leave is what the first of them by turns leave, and Log of fewer is the first of Log of more.
func TestFewerStepsHaveTheFirstOfWhatMoreHave(t *testing.T) {
	for _, x := range seenSystems(300) {
		_, took, _ := wantRest(x.p, x.before, 300)
		last := mustRest(t, x.p, x.before, 300)
		for most := range len(took) + 3 {
			s := mustRest(t, x.p, x.before, most)
			if most == 0 && !sameSys(s, x.before) {
				t.Fatalf("none: %+v, of %+v", s, x.before)
			}
			if q := mustRun(t, x.p, x.before, took[:min(most, len(took))]...); !sameSys(s, q) {
				t.Fatalf("%d: %+v, not %+v", most, s, q)
			}
			if n := len(s.Log); n > len(last.Log) || !sameSys(impl.Sys{Log: s.Log}, impl.Sys{Log: last.Log[:n]}) {
				t.Fatalf("%d: %+v, not the first of %+v", most, s.Log, last.Log)
			}
		}
	}
}

// Promise 32: whoever is at what must be there, and has nothing, waits for the next time; it is ready as soon as that is there, and not ahead of it.
func TestWhatMustBeThereIsWaitedFor(t *testing.T) {
	waits, still, goesOn, forEver := 0, 0, 0, 0
	for _, x := range seenSteps() {
		a, b := x.before.Tasks[x.task], x.after.Tasks[x.task]
		if a.Stage == impl.StageDeeds {
			deeds := x.p.Bodies[a.Body][a.Pc].Deeds
			unmet := a.At < len(deeds) && deeds[a.At].Kind == impl.DeedNeed && a.Regs[deeds[a.At].A] == 0
			if unmet {
				waits++
				if !begunAgain(a, b) || b.When != a.Since+1 {
					t.Fatalf("%+v, of %+v", b, a)
				}
			} else if b.When != 0 {
				t.Fatalf("%+v, of %+v", b, a)
			}
		}
		for _, i := range impl.SysAwait(x.after) {
			still++
			if b := x.after.Tasks[i]; b.Way != impl.TaskRuns || b.Stage != impl.StageNone || b.When != x.after.Clock+1 || slices.Contains(impl.SysReady(x.p, x.after), i) {
				t.Fatalf("%d: %+v", i, x.after)
			}
		}
		for _, i := range impl.SysAwait(x.before) {
			if x.after.Clock > x.before.Clock {
				goesOn++
				if x.after.Clock < 200 && !slices.Contains(impl.SysReady(x.p, x.after), i) {
					t.Fatalf("%d: %+v", i, x.after)
				}
			}
		}
		if impl.SysOver(x.p, x.after) && len(impl.SysAwait(x.after)) > 0 {
			forEver++
		}
	}
	enough(t, 30, waits, still, goesOn, forEver)
}

// Promise 33 (WHOLE): each program puts the same to two cells, or three, and somebody fails at any time; whoever looks when nobody writes finds the same in all.
func TestWhatIsPutTogetherIsTogether(t *testing.T) {
	texts := []string{
		"cells 0 0\nbody\nfork 1 2\nbody\ntry r=4 A=r B=r\nbody\nfail\n",
		"cells 0 0\nbody\nfork 1 2\nbody\ntry r=A s=1 r+s A=r B=r\ntry r=A s=1 r+s A=r B=r\nbody\ntry r=A\nfailif r\n",
		"cells 3 3 3\nbody\nfork 1 2\nbody\nfork 3 3\nbody\nfail\nbody\ntry s=5 A=s B=s C=s\n",
		"cells 0 0\nbody\nfork 1\nbody\nfork 2 3\nbody\ntry r=7 B=r A=r\nbody\ntry r=A s=B\nfail\n",
	}
	for _, text := range texts {
		p := mustRead(t, text)
		whole, halves, off := 0, 0, 0
		for _, s := range allSystems(t, p) {
			nums := impl.SysNums(s)
			same := len(slices.Compact(slices.Clone(nums))) == 1
			writing := slices.ContainsFunc(s.Tasks, func(x impl.Task) bool { return x.Stage == impl.StageWrite })
			if !same {
				halves++
			}
			if !writing {
				whole++
				if !same {
					t.Fatalf("%q: %+v", text, s)
				}
			}
			if slices.Contains(impl.SysWays(s), impl.TaskOff) && nums[0] != p.Cells[0] {
				off++
			}
		}
		if whole == 0 || halves == 0 || off == 0 {
			t.Errorf("too few were looked at: %d, %d, %d: %q", whole, halves, off, text)
		}
	}
}

// Promise 34: who begins tasks, takes a time or ends a change takes a turn each; changes that are called off were being written at first, or took turns for it.
func TestClockTasksAndLogAreNotMoreThanTurnsLetThem(t *testing.T) {
	r := rand.New(rand.NewPCG(37, 38))
	for _, x := range seenSystems(10) {
		writing := 0
		for _, a := range x.before.Tasks {
			if a.Stage == impl.StageWrite {
				writing++
			}
		}
		n := r.IntN(40)
		s := mustRun(t, x.p, x.before, someTurns(r, n, 7)...)
		if s.Clock > x.before.Clock+n || len(s.Tasks) > len(x.before.Tasks)+impl.ProgKids*n || len(s.Log) > len(x.before.Log)+writing+n {
			t.Fatalf("%d turns: %+v, of %+v", n, s, x.before)
		}
		first := mustNew(t, x.p)
		s = mustRun(t, x.p, first, someTurns(r, n, 7)...)
		// A change is two turns at least, and one with a time five.
		if 5*s.Clock > n || 2*len(s.Log) > n || len(s.Tasks) > 1+impl.ProgKids*n || len(s.Tasks) > impl.ProgTree(x.p, 0) {
			t.Fatalf("%d turns: %+v", n, s)
		}
	}
	for _, x := range seenSteps() {
		if len(x.after.Tasks) > len(x.before.Tasks) {
			a := x.before.Tasks[x.task]
			if kids := x.p.Bodies[a.Body][a.Pc].Kids; len(x.after.Tasks) != len(x.before.Tasks)+len(kids) {
				t.Fatalf("%+v, of %+v", x.after, x.before)
			}
		}
		off := 0
		for i, a := range x.before.Tasks {
			if a.Stage == impl.StageWrite && x.after.Tasks[i].Way == impl.TaskOff {
				off++
			}
		}
		if more := len(x.after.Log) - len(x.before.Log); more < 0 || more > max(1, off) {
			t.Fatalf("%+v, of %+v", x.after, x.before)
		}
	}
}

// Promise 35.
func TestNoMoreCellsAreHeldThanAreInPuts(t *testing.T) {
	held := 0
	for _, x := range seenSteps() {
		puts := 0
		for _, b := range x.after.Tasks {
			if b.Stage >= impl.StageLocks {
				puts += len(b.Puts)
			}
		}
		list := impl.SysHeld(x.after)
		if len(list) > puts {
			t.Fatalf("%v: %+v", list, x.after)
		}
		held += len(list)
		for cell, c := range x.after.Cells {
			if slices.Contains(list, cell) != (c.Lock != -1) {
				t.Fatalf("%v: %+v", list, x.after)
			}
		}
	}
	enough(t, 5000, held)
}
