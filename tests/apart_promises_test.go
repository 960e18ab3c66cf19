package tests

import (
	"math"
	"math/rand/v2"
	"slices"
	"testing"

	"loop.example/equerry/impl"
)

// Promises 96 to 106, in their order; what a promise speaks of is asked of the program, or worked out on the spot, not taken from the tests' own reading.

// Promise 96: on the way, at the end, and one by one.
func TestCellsNotInApartWritesOfTheFirstStay(t *testing.T) {
	stayed, other := 0, 0
	stay := func(p impl.Prog, nums []int) {
		t.Helper()
		writes := impl.ApartWrites(p, 0)
		for cell, n := range p.Cells {
			if slices.Contains(writes, cell) {
				if nums[cell] != n {
					other++
				}
				continue
			}
			if stayed++; nums[cell] != n {
				t.Fatalf("%d: %v: %v", cell, nums, p)
			}
		}
	}
	for i, x := range treeSteps() {
		stay(x.p, impl.SysNums(x.after))
		if i%50 == 0 {
			stay(x.p, impl.SysNums(mustRest(t, x.p, x.after, 2000)))
		}
	}
	for _, p := range anyProgs(1000) {
		if nums, _, ok := impl.OneRun(p); ok {
			stay(p, nums)
		}
	}
	enough(t, 5000, stayed, other)
}

// isAscending is strictly so.
func isAscending(list []int) bool {
	for i := range list {
		if i > 0 && list[i-1] >= list[i] {
			return false
		}
	}
	return true
}

// ofActs is what is told of all changes of a body by one function, and of Kids by the other one, ascending.
func ofActs(p impl.Prog, body int, ofChange func([]impl.Deed) []int, ofKid func(impl.Prog, int) []int) (all []int, kids int) {
	var changes []int
	for _, a := range p.Bodies[body] {
		changes = append(changes, ofChange(a.Deeds)...)
		for _, kid := range a.Kids {
			all = append(all, ofKid(p, kid)...)
		}
	}
	for _, cell := range all {
		if !slices.Contains(changes, cell) {
			kids++
		}
	}
	all = append(all, changes...)
	slices.Sort(all)
	return slices.Compact(all), kids
}

// ofActsJust asks so of each body of many programs.
func ofActsJust(t *testing.T, ofChange func([]impl.Deed) []int, ofBody func(impl.Prog, int) []int) {
	t.Helper()
	some, fromKids := 0, 0
	for _, p := range anyProgs(2000) {
		for body := range p.Bodies {
			want, kids := ofActs(p, body, ofChange, ofBody)
			got := ofBody(p, body)
			if !slices.Equal(got, want) || !isAscending(got) {
				t.Fatalf("%d: %v, not %v: %v", body, got, want, p)
			}
			some += len(got)
			fromKids += kids
		}
	}
	enough(t, 2000, some, fromKids)
}

// Promise 97.
func TestApartReadsHasThoseOfChangesAndOfKids(t *testing.T) {
	ofActsJust(t, impl.ChangeReads, impl.ApartReads)
}

// Promise 98.
func TestApartWritesHasThoseOfChangesAndOfKids(t *testing.T) {
	ofActsJust(t, impl.ChangeWrites, impl.ApartWrites)
}

// Promise 99: also of those above, as what they tell has all that is told of who was begun by them.
func TestEntriesTouchOnlyWhatIsToldOfTheirBody(t *testing.T) {
	reads, puts := 0, 0
	for _, x := range someTreeSteps(3) {
		for _, e := range x.after.Log {
			for task := e.Task; task >= 0; task = x.after.Tasks[task].Up {
				body := x.after.Tasks[task].Body
				toldReads, toldWrites := impl.ApartReads(x.p, body), impl.ApartWrites(x.p, body)
				for _, read := range e.Reads {
					if reads++; !slices.Contains(toldReads, read.Cell) {
						t.Fatalf("%+v, not of %v: %v", e, toldReads, x.p)
					}
				}
				for _, put := range e.Puts {
					if puts++; !slices.Contains(toldWrites, put.Cell) {
						t.Fatalf("%+v, not of %v: %v", e, toldWrites, x.p)
					}
				}
			}
		}
	}
	enough(t, 10000, reads, puts)
}

// Promise 100 (ALL THE SAME): of programs in which two tasks at least may take turns. It is so, too, if something could fail, or had to be there, but does not, and is, one by one.
func TestIfApartCellsHaveWhatOneRunTellsWhateverTurns(t *testing.T) {
	r := rand.New(rand.NewPCG(135, 136))
	calm, others, changed, orders := 0, 0, 0, 0
	for _, p := range anyProgs(1500) {
		want, failed, ok := impl.OneRun(p)
		if !impl.ApartOk(p) || !ok || failed || impl.ProgTree(p, 0) < 3 {
			if isCalm(p) && (!ok || failed) {
				t.Fatalf("nothing can fail: %v", p)
			}
			continue
		}
		logs := map[string]int{}
		for range 8 {
			last := anyOrder(t, r, p)
			if !slices.Equal(impl.SysNums(last), want) {
				t.Fatalf("%v, not %v: %v: %+v", impl.SysNums(last), want, p, last)
			}
			logs[impl.LogText(last.Log)]++
		}
		if last := mustRest(t, p, mustNew(t, p), 2000); !slices.Equal(impl.SysNums(last), want) {
			t.Fatalf("%v, not %v: %v: %+v", impl.SysNums(last), want, p, last)
		}
		if isCalm(p) {
			calm++
		} else {
			others++
		}
		if !slices.Equal(want, p.Cells) {
			changed++
		}
		if len(logs) > 1 {
			orders++
		}
	}
	enough(t, 150, calm, others, changed, orders)
}

// Promise 100, in all orders of steps of small programs; where two are not apart numbers may be others.
func TestAllOrdersOfWhatIsApartAreTheSame(t *testing.T) {
	for text, apart := range map[string]bool{
		"cells 1 2 3\nbody\nfork 1 2\nbody\ntry r=A B=r\nbody\ntry r=A r+r C=r\n":               true,
		"cells 1 2 3\nbody\nfork 1 2\nfork 2 2\nbody\ntry r=A r+r A=r\nbody\ntry r=B\n":         true,
		"cells 1 2 3\nbody\nfork 1 2\nbody\nfork 3\nbody\ntry r=C\nbody\ntry r=A s=C r+s A=r\n": true,
		"cells 1 2\nbody\nfork 1 2\nbody\ntry r=A B=r\nbody\ntry r=B A=r\n":                     false,
		"cells 1 2\nbody\nfork 1 2\nbody\ntry r=7 A=r\nbody\ntry r=A B=r\n":                     false,
		"cells 1\nbody\nfork 1 2\nbody\ntry r=7 A=r\nbody\ntry r=8 A=r\n":                       false,
	} {
		p := mustRead(t, text)
		if impl.ApartOk(p) != apart || !isCalm(p) {
			t.Fatalf("the test itself is wrong: %q", text)
		}
		want, _, _ := impl.OneRun(p)
		ends, same := 0, 0
		for _, s := range allSystems(t, p) {
			if !impl.SysOver(p, s) {
				continue
			}
			if ends++; slices.Equal(impl.SysNums(s), want) {
				same++
			}
		}
		if ends == 0 || (same == ends) != apart {
			t.Errorf("%d of %d: %q", same, ends, text)
		}
	}
}

// meeting says whether two lists have something both.
func meeting(a, b []int) bool {
	return slices.ContainsFunc(a, func(n int) bool { return slices.Contains(b, n) })
}

// Promise 101.
func TestApartOkLooksAtEachTwoKidsOfAnAct(t *testing.T) {
	good, both, first, second := 0, 0, 0, 0
	for _, p := range anyProgs(5000) {
		want, two := true, false
		for _, acts := range p.Bodies {
			for _, a := range acts {
				if len(a.Kids) < 2 {
					continue
				}
				two = true
				reads0, writes0 := impl.ApartReads(p, a.Kids[0]), impl.ApartWrites(p, a.Kids[0])
				reads1, writes1 := impl.ApartReads(p, a.Kids[1]), impl.ApartWrites(p, a.Kids[1])
				switch {
				case meeting(writes0, writes1):
					both++
				case meeting(writes0, reads1):
					first++
				case meeting(reads0, writes1):
					second++
				default:
					continue
				}
				want = false
			}
		}
		if got := impl.ApartOk(p); got != want {
			t.Fatalf("%v, not %v: %v", got, want, p)
		}
		if want && two {
			good++
		}
	}
	enough(t, 200, good, both, first, second)
}

// Promise 102: also if another body is not apart, as that is looked at as well.
func TestWithoutActsTheFirstTouchesNothing(t *testing.T) {
	apart, now, not := 0, 0, 0
	for _, p := range anyProgs(2000) {
		q := copied(p)
		q.Bodies[0] = nil
		apartIs(t, q, 0, nil, nil)
		for body := 1; body < len(p.Bodies); body++ {
			apartIs(t, q, body, impl.ApartReads(p, body), impl.ApartWrites(p, body))
		}
		before, after := impl.ApartOk(p), impl.ApartOk(q)
		switch {
		case before && !after:
			t.Fatalf("apart no more: %v", p)
		case before:
			apart++
		case after:
			now++
		default:
			not++
		}
	}
	enough(t, 50, apart, now, not)
}

// Promise 103: what is done is replayed so, and each task has the registers that its own changes leave, one behind the other; what cannot be replayed is not done.
func TestLogDoIsLogReplayWithRegistersOfEachTask(t *testing.T) {
	done, only, neither, set := 0, 0, 0, 0
	for _, x := range someDoings() {
		nums, regs, ok := impl.LogDo(x.p, x.s, x.list)
		replayed, okToo := impl.LogReplay(x.p.Cells, x.list)
		if !ok {
			if len(nums) != 0 || len(regs) != 0 {
				t.Fatalf("%v, %v: %+v", nums, regs, x.list)
			}
			if okToo {
				only++
			} else {
				neither++
			}
			continue
		}
		if !okToo || !slices.Equal(nums, replayed) {
			t.Fatalf("%v, not %v, %v: %+v", nums, replayed, okToo, x.list)
		}
		want := repeated([]int{0, 0, 0}, len(x.s.Tasks))
		cells := x.p.Cells
		for _, e := range x.list {
			cells, want[e.Task] = mustDo(t, cells, want[e.Task], x.p.Bodies[x.s.Tasks[e.Task].Body][e.Act].Deeds)
			set++
		}
		if !sameLists(regs, want) || !slices.Equal(nums, cells) {
			t.Fatalf("%v, %v, not %v, %v: %+v", nums, regs, cells, want, x.list)
		}
		if len(x.list) > 1 {
			done++
		}
	}
	enough(t, 500, done, only, neither, set)
}

// Entries are done one behind the other: the first ones of what is done are done, and what is not done is not, whatever is behind.
func TestTheFirstOfWhatIsDoneAreDone(t *testing.T) {
	done, not := 0, 0
	for i, x := range someDoings() {
		if i%5 > 0 {
			continue
		}
		before := true
		for cut := range len(x.list) + 1 {
			_, _, ok := impl.LogDo(x.p, x.s, x.list[:cut])
			if ok && !before {
				t.Fatalf("cut at %d: %+v", cut, x.list)
			}
			if before = ok; ok {
				done++
			} else {
				not++
			}
		}
	}
	enough(t, 500, done, not)
}

// Promise 104: of all ok systems, whatever they have.
func TestWithoutEntriesLogDoHasTheProgramsCells(t *testing.T) {
	other, more := 0, 0
	for _, x := range okSteps(4) {
		nums, regs := mustLogDo(t, x.p, x.after, nil)
		if !slices.Equal(nums, x.p.Cells) || !sameLists(regs, repeated([]int{0, 0, 0}, len(x.after.Tasks))) {
			t.Fatalf("%v, %v: %v, %+v", nums, regs, x.p, x.after)
		}
		if !slices.Equal(nums, impl.SysNums(x.after)) {
			other++
		}
		if len(regs) > 1 {
			more++
		}
	}
	enough(t, 5000, other, more)
}

// Promise 105: at each place among entries that are done.
func TestAnEntryOfNoTaskIsNotDone(t *testing.T) {
	asked := 0
	for i, x := range someDoings() {
		if _, _, ok := impl.LogDo(x.p, x.s, x.list); !ok || i%3 > 0 {
			continue
		}
		tasks := len(x.s.Tasks)
		for at := range len(x.list) + 1 {
			for _, none := range []int{math.MinInt, -2, -1, tasks, tasks + 1, impl.ProgTasks, math.MaxInt} {
				asked++
				logDoIsNot(t, x.p, x.s, slices.Insert(slices.Clone(x.list), at, impl.Entry{Task: none}))
				if at < len(x.list) {
					list := copiedLog(x.list)
					list[at].Task = none
					logDoIsNot(t, x.p, x.s, list)
				}
			}
		}
	}
	enough(t, 5000, asked)
}

// aheadOfChanges is registers of each task, as they were ahead of a change that goes on.
func aheadOfChanges(s impl.Sys) [][]int {
	var list [][]int
	for _, x := range s.Tasks {
		if x.Stage == impl.StageNone {
			list = append(list, x.Regs)
		} else {
			list = append(list, x.Old)
		}
	}
	return list
}

// Promise 106 (AT ONCE): whatever order of steps, though tasks fail, or are called off.
func TestIfNobodyIsWritingLogDoLeavesWhatThereIs(t *testing.T) {
	whole, within, off, unordered := 0, 0, 0, 0
	for i, x := range treeSteps() {
		s := x.after
		if isWriting(s) {
			continue
		}
		if i%40 == 0 {
			s = mustRest(t, x.p, s, 2000)
		}
		if isWriting(s) {
			continue
		}
		nums, regs := mustLogDo(t, x.p, s, impl.LogOrder(s.Log))
		if !slices.Equal(nums, impl.SysNums(s)) || !sameLists(regs, aheadOfChanges(s)) {
			t.Fatalf("%v, %v: %v, %+v", nums, regs, x.p, s)
		}
		if len(s.Log) > 1 {
			whole++
		}
		if slices.ContainsFunc(s.Tasks, func(y impl.Task) bool { return !slices.Equal(y.Regs, y.Old) && y.Stage > 0 }) {
			within++
		}
		if slices.Contains(impl.SysWays(s), impl.TaskOff) {
			off++
		}
		if !sameLog(impl.LogOrder(s.Log), s.Log) {
			unordered++
		}
	}
	enough(t, 500, whole, within, off, unordered)
}
