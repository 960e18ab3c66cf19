package tests

import (
	"math"
	"math/rand/v2"
	"slices"
	"strings"
	"testing"

	"loop.example/equerry/impl"
)

// All functions of chapter 23 that are of programs, against the tests' own reading.
func TestProgramsApartAreAsTheDocumentSays(t *testing.T) {
	r := rand.New(rand.NewPCG(137, 138))
	apart, not, bad := 0, 0, 0
	for _, p := range anyProgs(2000) {
		if judgedApart(t, p) {
			apart++
		} else {
			not++
		}
		q := bent(r, p)
		if judgedApart(t, q); !wantOk(q) {
			bad++
			notApart(t, q)
		}
	}
	enough(t, 1000, apart, not, bad)
}

// notApart says so, if anything at all is told of a program.
func notApart(t *testing.T, p impl.Prog) {
	t.Helper()
	for _, body := range oddBodies(p) {
		if reads, writes := impl.ApartReads(p, body), impl.ApartWrites(p, body); len(reads)+len(writes) > 0 {
			t.Errorf("%d: %v, %v: %v", body, reads, writes, p)
		}
	}
	if impl.ApartOk(p) {
		t.Errorf("apart: %v", p)
	}
}

// All that two bodies can do to three cells, begun by one act.
func TestAllTwoBodies(t *testing.T) {
	apart, not := 0, 0
	for _, x := range touches() {
		for _, y := range touches() {
			p := impl.Prog{Cells: []int{1, 2, 3}, Bodies: [][]impl.Act{{{Kind: impl.ActFork, Kids: []int{1, 2}}}, touchingBody(x), touchingBody(y)}}
			want := true
			for cell := range 3 {
				if x[cell].stored && y[cell] != (touch{}) || y[cell].stored && x[cell] != (touch{}) {
					want = false
				}
			}
			if judgedApart(t, p) != want {
				t.Fatalf("not %v: %v", want, p)
			}
			if want {
				apart++
			} else {
				not++
			}
		}
	}
	enough(t, 100, apart, not)
}

// What a body and those that it begins do: nothing, only read, store, both, in one change or more.
func TestWhatABodyTouches(t *testing.T) {
	for text, want := range map[string][2][]int{
		"":                                  {},
		"try\n":                             {},
		"fail\n":                            {},
		"failif r\n":                        {},
		"try r=7 r+s r?\n":                  {},
		"try r=B\n":                         {{1}, nil},
		"try r=C s=A t=C\n":                 {{0, 2}, nil},
		"try r=C s=B\ntry t=A r=B\n":        {{0, 1, 2}, nil},
		"try C=r\n":                         {nil, {2}},
		"try C=r A=s C=t\n":                 {nil, {0, 2}},
		"try C=r\ntry A=r\ntry B=r C=r\n":   {nil, {0, 1, 2}},
		"try r=A B=r\n":                     {{0}, {1}},
		"try r=A A=r\n":                     {{0}, {0}},
		"try A=r r=A\n":                     {nil, {0}},
		"try A=r r=A s=B B=s\n":             {{1}, {0, 1}},
		"try B=r r=A s=B A=s\n":             {{0}, {0, 1}},
		"try A=r\ntry r=A\n":                {{0}, {0}},
		"try A=r r=A\ntry r=A\n":            {{0}, {0}},
		"try r=A A=r\ntry A=r r=A\n":        {{0}, {0}},
		"fail\ntry r=A B=r\n":               {{0}, {1}},
		"try r? r=A\nfailif r\ntry B=r\n":   {{0}, {1}},
		"try r=C\nfork 1\ntry A=r\n":        {{2}, {0}},
		"try r=C\nfork 2\ntry A=r\n":        {{1, 2}, {0}},
		"fork 2\n":                          {{1}, nil},
		"fork 3\n":                          {nil, {1}},
		"fork 3 2\n":                        {{1}, {1}},
		"fork 2\nfork 3\ntry A=r\nfork 1\n": {{1}, {0, 1}},
	} {
		p := mustRead(t, "cells 1 2 3\nbody\n"+text+"body\nbody\ntry r=B\nbody\ntry B=r r=B\n")
		apartIs(t, p, 0, want[0], want[1])
		apartIs(t, p, 1, nil, nil)
		apartIs(t, p, 2, []int{1}, nil)
		apartIs(t, p, 3, nil, []int{1})
	}
}

// A body is told of all that it begins, also through others that touch nothing themselves; of who begins it nothing.
func TestBodiesThatAreReachedThroughOthers(t *testing.T) {
	p := mustRead(t, "cells 1 2 3\nbody\nfork 1\nbody\nfork 2\nbody\nfork 3\nbody\ntry r=B C=r\n")
	for body := range 4 {
		apartIs(t, p, body, []int{1}, []int{2})
	}
	p = mustRead(t, "cells 1 2 3\nbody\ntry r=A\nfork 1\nbody\ntry r=B\nfork 2\nbody\ntry r=C B=r\nfork 3\nbody\ntry A=r\n")
	apartIs(t, p, 0, []int{0, 1, 2}, []int{0, 1})
	apartIs(t, p, 1, []int{1, 2}, []int{0, 1})
	apartIs(t, p, 2, []int{2}, []int{0, 1})
	apartIs(t, p, 3, nil, []int{0})
	// By more ways than one each cell is told once.
	p = mustRead(t, "cells 1 2 3\nbody\nfork 1 2\nfork 3\nbody\nfork 3\nbody\nfork 3\nbody\ntry r=C C=r s=A A=s\n")
	for body := range 4 {
		apartIs(t, p, body, []int{0, 2}, []int{0, 2})
	}
	// Bodies that nobody begins are told of as well, and begin more than seven tasks there.
	forks := strings.Repeat("fork 3 3\n", 4)
	p = mustRead(t, "cells 1 2 3\nbody\ntry r=A\nbody\n"+strings.ReplaceAll(forks, "3", "2")+"body\n"+forks+"body\ntry r=C B=r\n")
	if impl.ProgTree(p, 1) != 73 {
		t.Errorf("the test itself is wrong: %d", impl.ProgTree(p, 1))
	}
	apartIs(t, p, 0, []int{0}, nil)
	for body := 1; body < 4; body++ {
		apartIs(t, p, body, []int{2}, []int{1})
	}
	apartOkIs(t, false, impl.ProgText(p))
}

func TestKidsThatTouchTheSame(t *testing.T) {
	fork := "cells 1 2 3\nbody\nfork 1 2\nbody\n"
	for text, want := range map[string]bool{
		"body\n":                               true,
		"try r=A\nbody\ntry r=A\n":             true,
		"try r=A s=B t=C\nbody\ntry r=C s=A\n": true,
		"try r=A\nbody\ntry A=r\n":             false,
		"try A=r\nbody\ntry r=A\n":             false,
		"try A=r\nbody\ntry A=r\n":             false,
		"try r=A B=r\nbody\ntry r=A C=r\n":     true,
		"try r=A B=r\nbody\ntry r=C C=r\n":     true,
		"try r=A B=r\nbody\ntry r=B C=r\n":     false,
		"try r=A B=r\nbody\ntry r=C A=r\n":     false,
		"try r=A B=r\nbody\ntry r=C B=r\n":     false,
		// What one stores to and loads from then it does not read, but it stores to it.
		"try A=r r=A\nbody\ntry r=A\n": false,
		"try r=A\nbody\ntry A=r r=A\n": false,
		"try A=r r=A\nbody\ntry r=B\n": true,
		// Only the last act of one, and only the last deed of the other.
		"try r=C\ntry\ntry r=C\ntry B=r\nbody\ntry r=C s=7 t+s s=C t=B\n": false,
		// It is never done, but that is not asked.
		"fail\ntry A=r\nbody\ntry r=A\n": false,
	} {
		apartOkIs(t, want, fork+text)
	}
	// Both are the same body.
	apartOkIs(t, true, "cells 1\nbody\nfork 1 1\nbody\n")
	apartOkIs(t, true, "cells 1\nbody\nfork 1 1\nbody\ntry r=A r+r\n")
	apartOkIs(t, false, "cells 1\nbody\nfork 1 1\nbody\ntry A=r\n")
	apartOkIs(t, false, "cells 1\nbody\nfork 1 1\nbody\ntry r=A r+r A=r\n")
	apartOkIs(t, false, "cells 1\nbody\nfork 1 1\nbody\nfork 2\nbody\ntry A=r\n")
	apartOkIs(t, true, "cells 1\nbody\nfork 1\nbody\ntry A=r\n")
	// One begins what the other one is, or touches.
	apartOkIs(t, true, "cells 1\nbody\nfork 1 2\nbody\nfork 2\nbody\ntry r=A\n")
	apartOkIs(t, false, "cells 1\nbody\nfork 1 2\nbody\nfork 2\nbody\ntry A=r\n")
	apartOkIs(t, false, "cells 1\nbody\nfork 1 2\nbody\nfork 3\nbody\ntry r=A\nbody\ntry A=r\n")
	apartOkIs(t, false, "cells 1\nbody\nfork 2 1\nbody\nfork 3\nbody\ntry r=A\nbody\ntry A=r\n")
	apartOkIs(t, true, "cells 1 2\nbody\nfork 1 2\nbody\nfork 3\nbody\ntry r=A\nbody\ntry B=r\n")
}

// Only those that are begun by one act are held against each other: not those of other acts, nor the one that begins them, nor those of another body.
func TestWhoIsNotBegunTogether(t *testing.T) {
	for _, text := range []string{
		"cells 1\nbody\nfork 1\nfork 1\nbody\ntry r=A A=r\n",
		"cells 1\nbody\nfork 1\nfork 2\nbody\ntry r=A\nbody\ntry A=r\n",
		"cells 1 2\nbody\nfork 1 2\nfork 2 3\nbody\ntry A=r\nbody\ntry r=B\nbody\ntry r=A A=r\n",
		"cells 1\nbody\ntry r=A A=r\nfork 1\ntry r=A A=r\nbody\ntry r=A A=r\nfork 2\ntry A=r\nbody\ntry r=A A=r\n",
		"cells 1\nbody\nfork 1\nbody\nfork 2\nbody\ntry A=r\nbody\ntry A=r\n",
	} {
		apartOkIs(t, true, text)
	}
	// At whichever act, of whichever body, also if nobody begins it.
	for at := range 4 {
		for body := range 2 {
			p := impl.Prog{Cells: []int{1}, Bodies: [][]impl.Act{nil, nil, {{Kind: impl.ActTry, Deeds: []impl.Deed{load(0, 0)}}}, {{Kind: impl.ActTry, Deeds: []impl.Deed{store(0, 0)}}}}}
			p.Bodies[body] = repeated(impl.Act{Kind: impl.ActFail}, 4)
			apartOkIs(t, true, impl.ProgText(p))
			for _, kids := range [][]int{{2, 3}, {3, 2}, {3, 3}} {
				p.Bodies[body][at] = impl.Act{Kind: impl.ActFork, Kids: kids}
				apartOkIs(t, false, impl.ProgText(p))
			}
			for _, kids := range [][]int{{2, 2}, {2}, {3}} {
				p.Bodies[body][at] = impl.Act{Kind: impl.ActFork, Kids: kids}
				apartOkIs(t, true, impl.ProgText(p))
			}
		}
	}
}

func TestApartWithoutCells(t *testing.T) {
	for _, text := range []string{"cells\nbody\n", "cells\nbody\nfork 1 1\nbody\ntry r=1 r+r r?\n", "cells\nbody\nfork 1 2\nfail\nbody\nfork 2 2\nbody\ntry\n"} {
		p := mustRead(t, text)
		for body := range p.Bodies {
			apartIs(t, p, body, nil, nil)
		}
		apartOkIs(t, true, text)
		s := mustRest(t, p, mustNew(t, p), 2000)
		nums, regs := mustLogDo(t, p, s, impl.LogOrder(s.Log))
		if len(nums) != 0 || !sameLists(regs, aheadOfChanges(s)) {
			t.Errorf("%v, %v: %q", nums, regs, text)
		}
		judgedLogDo(t, p, s, s.Log)
	}
}

// badProgs is programs that are none, each by something else.
func badProgs(t *testing.T, p impl.Prog) []impl.Prog {
	t.Helper()
	list := []impl.Prog{
		{},
		{Cells: p.Cells},
		{Cells: []int{5, 6, 100}, Bodies: p.Bodies},
		{Cells: []int{5, -1, 7}, Bodies: p.Bodies},
		{Cells: []int{5, 6, 7, 8}, Bodies: p.Bodies},
		{Cells: p.Cells[:1], Bodies: p.Bodies},
		{Cells: p.Cells, Bodies: append(slices.Clone(p.Bodies), nil)},
		{Cells: p.Cells, Bodies: p.Bodies[:2]},
		{Cells: p.Cells, Bodies: [][]impl.Act{{{Kind: impl.ActFork, Kids: []int{0}}}}},
		{Cells: p.Cells, Bodies: [][]impl.Act{nil, {{Kind: impl.ActFork, Kids: []int{0}}}}},
		{Cells: p.Cells, Bodies: [][]impl.Act{{{Kind: impl.ActFork, Kids: []int{2}}}, nil}},
		{Cells: p.Cells, Bodies: [][]impl.Act{{{Kind: impl.ActFork, Kids: []int{-1}}}}},
		{Cells: p.Cells, Bodies: [][]impl.Act{{{Kind: impl.ActFork, Kids: []int{1, 1, 1}}}, nil}},
		{Cells: p.Cells, Bodies: [][]impl.Act{{{Kind: impl.ActTry, Deeds: []impl.Deed{load(0, 0), load(0, 3)}}}}},
		{Cells: p.Cells, Bodies: [][]impl.Act{{{Kind: impl.ActTry, Deeds: []impl.Deed{load(0, 0)}}, {}}}},
		{Cells: p.Cells, Bodies: [][]impl.Act{{{Kind: impl.ActTry, Deeds: []impl.Deed{load(0, 0)}, Reg: 1}}}},
		{Cells: p.Cells, Bodies: [][]impl.Act{repeated(impl.Act{Kind: impl.ActFork, Kids: []int{1, 1}}, 4), {{Kind: impl.ActTry, Deeds: []impl.Deed{load(0, 0)}}}}},
		{Cells: p.Cells, Bodies: [][]impl.Act{repeated(impl.Act{Kind: impl.ActTry, Deeds: []impl.Deed{load(0, 0)}}, 5)}},
		{Cells: p.Cells, Bodies: [][]impl.Act{{{Kind: impl.ActTry, Deeds: repeated(load(0, 0), 6)}}}},
	}
	for _, bad := range list {
		if wantOk(bad) {
			t.Fatalf("the test itself is wrong: %v", bad)
		}
	}
	return list
}

func TestProgramsThatAreNotOkAreNotApart(t *testing.T) {
	p, systems := okSystems(t)
	if !impl.ApartOk(mustRead(t, "cells 5 6 7\nbody\ntry r=A\n")) {
		t.Error("it is ok")
	}
	for _, bad := range badProgs(t, p) {
		notApart(t, bad)
		judgedApart(t, bad)
		for _, s := range systems {
			logDoIsNot(t, bad, s, nil)
			logDoIsNot(t, bad, s, s.Log)
		}
		logDoIsNot(t, bad, impl.Sys{}, nil)
	}
}

// A body below 0, or past the end, is none.
func TestBodiesThatAreNotThere(t *testing.T) {
	for _, text := range []string{"cells 1 2\nbody\ntry r=A B=r\n", okText} {
		p := mustRead(t, text)
		for _, body := range []int{math.MinInt, -impl.ProgBodies, -2, -1, len(p.Bodies), len(p.Bodies) + 1, 100, math.MaxInt} {
			apartIs(t, p, body, nil, nil)
		}
	}
}

// LogDo, of entries of all kinds, done or not.
func TestDoingsAreAsTheDocumentSays(t *testing.T) {
	done, not := 0, 0
	for _, x := range someDoings() {
		if !judgedLogDo(t, x.p, x.s, x.list) {
			not++
		} else if len(x.list) > 0 {
			done++
		}
	}
	enough(t, 1000, done, not)
}

// Changes in whatever order, again and again, are done, as long as each reads and puts what it would there.
func TestMadeEntriesAreDone(t *testing.T) {
	r := rand.New(rand.NewPCG(139, 140))
	again := 0
	for _, x := range someTreeSteps(15) {
		y := madeDoing(r, x.p, x.after)
		if !judgedLogDo(t, y.p, y.s, y.list) {
			t.Fatalf("not done: %v, %+v, %+v", y.p, y.s, y.list)
		}
		mustLogDo(t, y.p, y.s, y.list)
		if again += len(y.list); len(y.list) > 0 {
			again -= len(slices.CompactFunc(slices.Clone(y.list), func(a, b impl.Entry) bool { return a.Task == b.Task }))
		}
	}
	enough(t, 500, again)
}

// doText is a program whose tasks 1 and 2 have three changes each: one that reads and puts, one that needs what the first one left, and one that puts two cells.
const doText = "cells 5 6\nbody\ntry\nfork 1 1\nfailif r\nfail\nbody\ntry r=A s=1 r+s A=r\ntry s=B s? r+s\ntry A=r B=r\nfork 2\nbody\n"

// doEntries is what they are, if task 1 is first, and then task 2.
func doEntries() []impl.Entry {
	return []impl.Entry{
		{Task: 1, Act: 0, When: 1, Reads: puts(0, 5), Puts: puts(0, 6)},
		{Task: 1, Act: 1, When: 1, Reads: puts(1, 6)},
		{Task: 1, Act: 2, When: 2, Puts: puts(0, 12, 1, 12)},
		{Task: 2, Act: 0, When: 3, Reads: puts(0, 12), Puts: puts(0, 13)},
		{Task: 2, Act: 1, When: 3, Reads: puts(1, 12)},
		{Task: 2, Act: 2, When: 4, Puts: puts(0, 25, 1, 25)},
	}
}

// Each task has its own registers, from change to change, and they are told of all tasks, also of those of which there is no entry.
func TestRegistersOfEachTask(t *testing.T) {
	p, s := begun(t, doText, 0, 0, 0)
	list := doEntries()
	zero := []int{0, 0, 0}
	logDoIs(t, p, s, nil, []int{5, 6}, zero, zero, zero)
	logDoIs(t, p, s, []impl.Entry{}, []int{5, 6}, zero, zero, zero)
	logDoIs(t, p, s, list[:1], []int{6, 6}, zero, []int{6, 1, 0}, zero)
	logDoIs(t, p, s, list[:2], []int{6, 6}, zero, []int{12, 6, 0}, zero)
	logDoIs(t, p, s, list[:3], []int{12, 12}, zero, []int{12, 6, 0}, zero)
	logDoIs(t, p, s, list[:4], []int{13, 12}, zero, []int{12, 6, 0}, []int{13, 1, 0})
	logDoIs(t, p, s, list[:5], []int{13, 12}, zero, []int{12, 6, 0}, []int{25, 12, 0})
	logDoIs(t, p, s, list, []int{25, 25}, zero, []int{12, 6, 0}, []int{25, 12, 0})
	// The same of the last task alone, and of the last one of more tasks.
	for i := range list {
		list[i].Task = 3 - list[i].Task
	}
	logDoIs(t, p, s, list[:3], []int{12, 12}, zero, zero, []int{12, 6, 0})
	logDoIs(t, p, s, list, []int{25, 25}, zero, []int{25, 12, 0}, []int{12, 6, 0})
	_, more := begun(t, doText, slices.Concat(repeated(0, 3), repeated(1, 26), repeated(2, 26))...)
	more = mustRun(t, p, more, 1, 2)
	if len(more.Tasks) != 5 {
		t.Fatalf("the test itself is wrong: %+v", more)
	}
	logDoIs(t, p, more, list[:3], []int{12, 12}, zero, zero, []int{12, 6, 0}, zero, zero)
	logDoIs(t, p, more, more.Log, impl.SysNums(more), aheadOfChanges(more)...)
	// A change without anything in it is an entry of nothing.
	logDoIs(t, p, s, []impl.Entry{{Task: 0, Act: 0}}, []int{5, 6}, zero, zero, zero)
	logDoIs(t, p, s, repeated(impl.Entry{}, 50), []int{5, 6}, zero, zero, zero)
}

// It begins with the program's cells, and registers that are 0, whatever the system has: also at its end, and in one that no program comes to.
func TestLogDoBeginsWithTheProgram(t *testing.T) {
	p, systems := okSystems(t)
	for word, s := range systems {
		nums, regs := mustLogDo(t, p, s, nil)
		if !slices.Equal(nums, p.Cells) || !sameLists(regs, repeated([]int{0, 0, 0}, len(s.Tasks))) {
			t.Errorf("%s: %v, %v", word, nums, regs)
		}
		q := copiedSys(s)
		for i := range q.Cells {
			q.Cells[i].Num, q.Cells[i].Time = 90+i, q.Clock
		}
		for i := range q.Tasks {
			q.Tasks[i].Regs, q.Tasks[i].Old = []int{91, 92, 93}, []int{94, 95, 96}
		}
		q.Log = nil
		for i := range q.Tasks {
			q.Tasks[i].From = 0
		}
		if !judgedSysOk(t, p, q) {
			t.Fatalf("the test itself is wrong: %v", wantBroken(p, q))
		}
		for _, list := range [][]impl.Entry{nil, s.Log, impl.LogOrder(s.Log)} {
			nums, regs, ok := impl.LogDo(p, s, list)
			got, gotRegs, gotOk := impl.LogDo(p, q, list)
			if ok != gotOk || !slices.Equal(got, nums) || !sameLists(gotRegs, regs) {
				t.Errorf("%s: %v, %v, %v, not %v, %v, %v", word, got, gotRegs, gotOk, nums, regs, ok)
			}
		}
	}
}

// An entry of the last task is done, one of none, or of one below 0, is not.
func TestTasksOfEntries(t *testing.T) {
	p, s := begun(t, doText, 0, 0, 0)
	e := doEntries()[0]
	for _, task := range []int{1, 2} {
		e.Task = task
		mustLogDo(t, p, s, []impl.Entry{e})
	}
	for _, task := range []int{math.MinInt, -3, -2, -1, 3, 4, 6, 7, 100, math.MaxInt} {
		e.Task = task
		logDoIsNot(t, p, s, []impl.Entry{e})
		logDoIsNot(t, p, s, []impl.Entry{{}, e})
		logDoIsNot(t, p, s, append(doEntries(), e))
		logDoIsNot(t, p, s, append(doEntries(), impl.Entry{Task: task}))
	}
	// Task 0 is of another body, which has another change there.
	e.Task = 0
	logDoIsNot(t, p, s, []impl.Entry{e})
}

// An act that is not there, or is no change, is none; each task has those of its own body.
func TestActsOfEntries(t *testing.T) {
	p, s := begun(t, doText, 0, 0, 0)
	for _, act := range []int{math.MinInt, -1, 1, 2, 3, 4, 5, 100, math.MaxInt} {
		logDoIsNot(t, p, s, []impl.Entry{{Act: act}})
		e := doEntries()[0]
		if e.Act = act; act < 1 || act > 2 {
			logDoIsNot(t, p, s, []impl.Entry{e})
			logDoIsNot(t, p, s, append(doEntries(), e))
			logDoIsNot(t, p, s, append(doEntries(), impl.Entry{Task: 2, Act: act}))
		}
	}
	// What is another act's is none of this one.
	for act := range 3 {
		for _, e := range doEntries()[:3] {
			if act != e.Act {
				e.Act = act
				logDoIsNot(t, p, s, []impl.Entry{e})
			}
		}
	}
	// Of a body without acts there is none.
	_, last := begun(t, "cells\nbody\n")
	logDoIsNot(t, mustRead(t, "cells\nbody\n"), last, []impl.Entry{{}})
	// Whether the task has come to it is not asked, nor whether it was done ahead.
	zero := []int{0, 0, 0}
	logDoIs(t, p, s, doEntries()[1:2], []int{5, 6}, zero, []int{6, 6, 0}, zero)
	logDoIs(t, p, s, []impl.Entry{{Task: 2, Act: 1}, {Task: 2, Act: 1}}, []int{5, 6}, zero, zero, []int{12, 6, 0})
}

// All that is in Reads must be there, a cell that is not there has nothing; what is not in Reads, or more, is not asked.
func TestReadsOfEntries(t *testing.T) {
	p, s := begun(t, doText, 0, 0, 0)
	for _, x := range []struct {
		want  bool
		reads []impl.Put
	}{
		{true, puts(0, 5)}, {true, nil}, {true, puts(0, 5, 1, 6)}, {true, puts(1, 6)}, {true, puts(1, 6, 0, 5)}, {true, puts(0, 5, 0, 5)},
		{false, puts(0, 4)}, {false, puts(0, 6)}, {false, puts(0, 0)}, {false, puts(0, 105)}, {false, puts(0, -5)}, {false, puts(1, 5)},
		{false, puts(0, 5, 1, 5)}, {false, puts(0, 5, 0, 6)}, {false, puts(0, 6, 0, 5)},
		{false, puts(2, 0)}, {false, puts(0, 5, 2, 0)}, {false, puts(-1, 0)}, {false, puts(-1, 5)}, {false, puts(math.MinInt, 0)}, {false, puts(0, 5, math.MaxInt, 0)},
	} {
		e := doEntries()[0]
		e.Reads = x.reads
		if judgedLogDo(t, p, s, []impl.Entry{e}) != x.want {
			t.Errorf("not %v: %v", x.want, x.reads)
		}
		if list := doEntries(); !x.want {
			logDoIsNot(t, p, s, append([]impl.Entry{e}, list[1:]...))
			logDoIsNot(t, p, s, append([]impl.Entry{{}, e}, list[1:]...))
		}
	}
	// It is asked of what cells have then, not at first.
	list := doEntries()
	list[3].Reads = puts(0, 5)
	logDoIsNot(t, p, s, list)
	list[3].Reads = puts(1, 12)
	mustLogDo(t, p, s, list)
}

// Just what the change puts: not less, not more, and nothing else; in which order it is told is not asked.
func TestPutsOfEntries(t *testing.T) {
	p, s := begun(t, doText, 0, 0, 0)
	for _, x := range []struct {
		want bool
		puts []impl.Put
	}{
		{true, puts(0, 12, 1, 12)}, {true, puts(1, 12, 0, 12)},
		{false, nil}, {false, puts(0, 12)}, {false, puts(1, 12)},
		{false, puts(0, 12, 1, 11)}, {false, puts(0, 11, 1, 12)}, {false, puts(0, 6, 1, 6)}, {false, puts(0, 12, 1, 112)}, {false, puts(0, 12, 1, -88)},
		{false, puts(0, 12, 1, 12, 2, 12)}, {false, puts(0, 12, 2, 12)}, {false, puts(-1, 12, 0, 12, 1, 12)}, {false, puts(0, 12, 1, 12, math.MaxInt, 0)},
		{false, puts(0, 12, 0, 12)}, {false, puts(0, 12, 1, 12, 1, 12)}, {false, puts(0, 12, 0, 12, 1, 12)}, {false, puts(0, 9, 0, 12, 1, 12)}, {false, puts(0, 12, 1, 12, 0, 9)}, {false, puts(1, 12, 1, 12)},
	} {
		list := doEntries()
		list[2].Puts = x.puts
		if judgedLogDo(t, p, s, list[:3]) != x.want || judgedLogDo(t, p, s, list) != x.want {
			t.Errorf("not %v: %v", x.want, x.puts)
		}
		if !x.want {
			logDoIsNot(t, p, s, list)
		}
	}
	// Who only reads puts nothing, not even what is there already.
	for _, more := range [][]impl.Put{puts(0, 6), puts(1, 6), puts(2, 0), puts(-1, 0)} {
		list := doEntries()
		list[1].Puts = more
		logDoIsNot(t, p, s, list[:2])
	}
	// Who puts what is there already puts it.
	q, u := begun(t, "cells 0 4\nbody\ntry A=r\ntry r=B B=r\n")
	zero := []int{0, 0, 0}
	logDoIs(t, q, u, []impl.Entry{{Puts: puts(0, 0)}}, []int{0, 4}, zero)
	logDoIs(t, q, u, []impl.Entry{{Act: 1, Reads: puts(1, 4), Puts: puts(1, 4)}}, []int{0, 4}, []int{4, 0, 0})
	logDoIsNot(t, q, u, []impl.Entry{{}})
	logDoIsNot(t, q, u, []impl.Entry{{Act: 1, Reads: puts(1, 4)}})
	// Of a cell that is stored to twice the last number counts.
	q, u = begun(t, "cells 0\nbody\ntry r=3 A=r r+r A=r\n")
	logDoIs(t, q, u, []impl.Entry{{Puts: puts(0, 6)}}, []int{6}, []int{6, 0, 0})
	logDoIsNot(t, q, u, []impl.Entry{{Puts: puts(0, 3)}})
	logDoIsNot(t, q, u, []impl.Entry{{Puts: puts(0, 3, 0, 6)}})
}

// What must be there, and is not, keeps an entry from being done.
func TestWhatMustBeThereOfEntries(t *testing.T) {
	p, s := begun(t, "cells 0\nbody\nfork 1 2\nbody\ntry r=A r?\nbody\ntry r=5 A=r\ntry s? A=s\n", 0)
	waits, sets := impl.Entry{Task: 1, Reads: puts(0, 0)}, impl.Entry{Task: 2, Puts: puts(0, 5)}
	zero := []int{0, 0, 0}
	logDoIsNot(t, p, s, []impl.Entry{waits})
	logDoIsNot(t, p, s, []impl.Entry{waits, sets})
	logDoIsNot(t, p, s, []impl.Entry{sets, waits})
	waits.Reads = puts(0, 5)
	logDoIs(t, p, s, []impl.Entry{sets, waits}, []int{5}, zero, []int{5, 0, 0}, []int{5, 0, 0})
	waits.Reads = nil
	logDoIs(t, p, s, []impl.Entry{sets, waits}, []int{5}, zero, []int{5, 0, 0}, []int{5, 0, 0})
	logDoIsNot(t, p, s, []impl.Entry{waits, sets})
	logDoIsNot(t, p, s, []impl.Entry{sets, {Task: 2, Act: 1, Puts: puts(0, 0)}})
}

// Entries are done in the order in which they stand, whatever their times say.
func TestEntriesInNoOrder(t *testing.T) {
	p, s := begun(t, doText, 0, 0, 0)
	list := doEntries()
	mixed := slices.Clone(list)
	slices.Reverse(mixed)
	logDoIsNot(t, p, s, mixed)
	judgedLogDo(t, p, s, impl.LogOrder(mixed))
	for i := range list {
		for j := range i {
			mixed := slices.Clone(list)
			mixed[i], mixed[j] = mixed[j], mixed[i]
			judgedLogDo(t, p, s, mixed)
		}
		judgedLogDo(t, p, s, append(slices.Clone(list[:i]), list[i+1:]...))
		judgedLogDo(t, p, s, list[i:])
	}
	want, wantRegs := mustLogDo(t, p, s, list)
	for i := range list {
		// Times, and how many were ended ahead, are not asked.
		list[i].When, list[i].From = []int{math.MaxInt, -1, 201, 0, 0, math.MinInt}[i], []int{math.MinInt, 7, -2, math.MaxInt, 1, 0}[i]
	}
	logDoIs(t, p, s, list, want, wantRegs...)
	// What was ended ahead of what it read must stand behind.
	q, u := begun(t, "cells 1\nbody\nfork 1 2\nbody\ntry r=7 A=r\nbody\ntry r=A\n", slices.Concat([]int{0, 2}, repeated(1, 7), []int{2, 2})...)
	one, other := impl.Entry{Task: 1, When: 1, Puts: puts(0, 7)}, impl.Entry{Task: 2, When: 0, Reads: puts(0, 1)}
	zero := []int{0, 0, 0}
	logDoIsNot(t, q, u, []impl.Entry{one, other})
	logDoIs(t, q, u, impl.LogOrder([]impl.Entry{one, other}), []int{7}, zero, []int{7, 0, 0}, []int{1, 0, 0})
}

// What is half written is in no entry: LogDo leaves what was there ahead.
func TestWhatIsBeingWrittenIsNotDone(t *testing.T) {
	p, s := begun(t, "cells 1 2\nbody\ntry t=9\ntry r=8 A=r B=r\n", slices.Concat(repeated(0, 3), repeated(0, 10))...)
	if !isWriting(s) || s.Tasks[0].At != 1 {
		t.Fatalf("the test itself is wrong: %+v", s)
	}
	listIs(t, "half of it", impl.SysNums(s), 8, 2)
	logDoIs(t, p, s, impl.LogOrder(s.Log), []int{1, 2}, []int{0, 0, 9})
	s = mustStep(t, p, s, 0)
	logDoIs(t, p, s, impl.LogOrder(s.Log), []int{8, 8}, []int{8, 0, 9})
}

// Of a system that is not ok, or is none of that program, nothing is done, not even without entries.
func TestLogDoOfSystemsThatAreNotOk(t *testing.T) {
	r := rand.New(rand.NewPCG(141, 142))
	good, bad := 0, 0
	for _, x := range someTreeSteps(20) {
		s := bentSys(r, x.after)
		list := impl.LogOrder(x.after.Log)
		judgedLogDo(t, x.p, s, list)
		judgedLogDo(t, x.p, s, nil)
		if len(wantBroken(x.p, s)) > 0 {
			bad++
			logDoIsNot(t, x.p, s, nil)
			logDoIsNot(t, x.p, s, list)
		} else {
			good++
			mustLogDo(t, x.p, s, nil)
		}
	}
	enough(t, 1000, good, bad)
	p, systems := okSystems(t)
	logDoIsNot(t, p, impl.Sys{}, nil)
	for _, s := range systems {
		for _, text := range []string{"cells\nbody\n", "cells 5 6 7\nbody\n", "cells 5 6\nbody\ntry r=A\nfork 1\nbody\n"} {
			logDoIsNot(t, mustRead(t, text), s, nil)
			logDoIsNot(t, mustRead(t, text), s, s.Log)
		}
		// The system's own log need not be done, but must be in form.
		s = copiedSys(s)
		s.Log = append(s.Log, impl.Entry{})
		mustLogDo(t, p, s, nil)
		s.Log[len(s.Log)-1].When = -1
		logDoIsNot(t, p, s, nil)
	}
	// A system may be another program's as well: it is that one's cells, and acts, that are done.
	q := mustRead(t, "cells 1 2\nbody\ntry r=B\n")
	logDoIs(t, q, mustNew(t, mustRead(t, "cells 8 9\nbody\n")), []impl.Entry{{Reads: puts(1, 2)}}, []int{1, 2}, []int{2, 0, 0})
}

// It is of no concern that nobody takes a step any more.
func TestLogDoAtSysTime(t *testing.T) {
	p, systems := okSystems(t)
	for word, s := range systems {
		before, beforeRegs, ok := impl.LogDo(p, s, impl.LogOrder(s.Log))
		s = copiedSys(s)
		for _, clock := range []int{impl.SysTime - 1, impl.SysTime} {
			s.Clock = clock
			nums, regs, okToo := impl.LogDo(p, s, impl.LogOrder(s.Log))
			if ok != okToo || !slices.Equal(nums, before) || !sameLists(regs, beforeRegs) {
				t.Errorf("%s: %v, %v, not %v, %v", word, nums, regs, before, beforeRegs)
			}
		}
		s.Clock = impl.SysTime + 1
		logDoIsNot(t, p, s, nil)
	}
}

// Very many entries come to an end as well: each adds one.
func TestVeryManyEntriesAreDone(t *testing.T) {
	p, s := begun(t, "cells 0\nbody\ntry r=A s=1 r+s A=r\n")
	var list []impl.Entry
	for i := range 20030 {
		list = append(list, impl.Entry{Reads: puts(0, i%100), Puts: puts(0, (i+1)%100)})
	}
	logDoIs(t, p, s, list, []int{30}, []int{30, 1, 0})
	list[20000].Puts[0].Num++
	logDoIsNot(t, p, s, list)
}
