package tests

import (
	"math"
	"math/rand/v2"
	"slices"
	"testing"

	"loop.example/equerry/impl"
)

// judgedSteps holds the step of each task, and of nobody, against what is wanted.
func judgedSteps(t *testing.T, p impl.Prog, s impl.Sys) {
	t.Helper()
	for _, task := range append([]int{math.MinInt, -2, -1, len(s.Tasks), len(s.Tasks) + 1, math.MaxInt}, placesOf(s)...) {
		want, ok := wantStep(p, s, task)
		got, gotOk := impl.SysStep(p, s, task)
		if gotOk != ok || !sameSys(got, want) {
			t.Fatalf("SysStep of %d: %+v, %v, not %+v, %v: %v, %+v", task, got, gotOk, want, ok, p, s)
		}
	}
}

func placesOf(s impl.Sys) []int {
	var list []int
	for i := range s.Tasks {
		list = append(list, i)
	}
	return list
}

func TestNewSystemsAreAsTheDocumentSays(t *testing.T) {
	r := rand.New(rand.NewPCG(25, 26))
	for _, p := range someProgs(2000) {
		s := mustNew(t, p)
		want := impl.Sys{Tasks: []impl.Task{{Up: -1, Regs: []int{0, 0, 0}, Old: []int{0, 0, 0}}}}
		for _, n := range p.Cells {
			want.Cells = append(want.Cells, impl.Cell{Num: n, Lock: -1})
		}
		if !sameSys(s, want) {
			t.Fatalf("%v: %+v", p, s)
		}
		if !judgedSysOk(t, p, s) || !slices.Equal(impl.SysReady(p, s), []int{0}) {
			t.Fatalf("%v: %+v", p, s)
		}
		q := bent(r, p)
		if s, ok := impl.SysNew(q); ok != wantOk(q) || !ok && !isNothing(s) {
			t.Fatalf("%v: %+v, %v", q, s, ok)
		}
	}
	if s, ok := impl.SysNew(impl.Prog{}); ok || !isNothing(s) {
		t.Fatalf("%+v", s)
	}
}

func TestEachStepIsAsTheDocumentSays(t *testing.T) {
	for _, x := range seenSystems(2) {
		judgedSysOk(t, x.p, x.before)
		judgedSteps(t, x.p, x.before)
	}
}

func TestRunsAndRestsAreAsTheDocumentSays(t *testing.T) {
	r := rand.New(rand.NewPCG(27, 28))
	for i, x := range seenSystems(40) {
		turns := someTurns(r, r.IntN(60), len(x.before.Tasks))
		if i%10 == 0 {
			turns = someTurns(r, 298+r.IntN(6), 7)
		}
		judgedRun(t, x.p, x.before, turns)
		judgedRest(t, x.p, x.before, r.IntN(50))
		judgedRest(t, x.p, x.before, 2000)
	}
}

func judgedRun(t *testing.T, p impl.Prog, s impl.Sys, turns []int) {
	t.Helper()
	want, ok := wantRun(p, s, turns)
	got, gotOk := impl.SysRun(p, s, turns)
	if gotOk != ok || !sameSys(got, want) {
		t.Fatalf("SysRun of %v: %+v, %v, not %+v, %v: %v, %+v", turns, got, gotOk, want, ok, p, s)
	}
}

func judgedRest(t *testing.T, p impl.Prog, s impl.Sys, most int) {
	t.Helper()
	want, _, ok := wantRest(p, s, most)
	got, gotOk := impl.SysRest(p, s, most)
	if gotOk != ok || !sameSys(got, want) {
		t.Fatalf("SysRest of %d: %+v, %v, not %+v, %v: %v, %+v", most, got, gotOk, want, ok, p, s)
	}
}

// All orders of the steps of small programs, each system once.
func TestAllOrdersOfSmallPrograms(t *testing.T) {
	for _, text := range smallTexts {
		p := mustRead(t, text)
		systems := allSystems(t, p)
		if len(systems) < 30 {
			t.Errorf("only %d systems: %q", len(systems), text)
		}
		for _, s := range systems {
			if !judgedSysOk(t, p, s) {
				t.Fatalf("not ok: %+v", s)
			}
			judgedSteps(t, p, s)
		}
	}
}

// allSystems is what is behind each of allSteps, each once, and the beginning.
func allSystems(t *testing.T, p impl.Prog) []impl.Sys {
	t.Helper()
	list := []impl.Sys{mustNew(t, p)}
	seen := map[string]int{shownSys(list[0]): 0}
	for _, x := range allSteps(p) {
		if _, there := seen[shownSys(x.after)]; !there {
			seen[shownSys(x.after)] = len(list)
			list = append(list, x.after)
		}
	}
	return list
}
