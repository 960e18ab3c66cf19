package tests

import (
	"math/rand/v2"
	"runtime"
	"slices"
	"testing"

	"loop.example/equerry/impl"
)

func spansOfSys(s impl.Sys) []span {
	list := []span{spanOf(s.Cells), spanOf(s.Tasks), spanOf(s.Log)}
	for _, x := range s.Tasks {
		list = append(list, spanOf(x.Regs), spanOf(x.Old), spanOf(x.Reads), spanOf(x.Puts))
	}
	for _, e := range s.Log {
		list = append(list, spanOf(e.Reads), spanOf(e.Puts))
	}
	return list
}

// paddedSys lays something behind the end of each list, which must stay as the list must.
func paddedSys(s impl.Sys) impl.Sys {
	q := copiedSys(s)
	put := impl.Put{Cell: 77, Num: 77}
	for i := range q.Tasks {
		x := &q.Tasks[i]
		x.Regs, x.Old, x.Reads, x.Puts = laid(x.Regs, 77), laid(x.Old, 77), laid(x.Reads, put), laid(x.Puts, put)
	}
	for i := range q.Log {
		e := &q.Log[i]
		e.Reads, e.Puts = laid(e.Reads, put), laid(e.Puts, put)
	}
	q.Cells, q.Tasks, q.Log = laid(q.Cells, impl.Cell{Num: 77}), laid(q.Tasks, impl.Task{Body: 77}), laid(q.Log, impl.Entry{Task: 77})
	return q
}

// wholeSys is a system with all that lies behind the ends of its lists.
func wholeSys(s impl.Sys) string {
	q := impl.Sys{Cells: s.Cells[:cap(s.Cells)], Clock: s.Clock}
	for _, x := range s.Tasks[:cap(s.Tasks)] {
		x.Regs, x.Old, x.Reads, x.Puts = x.Regs[:cap(x.Regs)], x.Old[:cap(x.Old)], x.Reads[:cap(x.Reads)], x.Puts[:cap(x.Puts)]
		q.Tasks = append(q.Tasks, x)
	}
	for _, e := range s.Log[:cap(s.Log)] {
		e.Reads, e.Puts = e.Reads[:cap(e.Reads)], e.Puts[:cap(e.Puts)]
		q.Log = append(q.Log, e)
	}
	return shownSys(q)
}

// sysAnswers is all that can be asked of a system: systems, and lists.
func sysAnswers(p impl.Prog, s impl.Sys, turns []int) ([]impl.Sys, [][]int) {
	var systems []impl.Sys
	keep := func(q impl.Sys, _ bool) { systems = append(systems, q) }
	for task := range s.Tasks {
		keep(impl.SysStep(p, s, task))
	}
	keep(impl.SysRun(p, s, turns))
	keep(impl.SysRun(p, s, nil))
	keep(impl.SysRest(p, s, 20))
	keep(impl.SysRest(p, s, 0))
	impl.SysOk(p, s)
	impl.SysOver(p, s)
	lists := [][]int{impl.SysReady(p, s), impl.SysNums(s), impl.SysWays(s), impl.SysHeld(s), impl.SysAwait(s)}
	return systems, lists
}

// Each list of an answer is its own: of no argument, of no other list, and of no other call's.
func TestSystemsShareNoMemory(t *testing.T) {
	r := rand.New(rand.NewPCG(41, 42))
	for _, x := range seenSystems(250) {
		p, s := padded(x.p), paddedSys(x.before)
		turns := laid(someTurns(r, 20, len(s.Tasks)), 0)
		systems, lists := sysAnswers(p, s, turns)
		first, _ := impl.SysNew(p)
		systems = append(systems, first)
		list := append(append(spansOf(p), spansOfSys(s)...), spanOf(turns))
		for _, q := range systems {
			list = append(list, spansOfSys(q)...)
		}
		for _, q := range lists {
			list = append(list, spanOf(q))
		}
		shareNone(t, list, shownSys(s))
		runtime.KeepAlive(p)
		runtime.KeepAlive(s)
		runtime.KeepAlive(systems)
		runtime.KeepAlive(lists)
		runtime.KeepAlive(turns)
	}
}

// Nothing is written into an argument, or behind the end of one of its lists, whether it is ok, or not.
func TestNothingIsWrittenIntoASystem(t *testing.T) {
	r := rand.New(rand.NewPCG(43, 44))
	for _, x := range seenSystems(40) {
		for _, s := range []impl.Sys{paddedSys(x.before), paddedSys(bentSys(r, x.before))} {
			p := padded(x.p)
			turns := laid(someTurns(r, 30, len(s.Tasks)), 0)
			progBefore, sysBefore, turnsBefore := whole(p), wholeSys(s), slices.Clone(turns[:cap(turns)])
			sysAnswers(p, s, turns)
			impl.SysNew(p)
			if whole(p) != progBefore || wholeSys(s) != sysBefore || !slices.Equal(turns[:cap(turns)], turnsBefore) {
				t.Fatalf("something was written: %v, %+v, not %s", p, s, sysBefore)
			}
		}
	}
}

// What is written into an answer is in no later one, nor in the argument.
func TestAnswersOfSystemsAreNotKept(t *testing.T) {
	for _, x := range seenSystems(200) {
		before := shownSys(x.before)
		turns := []int{0, 1, 2, 0, 1, 2, 3}
		systems, lists := sysAnswers(x.p, x.before, turns)
		var want []string
		for _, q := range systems {
			want = append(want, shownSys(q))
			spoilSys(q)
		}
		wantLists := [][]int{}
		for _, list := range lists {
			wantLists = append(wantLists, slices.Clone(list))
			spoil(list, 88)
		}
		if shownSys(x.before) != before {
			t.Fatalf("written into the argument: %+v, not %s", x.before, before)
		}
		again, againLists := sysAnswers(x.p, x.before, turns)
		for i, q := range again {
			if shownSys(q) != want[i] {
				t.Fatalf("answer %d: %+v, not %s", i, q, want[i])
			}
		}
		for i, list := range againLists {
			listIs(t, "a list", list, wantLists[i]...)
		}
	}
}

func spoil[T any](list []T, x T) {
	list = list[:cap(list)]
	for i := range list {
		list[i] = x
	}
}

func spoilSys(s impl.Sys) {
	put := impl.Put{Cell: 88, Num: 88}
	for _, x := range s.Tasks {
		spoil(x.Regs, 88)
		spoil(x.Old, 88)
		spoil(x.Reads, put)
		spoil(x.Puts, put)
	}
	for _, e := range s.Log {
		spoil(e.Reads, put)
		spoil(e.Puts, put)
	}
	spoil(s.Cells, impl.Cell{Num: 88})
	spoil(s.Tasks, impl.Task{Body: 88})
	spoil(s.Log, impl.Entry{Task: 88})
}

// An argument whose lists share memory is as good as any other: what is done to one is not done to the other.
func TestListsOfASystemMayShareMemory(t *testing.T) {
	shared := 0
	for _, x := range seenSystems(20) {
		s := copiedSys(x.before)
		var regs [][]int
		var puts [][]impl.Put
		one := func(list *[]int) {
			for _, other := range regs {
				if slices.Equal(*list, other) {
					*list = other
					shared++
				}
			}
			regs = append(regs, *list)
		}
		onePuts := func(list *[]impl.Put) {
			for _, other := range puts {
				if len(other) > 0 && slices.Equal(*list, other) {
					*list = other
					shared++
				}
			}
			puts = append(puts, *list)
		}
		for i := range s.Tasks {
			y := &s.Tasks[i]
			one(&y.Regs)
			one(&y.Old)
			onePuts(&y.Reads)
			onePuts(&y.Puts)
		}
		for i := range s.Log {
			onePuts(&s.Log[i].Reads)
			onePuts(&s.Log[i].Puts)
		}
		before := shownSys(s)
		judgedSteps(t, x.p, s)
		judgedRest(t, x.p, s, 50)
		if shownSys(s) != before {
			t.Fatalf("something was written: %+v", s)
		}
	}
	enough(t, 5000, shared)
}

// Lists of no length, but with room, are as good as nil ones.
func TestEmptyListsOfASystemAreNilLists(t *testing.T) {
	for _, x := range seenSystems(100) {
		s := copiedSys(x.before)
		for i := range s.Tasks {
			y := &s.Tasks[i]
			if len(y.Reads) == 0 {
				y.Reads = make([]impl.Put, 0, 4)
			}
			if len(y.Puts) == 0 {
				y.Puts = []impl.Put{}
			}
		}
		if len(s.Log) == 0 {
			s.Log = make([]impl.Entry, 0, 9)
		}
		if len(s.Cells) == 0 {
			s.Cells = []impl.Cell{}
		}
		judgedSysOk(t, x.p, s)
		judgedSteps(t, x.p, s)
	}
}
