package tests

import (
	"fmt"
	"maps"
	"math/rand/v2"
	"slices"
	"sync"
	"testing"

	"loop.example/equerry/impl"
)

// The tests' own reading of chapter 11, as those of the chapters ahead. It keeps no locks: who holds a cell is worked out from how far changes are. Reads and Puts are maps, and put in order only to be told.

type modelTask struct {
	body, pc, up, way            int
	stage, at, since, when, from int
	regs, old                    [3]int
	reads, puts                  map[int]int
}

type model struct {
	p           impl.Prog
	nums, times []int
	tasks       []*modelTask
	clock       int
	log         []impl.Entry
}

func mapOf(list []impl.Put) map[int]int {
	m := map[int]int{}
	for _, x := range list {
		m[x.Cell] = x.Num
	}
	return m
}

func listOf(m map[int]int) []impl.Put {
	var list []impl.Put
	for _, cell := range slices.Sorted(maps.Keys(m)) {
		list = append(list, impl.Put{Cell: cell, Num: m[cell]})
	}
	return list
}

// modelOf is for ok systems only.
func modelOf(p impl.Prog, s impl.Sys) *model {
	m := &model{p: p, clock: s.Clock, log: slices.Clone(s.Log)}
	for _, c := range s.Cells {
		m.nums, m.times = append(m.nums, c.Num), append(m.times, c.Time)
	}
	for _, t := range s.Tasks {
		m.tasks = append(m.tasks, &modelTask{t.Body, t.Pc, t.Up, t.Way, t.Stage, t.At, t.Since, t.When, t.From, [3]int(t.Regs), [3]int(t.Old), mapOf(t.Reads), mapOf(t.Puts)})
	}
	return m
}

func (m *model) sys() impl.Sys {
	s := impl.Sys{Clock: m.clock, Log: m.log}
	for i := range m.nums {
		s.Cells = append(s.Cells, impl.Cell{Num: m.nums[i], Time: m.times[i], Lock: m.holder(i)})
	}
	for _, t := range m.tasks {
		s.Tasks = append(s.Tasks, impl.Task{Body: t.body, Pc: t.pc, Up: t.up, Regs: slices.Clone(t.regs[:]), Way: t.way, Stage: t.stage, At: t.at, Since: t.since, Old: slices.Clone(t.old[:]), Reads: listOf(t.reads), Puts: listOf(t.puts), When: t.when, From: t.from})
	}
	return s
}

// mustHold is the cells that a task must hold, by how far its change is.
func mustHold(stage, at int, cells []int) []int {
	switch stage {
	case 2:
		return cells[:at]
	case 3, 4:
		return cells
	case 5:
		return cells[at:]
	}
	return nil
}

func (m *model) holder(cell int) int {
	for i, t := range m.tasks {
		if slices.Contains(mustHold(t.stage, t.at, slices.Sorted(maps.Keys(t.puts))), cell) {
			return i
		}
	}
	return -1
}

func (m *model) kids(task int) []*modelTask {
	var list []*modelTask
	for _, t := range m.tasks {
		if t.up == task {
			list = append(list, t)
		}
	}
	return list
}

func (m *model) countKids(task int, ways ...int) int {
	n := 0
	for _, t := range m.kids(task) {
		if slices.Contains(ways, t.way) {
			n++
		}
	}
	return n
}

func (m *model) ready(task int) bool {
	if task < 0 || task >= len(m.tasks) || m.clock >= 200 {
		return false
	}
	t := m.tasks[task]
	runs := t.way == 0 && (t.stage > 0 || t.when <= m.clock)
	waits := t.way == 1 && (m.countKids(task, 3) > 0 || m.countKids(task, 0, 1) == 0)
	return runs || waits
}

// step is for tasks that are ready.
func (m *model) step(task int) {
	t := m.tasks[task]
	acts := m.p.Bodies[t.body]
	switch {
	case t.way == 1 && m.countKids(task, 3) > 0:
		for i, kid := range m.tasks {
			if kid.up == task {
				m.off(i)
			}
		}
		t.way = 3
	case t.way == 1:
		t.way, t.pc = 0, t.pc+1
	case t.pc == len(acts):
		t.way = 2
	case acts[t.pc].Kind == 2:
		t.way = 1
		for _, kid := range acts[t.pc].Kids {
			m.tasks = append(m.tasks, &modelTask{body: kid, up: task, reads: map[int]int{}, puts: map[int]int{}})
		}
	case acts[t.pc].Kind == 3, acts[t.pc].Kind == 4 && t.regs[acts[t.pc].Reg] != 0:
		t.way = 3
	case acts[t.pc].Kind == 4:
		t.pc++
	default:
		m.change(task, acts[t.pc].Deeds)
	}
}

func (m *model) change(task int, deeds []impl.Deed) {
	t := m.tasks[task]
	switch t.stage {
	case 0:
		t.since, t.old, t.from, t.when, t.stage, t.at = m.clock, t.regs, len(m.log), 0, 1, 0
	case 1:
		if t.at < len(deeds) {
			m.deed(task, deeds[t.at])
		} else if len(t.puts) == 0 {
			m.end(task, t.since)
		} else {
			t.stage, t.at = 2, 0
		}
	case 2:
		if m.holder(listOf(t.puts)[t.at].Cell) != -1 {
			m.again(t)
		} else if t.at++; t.at == len(t.puts) {
			t.stage, t.at = 3, 0
		}
	case 3:
		m.clock++
		t.when, t.stage, t.at = m.clock, 4, 0
	case 4:
		if t.at == len(t.reads) {
			t.stage, t.at = 5, 0
		} else if m.blind(task, listOf(t.reads)[t.at].Cell) {
			m.again(t)
		} else {
			t.at++
		}
	case 5:
		m.write(task)
	}
}

func (m *model) blind(task, cell int) bool {
	holder := m.holder(cell)
	return holder >= 0 && holder != task || m.times[cell] > m.tasks[task].since
}

func (m *model) deed(task int, d impl.Deed) {
	t := m.tasks[task]
	switch d.Kind {
	case 1:
		n, put := t.puts[d.B]
		if !put && m.blind(task, d.B) {
			m.again(t)
			return
		}
		if !put {
			n = m.nums[d.B]
			t.reads[d.B] = n
		}
		t.regs[d.A] = n
	case 2:
		t.puts[d.A] = t.regs[d.B]
	case 3:
		t.regs[d.A] = d.B
	case 4:
		t.regs[d.A] = (t.regs[d.A] + t.regs[d.B]) % 100
	case 5:
		if t.regs[d.A] == 0 {
			m.again(t)
			t.when = t.since + 1
			return
		}
	}
	t.at++
}

func (m *model) write(task int) {
	t := m.tasks[task]
	x := listOf(t.puts)[t.at]
	m.nums[x.Cell], m.times[x.Cell] = x.Num, t.when
	if t.at++; t.at == len(t.puts) {
		m.end(task, t.when)
	}
}

func (m *model) end(task, when int) {
	t := m.tasks[task]
	m.log = append(m.log, impl.Entry{Task: task, Act: t.pc, When: when, Reads: listOf(t.reads), Puts: listOf(t.puts), From: t.from})
	*t = modelTask{body: t.body, pc: t.pc + 1, up: t.up, way: t.way, regs: t.regs, old: t.old, reads: map[int]int{}, puts: map[int]int{}}
}

func (m *model) again(t *modelTask) {
	*t = modelTask{body: t.body, pc: t.pc, up: t.up, way: t.way, regs: t.old, old: t.old, since: t.since, from: t.from, reads: map[int]int{}, puts: map[int]int{}}
}

func (m *model) off(task int) {
	for i, kid := range m.tasks {
		if kid.up == task {
			m.off(i)
		}
	}
	t := m.tasks[task]
	if t.way > 1 {
		return
	}
	if t.stage == 5 {
		for t.stage == 5 {
			m.write(task)
		}
	} else if t.stage != 0 {
		m.again(t)
	}
	t.way = 4
}

func wantReady(p impl.Prog, s impl.Sys) []int {
	if len(wantBroken(p, s)) > 0 {
		return nil
	}
	var list []int
	for i := range s.Tasks {
		if modelOf(p, s).ready(i) {
			list = append(list, i)
		}
	}
	return list
}

func wantStep(p impl.Prog, s impl.Sys, task int) (impl.Sys, bool) {
	if len(wantBroken(p, s)) > 0 {
		return impl.Sys{}, false
	}
	m := modelOf(p, s)
	if !m.ready(task) {
		return impl.Sys{}, false
	}
	m.step(task)
	return m.sys(), true
}

func wantRun(p impl.Prog, s impl.Sys, turns []int) (impl.Sys, bool) {
	if len(wantBroken(p, s)) > 0 || len(turns) > 300 {
		return impl.Sys{}, false
	}
	m := modelOf(p, s)
	for _, task := range turns {
		if m.ready(task) {
			m.step(task)
		}
	}
	return m.sys(), true
}

// wantRest also tells which tasks took steps.
func wantRest(p impl.Prog, s impl.Sys, most int) (impl.Sys, []int, bool) {
	if len(wantBroken(p, s)) > 0 || !inRange(most, 0, 2000) {
		return impl.Sys{}, nil, false
	}
	m := modelOf(p, s)
	var took []int
	for lastRound := -1; lastRound < len(took) && len(took) < most; {
		lastRound = len(took)
		for i := 0; i < len(m.tasks) && len(took) < most; i++ {
			if m.ready(i) {
				m.step(i)
				took = append(took, i)
			}
		}
	}
	return m.sys(), took, true
}

// shownSys tells systems apart by value alone: nil and empty lists look the same.
func shownSys(s impl.Sys) string { return fmt.Sprintf("%+v", s) }

func sameSys(a, b impl.Sys) bool { return shownSys(a) == shownSys(b) }

// copiedSys is the same system in memory of its own.
func copiedSys(s impl.Sys) impl.Sys {
	q := impl.Sys{Cells: slices.Clone(s.Cells), Clock: s.Clock}
	for _, t := range s.Tasks {
		t.Regs, t.Old, t.Reads, t.Puts = slices.Clone(t.Regs), slices.Clone(t.Old), slices.Clone(t.Reads), slices.Clone(t.Puts)
		q.Tasks = append(q.Tasks, t)
	}
	for _, e := range s.Log {
		e.Reads, e.Puts = slices.Clone(e.Reads), slices.Clone(e.Puts)
		q.Log = append(q.Log, e)
	}
	return q
}

func isNothing(s impl.Sys) bool {
	return len(s.Cells) == 0 && len(s.Tasks) == 0 && s.Clock == 0 && len(s.Log) == 0
}

// mustNew is for programs that the test knows to be ok.
func mustNew(t *testing.T, p impl.Prog) impl.Sys {
	t.Helper()
	s, ok := impl.SysNew(p)
	if !ok {
		t.Fatalf("no system: %v", p)
	}
	return s
}

func mustRun(t *testing.T, p impl.Prog, s impl.Sys, turns ...int) impl.Sys {
	t.Helper()
	q, ok := impl.SysRun(p, s, turns)
	if !ok {
		t.Fatalf("not run: %v of %+v", turns, s)
	}
	return q
}

func mustRest(t *testing.T, p impl.Prog, s impl.Sys, most int) impl.Sys {
	t.Helper()
	q, ok := impl.SysRest(p, s, most)
	if !ok {
		t.Fatalf("not rested: %d of %+v", most, s)
	}
	return q
}

// mustStep is for tasks that the test knows to be ready.
func mustStep(t *testing.T, p impl.Prog, s impl.Sys, task int) impl.Sys {
	t.Helper()
	q, ok := impl.SysStep(p, s, task)
	if !ok {
		t.Fatalf("%d takes no step: %+v", task, s)
	}
	return q
}

// begun is a program behind some turns, each of which must be a step.
func begun(t *testing.T, text string, turns ...int) (impl.Prog, impl.Sys) {
	t.Helper()
	p := mustRead(t, text)
	s := mustNew(t, p)
	for _, task := range turns {
		s = mustStep(t, p, s, task)
	}
	return p, s
}

// busyDeed loads and stores more than chance would, so that changes come between each other.
func busyDeed(r *rand.Rand, cells int) impl.Deed {
	switch k := r.IntN(20); {
	case k < 8 && cells > 0:
		return load(r.IntN(3), r.IntN(cells))
	case k < 15 && cells > 0:
		return store(r.IntN(cells), r.IntN(3))
	case k < 17:
		return num(r.IntN(3), []int{0, 1, 7, 99}[r.IntN(4)])
	case k < 19:
		return add(r.IntN(3), r.IntN(3))
	}
	return need(r.IntN(3))
}

func busyFork(r *rand.Rand, body, bodies int) impl.Act {
	a := impl.Act{Kind: impl.ActFork}
	for range []int{1, 2, 2, 2}[r.IntN(4)] {
		a.Kids = append(a.Kids, body+1+r.IntN(bodies-body-1))
	}
	return a
}

func busyAct(r *rand.Rand, body, bodies, cells int) impl.Act {
	switch k := r.IntN(20); {
	case k < 4 && body+1 < bodies:
		return busyFork(r, body, bodies)
	case k == 18:
		return impl.Act{Kind: impl.ActFail}
	case k == 19:
		return impl.Act{Kind: impl.ActFailIf, Reg: r.IntN(3)}
	}
	a := impl.Act{Kind: impl.ActTry}
	for range r.IntN(6) {
		a.Deeds = append(a.Deeds, busyDeed(r, cells))
	}
	return a
}

// busyProg is an ok program, of any form, but mostly its first act begins two tasks that change the same cells, and one of which may fail meanwhile.
func busyProg(r *rand.Rand) impl.Prog {
	for {
		p := impl.Prog{Cells: someNums(r, []int{0, 1, 2, 2, 3, 3, 3}[r.IntN(7)])}
		bodies := []int{1, 2, 3, 3, 3, 4, 4, 4}[r.IntN(8)]
		for body := range bodies {
			var acts []impl.Act
			if bodies > 1 && body == 0 && r.IntN(8) > 0 {
				acts = append(acts, busyFork(r, body, bodies))
			}
			for range r.IntN(5 - len(acts)) {
				acts = append(acts, busyAct(r, body, bodies, len(p.Cells)))
			}
			if len(acts) < 4 && body > 0 && r.IntN(4) == 0 {
				acts = append(acts, impl.Act{Kind: impl.ActFail})
			}
			p.Bodies = append(p.Bodies, acts)
		}
		if wantOk(p) {
			return p
		}
	}
}

// seenStep is a step that was taken.
type seenStep struct {
	p      impl.Prog
	before impl.Sys
	task   int
	after  impl.Sys
}

// seenSteps is the same steps each time: all of small programs, and some of others.
var seenSteps = sync.OnceValue(func() []seenStep {
	var list []seenStep
	for _, text := range smallTexts {
		p, _ := impl.ProgRead(text)
		list = append(list, allSteps(p)...)
	}
	return append(list, chanceSteps(50000)...)
})

// smallTexts is programs of which all orders of steps can be gone through: tasks that add, that read what the other one puts, that put together, that wait for a change, and that fail meanwhile.
var smallTexts = []string{
	"cells 5\nbody\nfork 1 1\nbody\ntry r=A s=1 r+s A=r\n",
	"cells 1 2\nbody\nfork 1 2\nbody\ntry r=A B=r\nbody\ntry r=B A=r\n",
	"cells 0 0\nbody\nfork 1 2\nbody\ntry r=4 A=r B=r\nbody\nfail\n",
	"cells 0\nbody\nfork 1 2\nbody\ntry r=A r?\nfail\nbody\ntry s=3 A=s\ntry s=0 A=s\n",
	"cells 7 0\nbody\nfork 1 2\ntry r=B\nbody\nfork 3 3\nbody\ntry r=A s=B\nfailif s\nbody\ntry r=A B=r\n",
	"cells 3 3 3\nbody\nfork 1 2\nbody\nfork 3 3\nbody\nfail\nbody\ntry s=5 A=s B=s C=s\n",
	"cells 1 2 3\nbody\nfork 1 2\nbody\ntry r=A s=B C=r A=s\nbody\ntry r=C s=A B=r C=s\nfail\n",
}

// allSteps is each step of each system that a program can come to, whatever the order of steps, up to some thousands.
func allSteps(p impl.Prog) []seenStep {
	s, _ := impl.SysNew(p)
	list := []seenStep{}
	systems := []impl.Sys{s}
	seen := map[string]int{shownSys(s): 0}
	for i := 0; i < len(systems) && len(systems) < 4000; i++ {
		for _, task := range impl.SysReady(p, systems[i]) {
			q, ok := impl.SysStep(p, systems[i], task)
			if !ok {
				continue
			}
			list = append(list, seenStep{p, systems[i], task, q})
			if _, there := seen[shownSys(q)]; !there {
				seen[shownSys(q)] = len(systems)
				systems = append(systems, q)
			}
		}
	}
	return list
}

// chanceSteps is steps of busy programs, whose tasks take turns by chance, some for a while.
func chanceSteps(n int) []seenStep {
	r := rand.New(rand.NewPCG(21, 22))
	var list []seenStep
	// Programs are only so many, so that it comes to an end also if nobody takes a step.
	for tries := 0; len(list) < n && tries < n; tries++ {
		p := busyProg(r)
		s, _ := impl.SysNew(p)
		task := 0
		for range 250 {
			ready := impl.SysReady(p, s)
			if len(ready) == 0 {
				break
			}
			if !slices.Contains(ready, task) || r.IntN(3) == 0 {
				task = ready[r.IntN(len(ready))]
			}
			q, ok := impl.SysStep(p, s, task)
			if !ok {
				break
			}
			list = append(list, seenStep{p, s, task, q})
			s = q
		}
	}
	return list
}

// seenSystems is some of the systems on the way.
func seenSystems(each int) []seenStep {
	var list []seenStep
	for i, x := range seenSteps() {
		if i%each == 0 {
			list = append(list, x)
		}
	}
	return list
}

// someTurns has turns of nobody among others.
func someTurns(r *rand.Rand, n, tasks int) []int {
	var list []int
	for range n {
		list = append(list, r.IntN(tasks+3)-1)
	}
	return list
}

// atTry says whether a task runs, and is at a change.
func atTry(p impl.Prog, t impl.Task) bool {
	acts := p.Bodies[t.Body]
	return t.Way == impl.TaskRuns && t.Pc < len(acts) && acts[t.Pc].Kind == impl.ActTry
}

func numOf(list []impl.Put, cell int) (int, bool) {
	n, ok := mapOf(list)[cell]
	return n, ok
}

// blindTo is the document's word, of a task and a cell.
func blindTo(s impl.Sys, task, cell int) bool {
	c := s.Cells[cell]
	return c.Lock != -1 && c.Lock != task || c.Time > s.Tasks[task].Since
}
