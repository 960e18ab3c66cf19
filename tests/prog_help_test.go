package tests

import (
	"fmt"
	"math"
	"math/rand/v2"
	"strings"
	"testing"

	"loop.example/equerry/impl"
)

// The tests' own reading of the document: it shares nothing with the program but types and limits, so that a slip of one shows against the other.

func inRange(n, from, to int) bool { return from <= n && n <= to }

func wantDeedOk(d impl.Deed, cells int) bool {
	reg := func(n int) bool { return n == 0 || n == 1 || n == 2 }
	cell := func(n int) bool { return inRange(n, 0, cells-1) }
	return d.Kind == 1 && reg(d.A) && cell(d.B) ||
		d.Kind == 2 && cell(d.A) && reg(d.B) ||
		d.Kind == 3 && reg(d.A) && inRange(d.B, 0, 99) ||
		d.Kind == 4 && reg(d.A) && reg(d.B) ||
		d.Kind == 5 && reg(d.A) && d.B == 0
}

func wantActOk(a impl.Act, body, bodies, cells int) bool {
	ok := inRange(a.Kind, 1, 4) && len(a.Deeds) <= 5
	ok = ok && (len(a.Deeds) == 0 || a.Kind == 1)
	ok = ok && (len(a.Kids) == 0) == (a.Kind != 2) && len(a.Kids) <= 2
	ok = ok && (a.Reg == 0 || a.Kind == 4 && inRange(a.Reg, 1, 2))
	for _, d := range a.Deeds {
		ok = ok && wantDeedOk(d, cells)
	}
	for _, k := range a.Kids {
		ok = ok && inRange(k, body+1, bodies-1)
	}
	return ok
}

// wantTrees counts from the last body on, so that all Kids are known ahead.
func wantTrees(p impl.Prog) []int {
	trees := make([]int, len(p.Bodies))
	for i := len(p.Bodies) - 1; i >= 0; i-- {
		trees[i] = 1
		for _, a := range p.Bodies[i] {
			for _, k := range a.Kids {
				trees[i] += trees[k]
			}
		}
	}
	return trees
}

func wantOk(p impl.Prog) bool {
	if len(p.Cells) > 3 || !inRange(len(p.Bodies), 1, 4) {
		return false
	}
	for _, n := range p.Cells {
		if !inRange(n, 0, 99) {
			return false
		}
	}
	for i, acts := range p.Bodies {
		for _, a := range acts {
			if len(acts) > 4 || !wantActOk(a, i, len(p.Bodies), len(p.Cells)) {
				return false
			}
		}
	}
	return wantTrees(p)[0] <= 7
}

func wantDeedText(d impl.Deed) string {
	switch d.Kind {
	case 1:
		return fmt.Sprintf("%c=%c", 'r'+d.A, 'A'+d.B)
	case 2:
		return fmt.Sprintf("%c=%c", 'A'+d.A, 'r'+d.B)
	case 3:
		return fmt.Sprintf("%c=%d", 'r'+d.A, d.B)
	case 4:
		return fmt.Sprintf("%c+%c", 'r'+d.A, 'r'+d.B)
	}
	return fmt.Sprintf("%c?", 'r'+d.A)
}

func wantText(p impl.Prog) string {
	if !wantOk(p) {
		return ""
	}
	line := []string{"cells"}
	for _, n := range p.Cells {
		line = append(line, fmt.Sprint(n))
	}
	lines := []string{strings.Join(line, " ")}
	for _, acts := range p.Bodies {
		lines = append(lines, "body")
		for _, a := range acts {
			line := []string{[]string{"", "try", "fork", "fail", "failif"}[a.Kind]}
			for _, d := range a.Deeds {
				line = append(line, wantDeedText(d))
			}
			for _, k := range a.Kids {
				line = append(line, fmt.Sprint(k))
			}
			if a.Kind == 4 {
				line = append(line, string(rune('r'+a.Reg)))
			}
			lines = append(lines, strings.Join(line, " "))
		}
	}
	return strings.Join(lines, "\n") + "\n"
}

// shown tells programs apart by value alone: nil and empty lists look the same.
func shown(p impl.Prog) string { return fmt.Sprintf("%#v", copied(p)) }

// copied is the same program in memory of its own.
func copied(p impl.Prog) impl.Prog {
	q := impl.Prog{Cells: append([]int{}, p.Cells...), Bodies: [][]impl.Act{}}
	for _, acts := range p.Bodies {
		body := []impl.Act{}
		for _, a := range acts {
			body = append(body, impl.Act{Kind: a.Kind, Deeds: append([]impl.Deed{}, a.Deeds...), Kids: append([]int{}, a.Kids...), Reg: a.Reg})
		}
		q.Bodies = append(q.Bodies, body)
	}
	return q
}

func someDeed(r *rand.Rand, cells int) impl.Deed {
	for {
		d := impl.Deed{Kind: 1 + r.IntN(5), A: r.IntN(3), B: r.IntN(3)}
		if d.Kind == impl.DeedNum {
			d.B = r.IntN(impl.ProgNums)
		}
		if wantDeedOk(d, cells) {
			return d
		}
	}
}

func someAct(r *rand.Rand, body, bodies, cells int) impl.Act {
	a := impl.Act{Kind: 1 + r.IntN(4)}
	switch a.Kind {
	case impl.ActTry:
		for range r.IntN(impl.ProgDeeds + 1) {
			a.Deeds = append(a.Deeds, someDeed(r, cells))
		}
	case impl.ActFork:
		if body+1 == bodies {
			return impl.Act{Kind: impl.ActFail}
		}
		for range 1 + r.IntN(impl.ProgKids) {
			a.Kids = append(a.Kids, body+1+r.IntN(bodies-body-1))
		}
	case impl.ActFailIf:
		a.Reg = r.IntN(impl.ProgRegs)
	}
	return a
}

// someForm is a program in form, but for how many tasks it may be.
func someForm(r *rand.Rand) impl.Prog {
	var p impl.Prog
	for range r.IntN(impl.ProgCells + 1) {
		p.Cells = append(p.Cells, r.IntN(impl.ProgNums))
	}
	bodies := 1 + r.IntN(impl.ProgBodies)
	for body := range bodies {
		var acts []impl.Act
		for range r.IntN(impl.ProgActs + 1) {
			acts = append(acts, someAct(r, body, bodies, len(p.Cells)))
		}
		p.Bodies = append(p.Bodies, acts)
	}
	return p
}

func someProg(r *rand.Rand) impl.Prog {
	for {
		if p := someForm(r); wantOk(p) {
			return p
		}
	}
}

// someProgs is the same programs each time: what fails once fails again.
func someProgs(n int) []impl.Prog {
	r := rand.New(rand.NewPCG(1, 2))
	var list []impl.Prog
	for range n {
		list = append(list, someProg(r))
	}
	return list
}

// bent is a program with one thing in it changed, which may be ok, or not, then.
func bent(r *rand.Rand, p impl.Prog) impl.Prog {
	q := copied(p)
	nums := []int{math.MinInt, -1, 0, 1, 2, 3, 4, 5, 6, 99, 100, math.MaxInt}
	n := nums[r.IntN(len(nums))]
	body := r.IntN(len(q.Bodies))
	acts := q.Bodies[body]
	if len(acts) == 0 || r.IntN(8) == 0 {
		return bentOutside(r, q, body, n)
	}
	a := &acts[r.IntN(len(acts))]
	switch r.IntN(7) {
	case 0:
		a.Kind = n
	case 1:
		a.Reg = n
	case 2:
		a.Kids = append(a.Kids, n)
	case 3:
		a.Deeds = append(a.Deeds, someDeed(r, len(q.Cells)))
	case 4:
		if len(a.Kids) > 0 {
			a.Kids[r.IntN(len(a.Kids))] = n
		}
	default:
		if len(a.Deeds) > 0 {
			d := &a.Deeds[r.IntN(len(a.Deeds))]
			*[]*int{&d.Kind, &d.A, &d.B}[r.IntN(3)] = n
		}
	}
	return q
}

func bentOutside(r *rand.Rand, q impl.Prog, body, n int) impl.Prog {
	switch r.IntN(5) {
	case 0:
		q.Cells = append(q.Cells, n)
	case 1:
		q.Cells = q.Cells[:len(q.Cells)/2]
	case 2:
		q.Bodies = append(q.Bodies, nil)
	case 3:
		q.Bodies = q.Bodies[:body]
	default:
		q.Bodies[body] = append(q.Bodies[body], someAct(r, body, len(q.Bodies), len(q.Cells)))
	}
	return q
}

// mustRead is for texts that the test knows to be a program's.
func mustRead(t *testing.T, text string) impl.Prog {
	t.Helper()
	p, ok := impl.ProgRead(text)
	if !ok {
		t.Fatalf("not read: %q", text)
	}
	return p
}

// refused says so, if anything at all is made of a text.
func refused(t *testing.T, text string) {
	t.Helper()
	p, ok := impl.ProgRead(text)
	if ok || len(p.Cells) != 0 || len(p.Bodies) != 0 {
		t.Errorf("read: %q: %v", text, p)
	}
}

// judged holds all functions of chapter 1 against what is wanted of one program.
func judged(t *testing.T, p impl.Prog, ok bool) {
	t.Helper()
	if wantOk(p) != ok {
		t.Fatalf("the test itself is wrong: %v", p)
	}
	if impl.ProgOk(p) != ok {
		t.Errorf("ProgOk is not %v: %v", ok, p)
	}
	if text := impl.ProgText(p); text != wantText(p) {
		t.Errorf("ProgText: %q, not %q: %v", text, wantText(p), p)
	}
	for _, none := range []int{-1, len(p.Bodies), math.MinInt, math.MaxInt} {
		if n := impl.ProgTree(p, none); n != -1 {
			t.Errorf("ProgTree of no body %d: %d: %v", none, n, p)
		}
	}
	for body := range p.Bodies {
		want := -1
		if ok {
			want = wantTrees(p)[body]
		}
		if n := impl.ProgTree(p, body); n != want {
			t.Errorf("ProgTree of %d: %d, not %d: %v", body, n, want, p)
		}
	}
}
