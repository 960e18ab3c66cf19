package tests

import (
	"math/rand/v2"
	"testing"

	"loop.example/equerry/impl"
)

// plainTexts are programs with each kind of deed and act, with and without anything in it.
var plainTexts = []string{
	"cells\nbody\n",
	"cells 0\nbody\n",
	"cells 5 10 99\nbody\n",
	"cells\nbody\ntry\n",
	"cells\nbody\nfail\n",
	"cells\nbody\nfailif r\nfailif s\nfailif t\n",
	"cells 1 2 3\nbody\ntry r=A s=B t=C\ntry A=r B=s C=t\n",
	"cells\nbody\ntry r=0 s=7 t=99 r=10\ntry r+r r+s s+t t+r\ntry r? s? t?\n",
	"cells 0 7\nbody\nfork 1 2\ntry r=A s=12 r+s B=r r?\nbody\nfailif t\nbody\nfail\n",
	"cells\nbody\nfork 1\nfork 2 3\nfork 3 3\nbody\nbody\nbody\n",
	"cells\nbody\nfork 1\nbody\nfork 2\nbody\nfork 3\nbody\n",
}

// Promise 1.
func TestProgramsAreReadBackFromTheirTexts(t *testing.T) {
	for _, p := range someProgs(3000) {
		text := impl.ProgText(p)
		if text == "" || text != wantText(p) {
			t.Fatalf("%q: %v", text, p)
		}
		q, ok := impl.ProgRead(text)
		if !ok || shown(q) != shown(p) {
			t.Fatalf("%q: %v, %v", text, q, p)
		}
	}
}

// Promise 1, each deed and act by itself, so that none stands in for another.
func TestTextsTellEachDeedAndAct(t *testing.T) {
	deeds := map[string]impl.Deed{
		"t=B":  {Kind: impl.DeedLoad, A: 2, B: 1},
		"B=t":  {Kind: impl.DeedStore, A: 1, B: 2},
		"s=2":  {Kind: impl.DeedNum, A: 1, B: 2},
		"s=99": {Kind: impl.DeedNum, A: 1, B: 99},
		"s+t":  {Kind: impl.DeedAdd, A: 1, B: 2},
		"t?":   {Kind: impl.DeedNeed, A: 2},
	}
	for word, d := range deeds {
		p := mustRead(t, "cells 0 0\nbody\ntry "+word+"\n")
		if a := p.Bodies[0][0]; a.Kind != impl.ActTry || len(a.Deeds) != 1 || a.Deeds[0] != d {
			t.Errorf("%s: %v", word, a)
		}
	}
	p := mustRead(t, "cells 3 4\nbody\nfork 2 1\nfail\nfailif s\ntry\nbody\nbody\n")
	want := impl.Prog{Cells: []int{3, 4}, Bodies: [][]impl.Act{{{Kind: 2, Kids: []int{2, 1}}, {Kind: 3}, {Kind: 4, Reg: 1}, {Kind: 1}}, {}, {}}}
	if shown(p) != shown(want) {
		t.Error(p)
	}
}

// Promise 2: whatever is read is read from just its own text.
func TestProgramsHaveJustOneText(t *testing.T) {
	for _, text := range plainTexts {
		if got := impl.ProgText(mustRead(t, text)); got != text {
			t.Errorf("%q: %q", text, got)
		}
		for _, near := range nearTexts(text) {
			p, ok := impl.ProgRead(near)
			if ok && (impl.ProgText(p) != near || wantText(p) != near || near == text) {
				t.Fatalf("%q is read as %v", near, p)
			}
			if !ok {
				refused(t, near)
			}
		}
	}
}

// nearTexts are all texts that one byte more, less or another one makes.
func nearTexts(text string) []string {
	var list []string
	for i := range len(text) + 1 {
		for b := range 256 {
			list = append(list, text[:i]+string([]byte{byte(b)})+text[i:])
			if i < len(text) && text[i] != byte(b) {
				list = append(list, text[:i]+string([]byte{byte(b)})+text[i+1:])
			}
		}
		if i < len(text) {
			list = append(list, text[:i]+text[i+1:])
		}
	}
	return list
}

// Promise 3.
func TestProgramsAreTheSameJustIfTheirTextsAre(t *testing.T) {
	r := rand.New(rand.NewPCG(3, 4))
	same, other := 0, 0
	for _, p := range someProgs(300) {
		for range 40 {
			q := bent(r, p)
			if !wantOk(q) {
				continue
			}
			if (shown(p) == shown(q)) != (impl.ProgText(p) == impl.ProgText(q)) {
				t.Fatalf("%v, %v", p, q)
			}
			if shown(p) == shown(q) {
				same++
			} else {
				other++
			}
		}
	}
	if same < 100 || other < 1000 {
		t.Fatalf("too few were looked at: %d, %d", same, other)
	}
}

// Promise 3: of a list that is empty, and one that is nil, nothing is told apart.
func TestEmptyListsAreNilLists(t *testing.T) {
	empty := impl.Prog{Cells: []int{}, Bodies: [][]impl.Act{{{Kind: impl.ActTry, Deeds: []impl.Deed{}, Kids: []int{}}, {Kind: impl.ActFail, Deeds: []impl.Deed{}, Kids: []int{}}, {Kind: impl.ActFork, Deeds: []impl.Deed{}, Kids: []int{1}}}, {}}}
	none := impl.Prog{Bodies: [][]impl.Act{{{Kind: impl.ActTry}, {Kind: impl.ActFail}, {Kind: impl.ActFork, Kids: []int{1}}}, nil}}
	judged(t, empty, true)
	judged(t, none, true)
	if impl.ProgText(empty) != impl.ProgText(none) {
		t.Errorf("%q, %q", impl.ProgText(empty), impl.ProgText(none))
	}
}

// Promise 4.
func TestTreeIsOneAndThatOfAllKids(t *testing.T) {
	for _, p := range someProgs(3000) {
		for body, acts := range p.Bodies {
			tasks := 1
			for _, a := range acts {
				for _, kid := range a.Kids {
					tasks += impl.ProgTree(p, kid)
				}
			}
			if n := impl.ProgTree(p, body); n != tasks {
				t.Fatalf("body %d: %d, not %d: %v", body, n, tasks, p)
			}
		}
		if n := impl.ProgTree(p, 0); n < 1 || n > impl.ProgTasks {
			t.Fatalf("%d: %v", n, p)
		}
	}
}

// Promise 5.
func TestABodyMoreNeedsRoom(t *testing.T) {
	for _, p := range someProgs(1000) {
		q := copied(p)
		q.Bodies = append(q.Bodies, nil)
		judged(t, q, len(p.Bodies) < impl.ProgBodies)
		q.Bodies = nil
		judged(t, q, false)
	}
}

// Promise 6.
func TestKidsStandBehindWithALesserTree(t *testing.T) {
	kids := 0
	for _, p := range someProgs(3000) {
		for body, acts := range p.Bodies {
			for _, a := range acts {
				for _, kid := range a.Kids {
					kids++
					if kid <= body || impl.ProgTree(p, kid) >= impl.ProgTree(p, body) {
						t.Fatalf("%d of %d: %v", kid, body, p)
					}
				}
			}
		}
	}
	if kids < 1000 {
		t.Fatalf("too few were looked at: %d", kids)
	}
}

// Promise 6: a body that begins itself, or one ahead, is refused, also where nobody begins it.
func TestKidsThatAreNotBehindAreRefused(t *testing.T) {
	for body := range impl.ProgBodies {
		for kid := -2; kid < impl.ProgBodies+2; kid++ {
			p := impl.Prog{Bodies: make([][]impl.Act, impl.ProgBodies)}
			p.Bodies[body] = []impl.Act{{Kind: impl.ActFork, Kids: []int{kid}}}
			judged(t, p, kid > body && kid < impl.ProgBodies)
			last := impl.ProgBodies - 1
			p.Bodies[body] = []impl.Act{{Kind: impl.ActFork, Kids: []int{last, kid}}}
			judged(t, p, last > body && kid > body && kid < impl.ProgBodies)
		}
	}
}

// Promises 1 to 6: a program with one thing changed is judged as the document words it.
func TestBentProgramsAreJudged(t *testing.T) {
	r := rand.New(rand.NewPCG(5, 6))
	good, bad := 0, 0
	for _, p := range someProgs(600) {
		judged(t, p, true)
		for range 30 {
			q := bent(r, p)
			judged(t, q, wantOk(q))
			if wantOk(q) {
				good++
			} else {
				bad++
			}
		}
	}
	if good < 1000 || bad < 1000 {
		t.Fatalf("too few were looked at: %d, %d", good, bad)
	}
}
