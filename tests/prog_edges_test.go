package tests

import (
	"math"
	"math/rand/v2"
	"strings"
	"testing"

	"loop.example/equerry/impl"
)

func oneBody(cells []int, acts ...impl.Act) impl.Prog {
	return impl.Prog{Cells: cells, Bodies: [][]impl.Act{acts}}
}

func repeated[T any](x T, n int) []T {
	var list []T
	for range n {
		list = append(list, x)
	}
	return list
}

func TestLimitsAreMetExactly(t *testing.T) {
	fail := impl.Act{Kind: impl.ActFail}
	num := impl.Deed{Kind: impl.DeedNum, A: 2, B: 99}
	for n := range 9 {
		judged(t, oneBody(repeated(99, n)), n <= 3)
		judged(t, impl.Prog{Bodies: repeated([]impl.Act{fail}, n)}, 1 <= n && n <= 4)
		judged(t, oneBody(nil, repeated(fail, n)...), n <= 4)
		judged(t, oneBody(nil, impl.Act{Kind: impl.ActTry, Deeds: repeated(num, n)}), n <= 5)
		fork := impl.Act{Kind: impl.ActFork, Kids: repeated(1, n)}
		judged(t, impl.Prog{Bodies: [][]impl.Act{{fork}, nil}}, 1 <= n && n <= 2)
	}
	// A body beyond the first is bound by the same limits.
	judged(t, impl.Prog{Bodies: [][]impl.Act{nil, repeated(fail, 4)}}, true)
	judged(t, impl.Prog{Bodies: [][]impl.Act{nil, repeated(fail, 5)}}, false)
}

func TestNumbersAreFromZeroBelowTheLimit(t *testing.T) {
	for _, n := range []int{math.MinInt, -100, -1, 0, 1, 98, 99, 100, 101, math.MaxInt} {
		ok := 0 <= n && n <= 99
		judged(t, oneBody([]int{n}), ok)
		judged(t, oneBody([]int{0, 0, n}), ok)
		judged(t, oneBody(nil, impl.Act{Kind: impl.ActTry, Deeds: []impl.Deed{{Kind: impl.DeedNum, B: n}}}), ok)
	}
}

func TestDeedsInForm(t *testing.T) {
	places := []int{math.MinInt, -1, 0, 1, 2, 3, 4, 99, 100, math.MaxInt}
	for cells := range impl.ProgCells + 1 {
		for kind := -1; kind < 8; kind++ {
			for _, a := range places {
				for _, b := range places {
					d := impl.Deed{Kind: kind, A: a, B: b}
					p := oneBody(make([]int, cells), impl.Act{Kind: impl.ActTry, Deeds: []impl.Deed{d}})
					judged(t, p, wantDeedOk(d, cells))
				}
			}
		}
	}
}

// One that is out of form is found wherever it stands.
func TestEachDeedActAndBodyIsLookedAt(t *testing.T) {
	for at := range impl.ProgDeeds {
		deeds := repeated(impl.Deed{Kind: impl.DeedAdd}, impl.ProgDeeds)
		deeds[at].B = 3
		judged(t, oneBody(nil, impl.Act{Kind: impl.ActTry, Deeds: deeds}), false)
	}
	for body := range impl.ProgBodies {
		for at := range impl.ProgActs {
			p := impl.Prog{Bodies: make([][]impl.Act, impl.ProgBodies)}
			p.Bodies[body] = repeated(impl.Act{Kind: impl.ActFail}, impl.ProgActs)
			judged(t, p, true)
			p.Bodies[body][at].Kind = 5
			judged(t, p, false)
		}
	}
}

func TestRegistersOfFailIf(t *testing.T) {
	for _, reg := range []int{math.MinInt, -1, 0, 1, 2, 3, math.MaxInt} {
		judged(t, oneBody(nil, impl.Act{Kind: impl.ActFailIf, Reg: reg}), 0 <= reg && reg <= 2)
	}
}

func TestActsTellOnlyWhatIsTheirOwn(t *testing.T) {
	deeds := []impl.Deed{{Kind: impl.DeedNum}}
	for kind := -1; kind < 7; kind++ {
		for what := range 8 {
			a := impl.Act{Kind: kind}
			if what&1 != 0 {
				a.Deeds = deeds
			}
			if what&2 != 0 {
				a.Kids = []int{1}
			}
			if what&4 != 0 {
				a.Reg = 1
			}
			ok := kind == impl.ActTry && (what == 0 || what == 1) ||
				kind == impl.ActFork && what == 2 ||
				kind == impl.ActFail && what == 0 ||
				kind == impl.ActFailIf && (what == 0 || what == 4)
			judged(t, impl.Prog{Bodies: [][]impl.Act{{a}, nil}}, ok)
		}
	}
	for _, kind := range []int{impl.ActTry, impl.ActFork, impl.ActFail} {
		for _, reg := range []int{math.MinInt, -1, 2, math.MaxInt} {
			judged(t, impl.Prog{Bodies: [][]impl.Act{{{Kind: kind, Reg: reg}}, nil}}, false)
		}
	}
}

func TestTasksInAll(t *testing.T) {
	fork := func(kids ...int) impl.Act { return impl.Act{Kind: impl.ActFork, Kids: kids} }
	// Seven by one body, seven by bodies within bodies; then one more of each.
	judged(t, impl.Prog{Bodies: [][]impl.Act{{fork(1, 1), fork(1, 1), fork(1, 1)}, nil}}, true)
	judged(t, impl.Prog{Bodies: [][]impl.Act{{fork(1, 1), fork(1, 1), fork(1, 1), fork(1)}, nil}}, false)
	judged(t, impl.Prog{Bodies: [][]impl.Act{{fork(1, 1)}, {fork(2, 2)}, nil}}, true)
	judged(t, impl.Prog{Bodies: [][]impl.Act{{fork(1, 1), fork(2)}, {fork(2, 2)}, nil}}, false)
	judged(t, impl.Prog{Bodies: [][]impl.Act{{fork(1, 1)}, {fork(2), fork(3)}, nil, nil}}, true)
	judged(t, impl.Prog{Bodies: [][]impl.Act{{fork(1, 1)}, {fork(2), fork(3)}, {fork(3)}, nil}}, false)
	most := repeated(fork(3, 3), 4)
	judged(t, impl.Prog{Bodies: [][]impl.Act{repeated(fork(1, 1), 4), repeated(fork(2, 2), 4), most, nil}}, false)
	// The limit is the first body's alone: what nobody begins may be more.
	apart := impl.Prog{Bodies: [][]impl.Act{nil, nil, most, nil}}
	judged(t, apart, true)
	if n := impl.ProgTree(apart, 2); n != 9 {
		t.Error(n)
	}
}

func TestNoProgramIsNotOk(t *testing.T) {
	judged(t, impl.Prog{}, false)
	judged(t, impl.Prog{Cells: []int{1}, Bodies: [][]impl.Act{}}, false)
}

// wrongTexts are no programs', each by little.
var wrongTexts = []string{
	"", "\n", " ", "cells", "cells\n", "body", "body\n", "cells\nbody", "cells body\n", "\ncells\nbody\n", "cells\n\nbody\n", "cells\nbody\n\n",
	" cells\nbody\n", "cells \nbody\n", "cells  1\nbody\n", "cells 1 \nbody\n", "cells\tbody\n", "cells\r\nbody\r\n", "cells\nbody \n", "cells\n body\n",
	"cells 01\nbody\n", "cells 00\nbody\n", "cells -0\nbody\n", "cells +1\nbody\n", "cells -1\nbody\n", "cells 1_0\nbody\n", "cells 0x1\nbody\n", "cells 1.\nbody\n", "cells 1e1\nbody\n", "cells \u0661\nbody\n",
	"cells 100\nbody\n", "cells 1 2 3 4\nbody\n", "cells 18446744073709551616\nbody\n", "cells 9223372036854775808\nbody\n", "cells A\nbody\n",
	"body\ncells\n", "cells\nbody\ncells\n", "cells\ncells\nbody\n", "cells 1\ncells 1\nbody\n", "fail\ncells\nbody\n", "cells\nfail\nbody\n", "cells\nbody 1\n", "Cells\nbody\n", "cells\nBody\n", "cell\nbody\n", "cells\nbodies\n",
	"cells\nbody\nbody\nbody\nbody\nbody\n", "cells\nbody\nfail\nfail\nfail\nfail\nfail\n",
	"cells\nbody\nfail \n", "cells\nbody\n fail\n", "cells\nbody\nfail r\n", "cells\nbody\nfail 1\n", "cells\nbody\nFAIL\n", "cells\nbody\nfail\x00\n", "cells\nbody\nwhat\n",
	"cells\nbody\nfailif\n", "cells\nbody\nfailif \n", "cells\nbody\nfailif u\n", "cells\nbody\nfailif A\n", "cells\nbody\nfailif 0\n", "cells\nbody\nfailif r s\n", "cells\nbody\nfailif rs\n", "cells\nbody\nfailif  r\n",
	"cells\nbody\nfork\nbody\n", "cells\nbody\nfork \nbody\n", "cells\nbody\nfork 0\nbody\n", "cells\nbody\nfork 2\nbody\n", "cells\nbody\nfork 01\nbody\n", "cells\nbody\nfork -1\nbody\n", "cells\nbody\nfork 1 1 1\nbody\n", "cells\nbody\nfork 1,1\nbody\n", "cells\nbody\nfork r\nbody\n",
	"cells\nbody\ntry \n", "cells\nbody\ntry r=0  s=0\n", "cells\nbody\ntry r=0 \n", "cells\nbody\ntry u=1\n", "cells\nbody\ntry r=100\n", "cells\nbody\ntry r=07\n", "cells\nbody\ntry r=-1\n", "cells\nbody\ntry r=+1\n", "cells\nbody\ntry r= 1\n", "cells\nbody\ntry r=\n", "cells\nbody\ntry =1\n", "cells\nbody\ntry =\n", "cells\nbody\ntry r\n", "cells\nbody\ntry r==1\n", "cells\nbody\ntry r=s\n", "cells\nbody\ntry r=1 r=1 r=1 r=1 r=1 r=1\n",
	"cells\nbody\ntry r=A\n", "cells\nbody\ntry A=r\n", "cells 1\nbody\ntry r=B\n", "cells 1\nbody\ntry B=r\n", "cells 1 1 1\nbody\ntry r=D\n", "cells 1 1 1\nbody\ntry D=r\n", "cells 1\nbody\ntry A=A\n", "cells 1\nbody\ntry A=1\n", "cells 1\nbody\ntry a=r\n",
	"cells\nbody\ntry r+\n", "cells\nbody\ntry +r\n", "cells\nbody\ntry +\n", "cells\nbody\ntry r+u\n", "cells\nbody\ntry r+1\n", "cells 1\nbody\ntry r+A\n", "cells\nbody\ntry r+s+t\n", "cells\nbody\ntry r+s?\n",
	"cells\nbody\ntry ?\n", "cells\nbody\ntry r??\n", "cells\nbody\ntry u?\n", "cells\nbody\ntry r?0\n", "cells 1\nbody\ntry A?\n", "cells\nbody\ntry r ?\n", "cells\nbody\ntry rs?\n",
	"cells\nbody\nfork 1 1\nfork 1 1\nbody\nfork 2\nbody\n", "cells\nbody\nfork 1 1\nfork 1 1\nfork 1 1\nfork 1\nbody\n",
}

func TestWrongTextsAreRefused(t *testing.T) {
	for _, text := range wrongTexts {
		refused(t, text)
	}
}

// No program's text is so long: the longest is read, and all that is laid behind it is refused.
func TestLongTexts(t *testing.T) {
	line := "try t=99 t=99 t=99 t=99 t=99\n"
	longest := "cells 99 99 99\n" + strings.Repeat("body\n"+strings.Repeat(line, 4), 4)
	if p := mustRead(t, longest); impl.ProgText(p) != longest || len(longest) != 499 {
		t.Error(len(longest), p)
	}
	for _, fill := range []string{" ", "\n", "0", "fail\n", "body\n", "\x00", "\xff"} {
		for _, start := range append([]string{"", longest}, plainTexts...) {
			for _, size := range []int{599, 600, 601, 5000} {
				refused(t, (start + strings.Repeat(fill, size))[:size])
			}
		}
	}
	refused(t, strings.Repeat(longest, 3000))
	refused(t, strings.Repeat("\n", 1<<20))
}

func TestAnyBytes(t *testing.T) {
	for a := range 256 {
		refused(t, string([]byte{byte(a)}))
		for b := range 256 {
			refused(t, string([]byte{byte(a), byte(b)}))
		}
	}
	r := rand.New(rand.NewPCG(7, 8))
	words := []string{"cells", "body", "try", "fork", "fail", "failif", " ", " ", "\n", "\n", "r", "s", "A", "C", "=", "+", "?", "0", "1", "99", "-", "\x00", "\xff", "\u00e9"}
	read := 0
	for range 60000 {
		text := ""
		if r.IntN(2) == 0 {
			text = "cells\nbody\n"
		}
		for range r.IntN(12) {
			text += words[r.IntN(len(words))]
		}
		p, ok := impl.ProgRead(text)
		if ok != (wantText(p) == text && text != "") {
			t.Fatalf("%q: %v, %v", text, p, ok)
		}
		if ok {
			read++
		} else {
			refused(t, text)
		}
	}
	if read < 100 {
		t.Fatalf("too few were programs: %d", read)
	}
}

// Places that are none have -1, of an ok program as of any other.
func TestTreeOfNoBody(t *testing.T) {
	for _, text := range plainTexts {
		p := mustRead(t, text)
		for _, body := range []int{math.MinInt, -2, -1, len(p.Bodies), len(p.Bodies) + 1, math.MaxInt} {
			if n := impl.ProgTree(p, body); n != -1 {
				t.Errorf("%d: %d: %q", body, n, text)
			}
		}
	}
}
