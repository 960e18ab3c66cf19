package tests

import (
	"fmt"
	"math/rand/v2"
	"regexp"
	"slices"
	"strconv"
	"strings"
	"sync"
	"testing"

	"loop.example/equerry/impl"
)

// The tests' own reading of chapter 31, as those of the chapters ahead. Texts are read by the form of their lines, and all that comes of them by the model of steps.

var textForm = regexp.MustCompile(`^cells( (0|[1-9][0-9]?))*\n(body\n(try( ([rst]=[ABC]|[ABC]=[rst]|[rst]=(0|[1-9][0-9]?)|[rst]\+[rst]|[rst]\?))*\n|fork( [0-9])+\n|fail\n|failif [rst]\n)*)+$`)

func wantRead(text string) (impl.Prog, bool) {
	var p impl.Prog
	if len(text) > 600 || !textForm.MatchString(text) {
		return p, false
	}
	for line := range strings.Lines(text) {
		words := strings.Fields(line)
		a := impl.Act{Kind: slices.Index([]string{"", "try", "fork", "fail", "failif"}, words[0])}
		switch words[0] {
		case "cells":
			p.Cells = wordNums(words[1:])
			continue
		case "body":
			p.Bodies = append(p.Bodies, nil)
			continue
		case "try":
			for _, word := range words[1:] {
				a.Deeds = append(a.Deeds, wordDeed(word))
			}
		case "fork":
			a.Kids = wordNums(words[1:])
		case "failif":
			a.Reg = int(words[1][0]) - 'r'
		}
		last := &p.Bodies[len(p.Bodies)-1]
		*last = append(*last, a)
	}
	return p, wantOk(p)
}

func wordNums(words []string) []int {
	var nums []int
	for _, word := range words {
		n, _ := strconv.Atoi(word)
		nums = append(nums, n)
	}
	return nums
}

func wordDeed(word string) impl.Deed {
	first, last := int(word[0]), int(word[len(word)-1])
	switch {
	case last == '?':
		return need(first - 'r')
	case word[1] == '+':
		return add(first-'r', last-'r')
	case first <= 'C':
		return store(first-'A', last-'r')
	case last <= '9':
		return num(first-'r', wordNums([]string{word[2:]})[0])
	}
	return load(first-'r', last-'A')
}

// placesIn is which tasks' turns are told.
func placesIn(turns string) []int {
	var list []int
	for i := range len(turns) {
		list = append(list, int(turns[i])-48)
	}
	return list
}

func wantLines(text, turns string) string {
	p, ok := wantRead(text)
	if !ok {
		return "no program\n"
	}
	s := treeOf(-1)
	s.Tasks[0].Way = impl.TaskRuns
	for _, n := range p.Cells {
		s.Cells = append(s.Cells, free(n, 0))
	}
	if s, ok = wantRun(p, s, placesIn(turns)); !ok {
		return "too many turns\n"
	}
	s, _, _ = wantRest(p, s, 1000)
	lines := wantLogText(s.Log) + "nums"
	for _, c := range s.Cells {
		lines += fmt.Sprintf(" %d", c.Num)
	}
	lines += "\ntasks"
	for _, x := range s.Tasks {
		lines += " " + strings.Fields("runs waits ended failed off")[x.Way]
	}
	return lines + "\n"
}

// asked is a text, and turns.
type asked struct{ text, turns string }

// judgedLines holds LinesRun against what is wanted, and gives that.
func judgedLines(t *testing.T, x asked) string {
	t.Helper()
	want := wantLines(x.text, x.turns)
	if got := impl.LinesRun(x.text, x.turns); got != want {
		t.Fatalf("%q, not %q: %q, %q", got, want, x.text, x.turns)
	}
	return want
}

// linesAre says so, if something else is told.
func linesAre(t *testing.T, want, text, turns string) {
	t.Helper()
	if got := impl.LinesRun(text, turns); got != want {
		t.Errorf("%q, not %q: %q, %q", got, want, text, turns)
	}
	judgedLines(t, asked{text, turns})
}

// lastOf is what a text that is a program's comes to, asked of the program, chapter by chapter.
func lastOf(t *testing.T, x asked) (impl.Prog, impl.Sys) {
	t.Helper()
	p := mustRead(t, x.text)
	return p, mustRest(t, p, mustRun(t, p, mustNew(t, p), placesIn(x.turns)...), 1000)
}

// oddTurn is a byte that is no task's turn.
func oddTurn(r *rand.Rand) byte {
	for {
		if b := byte(r.IntN(256)); b < '0' || b > '6' {
			return b
		}
	}
}

// textTurns is turns of tasks, that stay with one for a while, with some of nobody among them.
func textTurns(r *rand.Rand, n int) string {
	var turns []byte
	task := byte('0')
	for range n {
		switch r.IntN(8) {
		case 0, 1, 2:
			task = '0' + byte(r.IntN(impl.ProgTasks))
		case 3:
			turns = append(turns, oddTurn(r))
			continue
		}
		turns = append(turns, task)
	}
	return string(turns)
}

// bentText is a text with some of its bytes, or lines, changed, which may be a program's, or not, then.
func bentText(r *rand.Rand, text string) string {
	if text == "" {
		return string([]byte{byte(r.IntN(256))})
	}
	at := r.IntN(len(text))
	some := "0123456789 \n\n  ABCDrstu=+?bodyfailiforktrycells\x00\x80\xff"
	b := some[r.IntN(len(some))]
	lines := slices.Collect(strings.Lines(text))
	line := r.IntN(len(lines))
	switch r.IntN(7) {
	case 0:
		return text[:at] + string([]byte{b}) + text[at:]
	case 1:
		return text[:at] + string([]byte{b}) + text[at+1:]
	case 2:
		return text[:at] + text[at+1:]
	case 3:
		return text[:at]
	case 4:
		return strings.Join(slices.Delete(lines, line, line+1), "")
	case 5:
		return strings.Join(slices.Insert(lines, line, lines[r.IntN(len(lines))]), "")
	}
	lines[0], lines[line] = lines[line], lines[0]
	return strings.Join(lines, "")
}

// goodAsked is the same each time: programs of all kinds, with turns that are not too many.
var goodAsked = sync.OnceValue(func() []asked {
	r := rand.New(rand.NewPCG(151, 152))
	var list []asked
	texts := slices.Concat(plainTexts, smallTexts, lateTexts)
	for _, p := range anyProgs(600) {
		texts = append(texts, wantText(p))
	}
	for _, text := range texts {
		list = append(list, asked{text, ""}, asked{text, textTurns(r, r.IntN(60))})
		if r.IntN(8) == 0 {
			list = append(list, asked{text, textTurns(r, 250+r.IntN(51))})
		}
	}
	for _, text := range smallTexts {
		for range 200 {
			list = append(list, asked{text, textTurns(r, r.IntN(40))})
		}
	}
	return list
})

// someAsked is the same each time: good ones, such with too many turns, and such of which many are no programs.
var someAsked = sync.OnceValue(func() []asked {
	r := rand.New(rand.NewPCG(153, 154))
	list := slices.Clone(goodAsked())
	for _, x := range goodAsked() {
		list = append(list, asked{bentText(r, x.text), x.turns})
		if r.IntN(8) == 0 {
			list = append(list, asked{x.text, textTurns(r, 298+r.IntN(6))}, asked{bentText(r, x.text), textTurns(r, 298+r.IntN(6))})
		}
	}
	return list
})
