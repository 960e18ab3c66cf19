// Package impl: tasks within tasks, and changes all at once.
package impl

import (
	"strconv"
	"strings"
)

// Kinds of what is done in a change.
const (
	DeedLoad  = 1
	DeedStore = 2
	DeedNum   = 3
	DeedAdd   = 4
	DeedNeed  = 5
)

// Kinds of acts.
const (
	ActTry    = 1
	ActFork   = 2
	ActFail   = 3
	ActFailIf = 4
)

// Limits of programs.
const (
	ProgCells  = 3
	ProgBodies = 4
	ProgActs   = 4
	ProgDeeds  = 5
	ProgKids   = 2
	ProgRegs   = 3
	ProgTasks  = 7
	ProgNums   = 100
)

// Deed is something that is done in a change: a register gets what a cell has; a cell gets what a register has; a register gets a number, or what another one has added; or there must be something in one.
type Deed struct {
	Kind int
	A    int
	B    int
}

// Act is a change; other bodies are begun as tasks; or the task fails, or does so, if there is something in a register.
type Act struct {
	Kind  int
	Deeds []Deed
	Kids  []int
	Reg   int
}

// Prog is what cells have at first, and bodies, each its acts; the first one is begun first.
type Prog struct {
	Cells  []int
	Bodies [][]Act
}

// progTextMost is how many bytes of a text are looked at: more are no program's.
const progTextMost = 600

// How cells and registers are written, by their places.
const (
	progCellNames = "ABC"
	progRegNames  = "rst"
)

// progPart is a deed or an act as a type of its own, which has room only for what belongs to it.
type progPart interface {
	// written is asked only of what is in form: names are there for that alone.
	written() string
}

type deedLoad struct{ reg, cell int }

type deedStore struct{ cell, reg int }

type deedNum struct{ reg, num int }

type deedAdd struct{ reg, other int }

type deedNeed struct{ reg int }

type actTry struct{ deeds []Deed }

type actFork struct{ kids []int }

type actFail struct{}

type actFailIf struct{ reg int }

// progNone stands for what is no deed and no act, so that a part is always there to be asked.
type progNone struct{}

func (d deedLoad) written() string { return regName(d.reg) + "=" + cellName(d.cell) }

func (d deedStore) written() string { return cellName(d.cell) + "=" + regName(d.reg) }

func (d deedNum) written() string { return regName(d.reg) + "=" + strconv.Itoa(d.num) }

func (d deedAdd) written() string { return regName(d.reg) + "+" + regName(d.other) }

func (d deedNeed) written() string { return regName(d.reg) + "?" }

func (a actTry) written() string {
	text := "try"
	for _, d := range a.deeds {
		text += " " + deedPart(d).written()
	}
	return text
}

func (a actFork) written() string { return "fork" + numsWritten(a.kids) }

func (a actFail) written() string { return "fail" }

func (a actFailIf) written() string { return "failif " + regName(a.reg) }

func (n progNone) written() string { return "" }

func cellName(cell int) string { return progCellNames[cell : cell+1] }

func regName(reg int) string { return progRegNames[reg : reg+1] }

// numsWritten has a blank ahead of each number, as it follows a word.
func numsWritten(nums []int) string {
	text := ""
	for _, n := range nums {
		text += " " + strconv.Itoa(n)
	}
	return text
}

// deedPart is a deed as what it is; a DeedNeed that tells a B is none.
func deedPart(d Deed) progPart {
	switch d.Kind {
	case DeedLoad:
		return deedLoad{reg: d.A, cell: d.B}
	case DeedStore:
		return deedStore{cell: d.A, reg: d.B}
	case DeedNum:
		return deedNum{reg: d.A, num: d.B}
	case DeedAdd:
		return deedAdd{reg: d.A, other: d.B}
	case DeedNeed:
		if d.B == 0 {
			return deedNeed{reg: d.A}
		}
	}
	return progNone{}
}

// actPart is an act as what it is; one that tells what belongs to another is none.
func actPart(a Act) progPart {
	noDeeds, noKids, noReg := len(a.Deeds) == 0, len(a.Kids) == 0, a.Reg == 0
	switch {
	case a.Kind == ActTry && noKids && noReg:
		return actTry{deeds: a.Deeds}
	case a.Kind == ActFork && noDeeds && noReg:
		return actFork{kids: a.Kids}
	case a.Kind == ActFail && noDeeds && noKids && noReg:
		return actFail{}
	case a.Kind == ActFailIf && noDeeds && noKids:
		return actFailIf{reg: a.Reg}
	}
	return progNone{}
}

// isPlace says whether n is one of the places, or numbers, from 0 on that lie below end.
func isPlace(n int, end int) bool {
	return 0 <= n && n < end
}

// deedInForm says whether a deed may stand in a change, if there are so many cells.
func deedInForm(d Deed, cells int) bool {
	switch x := deedPart(d).(type) {
	case deedLoad:
		return isPlace(x.reg, ProgRegs) && isPlace(x.cell, cells)
	case deedStore:
		return isPlace(x.cell, cells) && isPlace(x.reg, ProgRegs)
	case deedNum:
		return isPlace(x.reg, ProgRegs) && isPlace(x.num, ProgNums)
	case deedAdd:
		return isPlace(x.reg, ProgRegs) && isPlace(x.other, ProgRegs)
	case deedNeed:
		return isPlace(x.reg, ProgRegs)
	}
	return false
}

func deedsInForm(deeds []Deed, cells int) bool {
	if len(deeds) > ProgDeeds {
		return false
	}
	for _, d := range deeds {
		if !deedInForm(d, cells) {
			return false
		}
	}
	return true
}

// kidsInForm asks for Kids behind their body, as a body that came back to itself would begin tasks without end.
func kidsInForm(kids []int, body int, bodies int) bool {
	if len(kids) < 1 || len(kids) > ProgKids {
		return false
	}
	for _, kid := range kids {
		if kid <= body || kid >= bodies {
			return false
		}
	}
	return true
}

// actInForm says whether an act may stand in that body of a program.
func actInForm(a Act, p Prog, body int) bool {
	switch x := actPart(a).(type) {
	case actTry:
		return deedsInForm(x.deeds, len(p.Cells))
	case actFork:
		return kidsInForm(x.kids, body, len(p.Bodies))
	case actFail:
		return true
	case actFailIf:
		return isPlace(x.reg, ProgRegs)
	}
	return false
}

func bodyInForm(p Prog, body int) bool {
	if len(p.Bodies[body]) > ProgActs {
		return false
	}
	for _, a := range p.Bodies[body] {
		if !actInForm(a, p, body) {
			return false
		}
	}
	return true
}

func cellsInForm(cells []int) bool {
	return len(cells) <= ProgCells && numsInForm(cells)
}

func numsInForm(nums []int) bool {
	for _, n := range nums {
		if !isPlace(n, ProgNums) {
			return false
		}
	}
	return true
}

func actKids(a Act) []int {
	switch x := actPart(a).(type) {
	case actFork:
		return x.kids
	}
	return nil
}

// bodyTree counts tasks; it comes to an end only where Kids are known to be behind.
func bodyTree(p Prog, body int) int {
	tasks := 1
	for _, a := range p.Bodies[body] {
		for _, kid := range actKids(a) {
			tasks += bodyTree(p, kid)
		}
	}
	return tasks
}

// ProgOk says whether a program is ok.
func ProgOk(p Prog) bool {
	if !cellsInForm(p.Cells) || len(p.Bodies) < 1 || len(p.Bodies) > ProgBodies {
		return false
	}
	for body := range p.Bodies {
		if !bodyInForm(p, body) {
			return false
		}
	}
	return bodyTree(p, 0) <= ProgTasks
}

// ProgTree is how many tasks a body may be, with all that it begins.
func ProgTree(p Prog, body int) int {
	if !ProgOk(p) || !isPlace(body, len(p.Bodies)) {
		return -1
	}
	return bodyTree(p, body)
}

// ProgText writes a program.
func ProgText(p Prog) string {
	if !ProgOk(p) {
		return ""
	}
	text := "cells" + numsWritten(p.Cells) + "\n"
	for _, acts := range p.Bodies {
		text += "body\n"
		for _, a := range acts {
			text += actPart(a).written() + "\n"
		}
	}
	return text
}

// ProgRead reads a program.
func ProgRead(text string) (Prog, bool) {
	if len(text) > progTextMost {
		return Prog{}, false
	}
	p := progGuess(text)
	if !ProgOk(p) || ProgText(p) != text {
		return Prog{}, false
	}
	return p, true
}

// progGuess is the only program whose text this can be; whether it is, is for its text to tell, so that the form of texts is said in one place.
func progGuess(text string) Prog {
	var p Prog
	for _, line := range strings.Split(strings.TrimSuffix(text, "\n"), "\n") {
		words := strings.Split(line, " ")
		last := len(p.Bodies) - 1
		switch {
		case words[0] == "cells":
			p.Cells = numsGuess(words[1:])
		case words[0] == "body":
			p.Bodies = append(p.Bodies, nil)
		case last >= 0:
			p.Bodies[last] = append(p.Bodies[last], actGuess(words[0], words[1:]))
		}
	}
	return p
}

func actGuess(name string, words []string) Act {
	switch name {
	case "try":
		return Act{Kind: ActTry, Deeds: deedsGuess(words)}
	case "fork":
		return Act{Kind: ActFork, Kids: numsGuess(words)}
	case "fail":
		return Act{Kind: ActFail}
	case "failif":
		return Act{Kind: ActFailIf, Reg: nameGuess(strings.Join(words, " "), progRegNames)}
	}
	return Act{}
}

func deedsGuess(words []string) []Deed {
	var deeds []Deed
	for _, word := range words {
		deeds = append(deeds, deedGuess(word))
	}
	return deeds
}

func deedGuess(word string) Deed {
	if reg, ok := strings.CutSuffix(word, "?"); ok {
		return Deed{Kind: DeedNeed, A: nameGuess(reg, progRegNames)}
	}
	if reg, other, ok := strings.Cut(word, "+"); ok {
		return Deed{Kind: DeedAdd, A: nameGuess(reg, progRegNames), B: nameGuess(other, progRegNames)}
	}
	to, from, _ := strings.Cut(word, "=")
	if cell := nameGuess(to, progCellNames); cell >= 0 {
		return Deed{Kind: DeedStore, A: cell, B: nameGuess(from, progRegNames)}
	}
	if cell := nameGuess(from, progCellNames); cell >= 0 {
		return Deed{Kind: DeedLoad, A: nameGuess(to, progRegNames), B: cell}
	}
	return Deed{Kind: DeedNum, A: nameGuess(to, progRegNames), B: numGuess(from)}
}

// nameGuess is the place of a name of one letter, or -1, which is in no form.
func nameGuess(word string, names string) int {
	if len(word) != 1 {
		return -1
	}
	return strings.Index(names, word)
}

func numsGuess(words []string) []int {
	var nums []int
	for _, word := range words {
		nums = append(nums, numGuess(word))
	}
	return nums
}

// numGuess is -1, which is in no form, for what is no number.
func numGuess(word string) int {
	n, err := strconv.Atoi(word)
	if err != nil {
		return -1
	}
	return n
}
