package tests

import (
	"fmt"
	"math/rand/v2"
	"runtime"
	"slices"
	"testing"

	"loop.example/equerry/impl"
)

// shareNone holds each list against each other, spare room included.
func shareNone(t *testing.T, list []span, what any) {
	t.Helper()
	for i, a := range list {
		for _, b := range list[:i] {
			if a.from < b.to && b.from < a.to {
				t.Fatalf("two lists share memory: %v", what)
			}
		}
	}
}

// Each list of an answer is its own: of no argument, of no other list, and of no other call's.
func TestChangesShareNoMemory(t *testing.T) {
	for _, x := range doneChanges(t, 2000) {
		y := paddedChange(x)
		c1, r1 := mustDo(t, y.cells, y.regs, y.deeds)
		c2, r2 := mustDo(t, y.cells, y.regs, y.deeds)
		reads, writes := impl.ChangeReads(y.deeds), impl.ChangeWrites(y.deeds)
		reads2, writes2 := impl.ChangeReads(y.deeds), impl.ChangeWrites(y.deeds)
		lists := [][]int{y.cells, y.regs, c1, r1, c2, r2, reads, writes, reads2, writes2}
		spans := []span{spanOf(y.deeds)}
		for _, list := range lists {
			spans = append(spans, spanOf(list))
		}
		shareNone(t, spans, x)
		runtime.KeepAlive(y)
		runtime.KeepAlive(lists)
	}
}

func paddedChange(x change) change {
	return change{laid(x.cells, 77), laid(x.regs, 77), laid(x.deeds, impl.Deed{Kind: 1, A: 1, B: 0})}
}

// wholeChange is a change with all that lies behind the ends of its lists.
func wholeChange(x change) string {
	return fmt.Sprint(x.cells[:cap(x.cells)], x.regs[:cap(x.regs)], x.deeds[:cap(x.deeds)])
}

// Nothing is written into an argument, or behind its end, whether a change is done, or not; and no call is told what the one ahead was.
func TestNothingIsWrittenIntoAChange(t *testing.T) {
	r := rand.New(rand.NewPCG(19, 20))
	for _, x := range someChanges(3000) {
		for _, y := range []change{paddedChange(x), paddedChange(bentChange(r, x))} {
			before := wholeChange(y)
			judgedChange(t, y.cells, y.regs, y.deeds)
			if wholeChange(y) != before {
				t.Fatalf("something was written: %v", y)
			}
			judgedChange(t, y.cells, y.regs, y.deeds)
		}
	}
}

// What is written into an answer is in no later one.
func TestAnswersOfChangesAreNotKept(t *testing.T) {
	for _, x := range doneChanges(t, 500) {
		c, r := mustDo(t, x.cells, x.regs, x.deeds)
		for _, list := range [][]int{c, r, impl.ChangeReads(x.deeds), impl.ChangeWrites(x.deeds)} {
			list = list[:cap(list)]
			for i := range list {
				list[i] = 88
			}
		}
		judgedChange(t, x.cells, x.regs, x.deeds)
	}
}

// Cells and registers may be the same list: what is done to one is not done to the other.
func TestCellsAndRegistersMayShareMemory(t *testing.T) {
	for _, x := range someChanges(2000) {
		if len(x.cells) == impl.ProgCells {
			judgedChange(t, x.regs, x.regs, x.deeds)
			all := slices.Concat(x.cells, x.regs)
			judgedChange(t, all[:3], all[3:], x.deeds)
			judgedChange(t, all[1:4], all[2:5], x.deeds)
		}
	}
}
