package tests

import (
	"math/rand/v2"
	"runtime"
	"testing"
	"unsafe"

	"loop.example/equerry/impl"
)

// span is the memory of one list, spare room included.
type span struct{ from, to uintptr }

func spanOf[T any](list []T) span {
	var x T
	from := uintptr(unsafe.Pointer(unsafe.SliceData(list)))
	return span{from, from + uintptr(cap(list))*unsafe.Sizeof(x)}
}

func spansOf(p impl.Prog) []span {
	list := []span{spanOf(p.Cells), spanOf(p.Bodies)}
	for _, acts := range p.Bodies {
		list = append(list, spanOf(acts))
		for _, a := range acts {
			list = append(list, spanOf(a.Deeds), spanOf(a.Kids))
		}
	}
	return list
}

// Each list of an answer is its own, and of another answer's none.
func TestReadProgramsShareNoMemory(t *testing.T) {
	texts := append([]string{}, plainTexts...)
	for _, p := range someProgs(500) {
		texts = append(texts, impl.ProgText(p))
	}
	for _, text := range texts {
		p, q := mustRead(t, text), mustRead(t, text)
		list := append(spansOf(p), spansOf(q)...)
		for i, a := range list {
			for _, b := range list[:i] {
				if a.from < b.to && b.from < a.to {
					t.Fatalf("two lists share memory: %q", text)
				}
			}
		}
		runtime.KeepAlive(p)
		runtime.KeepAlive(q)
	}
}

// padded lays something behind the end of each list, which must stay as the list must.
func padded(p impl.Prog) impl.Prog {
	q := impl.Prog{Cells: laid(p.Cells, 77)}
	for _, acts := range p.Bodies {
		var body []impl.Act
		for _, a := range acts {
			body = append(body, impl.Act{Kind: a.Kind, Deeds: laid(a.Deeds, impl.Deed{Kind: 7, A: 7, B: 7}), Kids: laid(a.Kids, 77), Reg: a.Reg})
		}
		q.Bodies = append(q.Bodies, laid(body, impl.Act{Kind: 7, Reg: 7}))
	}
	q.Bodies = laid(q.Bodies, []impl.Act{{Kind: 77}})
	return q
}

func laid[T any](list []T, x T) []T {
	return append(append([]T{}, list...), x, x)[:len(list)]
}

// whole is a program with all that lies behind the ends of its lists.
func whole(p impl.Prog) string {
	q := impl.Prog{Cells: p.Cells[:cap(p.Cells)]}
	for _, acts := range p.Bodies[:cap(p.Bodies)] {
		var body []impl.Act
		for _, a := range acts[:cap(acts)] {
			body = append(body, impl.Act{Kind: a.Kind, Deeds: a.Deeds[:cap(a.Deeds)], Kids: a.Kids[:cap(a.Kids)], Reg: a.Reg})
		}
		q.Bodies = append(q.Bodies, body)
	}
	return shown(q)
}

// Nothing is written into an argument, or behind the end of one of its lists, and no call is told what the one ahead was.
func TestNothingIsWrittenIntoArguments(t *testing.T) {
	r := rand.New(rand.NewPCG(9, 10))
	for _, p := range someProgs(500) {
		for _, q := range []impl.Prog{padded(p), padded(bent(r, p))} {
			before := whole(q)
			judged(t, q, wantOk(q))
			if whole(q) != before {
				t.Fatalf("something was written: %v", q)
			}
			judged(t, q, wantOk(q))
		}
	}
}

// An argument whose lists share memory is as good as any other.
func TestArgumentsMayShareMemory(t *testing.T) {
	acts := []impl.Act{{Kind: impl.ActFail}, {Kind: impl.ActFailIf, Reg: 1}}
	judged(t, impl.Prog{Bodies: [][]impl.Act{acts, acts, acts[:1], acts[1:]}}, true)
}
