package tests

import (
	"math/rand/v2"
	"strings"
	"testing"

	"loop.example/equerry/impl"
)

// LinesRun against the tests' own reading: programs of all kinds, with turns of tasks and of nobody, and what is no program, or has too many turns.
func TestLinesAreAsTheDocumentSays(t *testing.T) {
	entries, failed, waiting, none, tooMany := 0, 0, 0, 0, 0
	for _, x := range someAsked() {
		got := judgedLines(t, x)
		switch {
		case got == "no program\n":
			none++
		case got == "too many turns\n":
			tooMany++
		case strings.Contains(got, " failed"):
			failed++
		case strings.Contains(got, " runs"):
			waiting++
		}
		if strings.Contains(got, "/") {
			entries++
		}
	}
	enough(t, 100, entries, failed, waiting, none, tooMany)
}

// All turns of a few bytes, of tasks and of nobody.
func TestAllTurnsOfSmallPrograms(t *testing.T) {
	told := map[string]int{}
	for _, text := range smallTexts {
		for n := range 6 {
			for _, places := range inAllWays(n, []int{0, 1, 2, 3, 7}) {
				turns := ""
				for _, place := range places {
					turns += string(rune('0' + place))
				}
				told[judgedLines(t, asked{text, turns})]++
			}
		}
	}
	enough(t, 15, len(told))
}

func TestLinesWithoutCells(t *testing.T) {
	linesAre(t, "nums\ntasks ended\n", "cells\nbody\n", "")
	linesAre(t, "nums\ntasks failed\n", "cells\nbody\nfail\n", "")
	linesAre(t, "0 0.0 /\nnums\ntasks ended\n", "cells\nbody\ntry\n", "0")
	linesAre(t, "0 1.0 /\n0 0.1 /\nnums\ntasks ended ended\n", "cells\nbody\nfork 1\ntry r=7\nbody\ntry\n", "")
}

func TestLinesOfCells(t *testing.T) {
	linesAre(t, "nums 0\ntasks ended\n", "cells 0\nbody\n", "")
	linesAre(t, "nums 5 10 99\ntasks ended\n", "cells 5 10 99\nbody\n", "0")
	linesAre(t, "0 0.0 0:5 /\nnums 5\ntasks ended\n", "cells 5\nbody\ntry r=A\n", "")
	linesAre(t, "0 0.0 0:5 1:10 2:99 /\nnums 5 10 99\ntasks ended\n", "cells 5 10 99\nbody\ntry t=C s=B r=A\n", "")
	linesAre(t, "1 0.0 / 0:0 2:99\nnums 0 10 99\ntasks ended\n", "cells 5 10 99\nbody\ntry s=99 C=s A=r\n", "")
	linesAre(t, "1 0.0 2:99 / 1:99\n2 0.2 1:99 / 1:98\n2 0.3 1:98 /\nnums 5 98 99\ntasks ended\n", "cells 5 10 99\nbody\ntry r=C B=r\nfailif t\ntry r=B r+r B=r\ntry s=B\n", "")
}

// The first body has no acts, whatever others have.
func TestLinesOfABodyWithoutActs(t *testing.T) {
	for _, turns := range []string{"", "0", "00", "012", "\x00\xff"} {
		linesAre(t, "nums\ntasks ended\n", "cells\nbody\n", turns)
		linesAre(t, "nums 1 2\ntasks ended\n", "cells 1 2\nbody\nbody\nfail\nbody\ntry A=r\n", turns)
	}
}

// Each of the five words, at each place that it can have.
func TestEachWordForHowATaskStands(t *testing.T) {
	// A task waits for ever for a change, and those above wait for it.
	linesAre(t, "nums 0\ntasks runs\n", "cells 0\nbody\ntry r=A r?\n", "")
	linesAre(t, "nums 0 3\ntasks waits runs ended\n", "cells 0 3\nbody\nfork 1 2\nbody\ntry r=A r?\nbody\n", "")
	linesAre(t, "nums 0 3\ntasks waits ended runs\n", "cells 0 3\nbody\nfork 2 1\nbody\ntry r=A r?\nbody\n", "")
	linesAre(t, "nums\ntasks waits waits runs runs runs\n", "cells\nbody\nfork 1 2\nbody\nfork 2 2\nbody\ntry t?\n", "")
	linesAre(t, "nums\ntasks ended ended ended ended ended ended ended\n", "cells\nbody\nfork 1 1\nbody\nfork 2 2\nbody\n", "")
	// One fails, so that those above do, and others are called off; who has ended stays so.
	linesAre(t, "nums\ntasks failed failed off\n", "cells\nbody\nfork 1 2\nbody\nfail\nbody\ntry\n", "01")
	linesAre(t, "0 2.0 /\nnums\ntasks failed failed ended\n", "cells\nbody\nfork 1 2\nbody\nfail\nbody\ntry\n", "02222")
	linesAre(t, "0 2.0 /\nnums\ntasks failed failed off\n", "cells\nbody\nfork 1 2\nbody\nfail\nbody\ntry\n", "0221")
	linesAre(t, "nums\ntasks failed off failed\n", "cells\nbody\nfork 2 1\nbody\nfail\nbody\ntry\n", "0210")
	linesAre(t, "nums\ntasks failed ended failed\n", "cells\nbody\nfork 1 2\nbody\nbody\nfail\n", "")
	linesAre(t, "0 1.0 /\nnums 0\ntasks failed failed off off off\n", "cells 0\nbody\nfork 1 2\nbody\ntry\nfail\nbody\nfork 3 3\nbody\ntry r=A r?\n", "02")
	linesAre(t, "nums\ntasks failed failed failed failed\n", "cells\nbody\nfork 1\nbody\nfork 2\nbody\nfork 3\nbody\nfail\n", "")
	// Several may fail, if they do so ahead of the one that waits for them.
	linesAre(t, "nums\ntasks failed failed failed\n", "cells\nbody\nfork 1 1\nbody\nfail\n", "")
	linesAre(t, "nums\ntasks failed failed off\n", "cells\nbody\nfork 1 1\nbody\nfail\n", "010")
}

// What has begun to write is written to its end, and told, though the task is called off; what has not is not.
func TestLinesOfWhoIsCalledOff(t *testing.T) {
	text := "cells 0 0\nbody\nfork 1 2\nbody\ntry r=4 A=r B=r\nbody\nfail\n"
	linesAre(t, "nums 0 0\ntasks failed off failed\n", text, "0"+strings.Repeat("1", 8)+"20")
	linesAre(t, "1 1.0 / 0:4 1:4\nnums 4 4\ntasks failed off failed\n", text, "0"+strings.Repeat("1", 9)+"20")
	linesAre(t, "1 1.0 / 0:4 1:4\nnums 4 4\ntasks failed off failed\n", text, "0"+strings.Repeat("1", 11)+"20")
	linesAre(t, "1 1.0 / 0:4 1:4\nnums 4 4\ntasks failed ended failed\n", text, "0"+strings.Repeat("1", 12)+"20")
}

// Entries are told as they were ended, not in the order of their times.
func TestLinesOfEntriesAsTheyWereEnded(t *testing.T) {
	text := "cells 1 2\nbody\nfork 1 2\nbody\ntry A=r\nbody\ntry B=r\n"
	linesAre(t, "1 1.0 / 0:0\n2 2.0 / 1:0\nnums 0 0\ntasks ended ended ended\n", text, "")
	// The first one takes its time, and then waits for its turn.
	linesAre(t, "2 2.0 / 1:0\n1 1.0 / 0:0\nnums 0 0\ntasks ended ended ended\n", text, "011111222222222")
}

// Turns are taken ahead of all else: by rounds the first task would come first.
func TestLinesOfTurns(t *testing.T) {
	text := "cells 5\nbody\nfork 1 1\nbody\ntry r=A s=1 r+s A=r\n"
	first := "1 1.0 0:5 / 0:6\n2 2.0 0:6 / 0:7\nnums 7\ntasks ended ended ended\n"
	second := "1 2.0 0:5 / 0:6\n2 1.0 0:6 / 0:7\nnums 7\ntasks ended ended ended\n"
	linesAre(t, first, text, "")
	linesAre(t, first, text, "0111111111111")
	linesAre(t, second, text, "0222222222222")
	// Of who is not there yet, or waits, the turn goes by.
	linesAre(t, first, text, "2222222222222")
	linesAre(t, first, text, "0000000000000")
	linesAre(t, second, text, "12020202020202020202020202")
	// Who has ended takes no more, whatever turns there are.
	linesAre(t, second, text, "0"+strings.Repeat("2", 299))
}

// sevenText has begun all of its tasks behind the turns 012; four of them add.
const sevenText = "cells 0\nbody\nfork 1 1\nbody\nfork 2 2\nbody\ntry r=A s=1 r+s A=r\n"

// Each byte is the turn of one task, if there is one of so many more than `0`, and of nobody else.
func TestEachByteIsTheTurnOfOneTask(t *testing.T) {
	none := impl.LinesRun(sevenText, "012")
	for b := range 256 {
		turns := "012" + strings.Repeat(string([]byte{byte(b)}), 10)
		got := judgedLines(t, asked{sevenText, turns})
		if b < '3' || b > '6' {
			if got != none {
				t.Errorf("%d: %q, not %q", b, got, none)
			}
			continue
		}
		// Who has all turns is the first that is done.
		if first := "1 " + string([]byte{byte(b)}) + ".0 0:0 / 0:1\n"; !strings.HasPrefix(got, first) {
			t.Errorf("%d: %q, not %q", b, got, first)
		}
		// Its turns are the same among those of others.
		for other := range 256 {
			if other < '0' || other > '6' {
				odd := string([]byte{byte(other)})
				linesAre(t, got, sevenText, odd+"012"+strings.Repeat(odd+string([]byte{byte(b)}), 10))
			}
		}
	}
}

// Turns are bytes, not letters: what is written by more than one of them is as many turns, none of them a task's.
func TestTurnsAreBytes(t *testing.T) {
	none := impl.LinesRun(sevenText, "012")
	for _, odd := range []string{"\u00e9", "\u0663", "\uff13", "\U0001d7f1", "\ufffd", "\xc3", "\x80", "\xb3", "\xff", "\xed\xa0\x80", "a", "A", "-1", "+", "/", ":", "7", "8", "9", " ", "\n", "\x00", "\x03"} {
		most := 297 / len(odd)
		linesAre(t, none, sevenText, "012"+strings.Repeat(odd, most))
		linesAre(t, "too many turns\n", sevenText, "012"+strings.Repeat(odd, most+1)+strings.Repeat("3", 298-len(odd)*(most+1)+len(odd)))
	}
}

// lastTurnMatters is turns the last of which changes what is told.
func lastTurnMatters(t *testing.T) string {
	t.Helper()
	turns := "012"
	for impl.LinesRun(sevenText, turns) == impl.LinesRun(sevenText, turns[:len(turns)-1]) || len(turns) == 3 {
		if turns += "6"; len(turns) > 20 {
			t.Fatal("no turn matters")
		}
	}
	return turns
}

// Of 300 the last one is taken as well; one more is refused, whosever it is.
func TestAtMost300TurnsOfLines(t *testing.T) {
	turns := lastTurnMatters(t)
	want := impl.LinesRun(sevenText, turns)
	for b := range 256 {
		odd := string([]byte{byte(b)})
		if b < '0' || b > '6' {
			for _, n := range []int{298, 299, 300} {
				linesAre(t, want, sevenText, strings.Repeat(odd, n-len(turns))+turns)
				linesAre(t, want, sevenText, turns+strings.Repeat(odd, n-len(turns)))
			}
		}
		if all := judgedLines(t, asked{sevenText, turns + strings.Repeat(odd, 300-len(turns))}); !strings.HasSuffix(all, "\nnums 4\ntasks ended ended ended ended ended ended ended\n") {
			t.Errorf("%d: %q", b, all)
		}
		for _, n := range []int{301, 302, 556, 557, 600, 5000} {
			linesAre(t, "too many turns\n", sevenText, strings.Repeat(odd, n))
			linesAre(t, "too many turns\n", sevenText, turns+strings.Repeat(odd, n-len(turns)))
		}
	}
	linesAre(t, "too many turns\n", "cells\nbody\n", strings.Repeat("0", 301))
	for _, n := range []int{1 << 16, 1<<16 + 300, 1 << 24} {
		if got := impl.LinesRun(sevenText, strings.Repeat("0", n)); got != "too many turns\n" {
			t.Errorf("%d: %q", n, got)
		}
	}
}

// What is no program is told so, whatever turns there are, also if they are too many.
func TestNoProgramIsToldFirst(t *testing.T) {
	for _, text := range wrongTexts {
		for _, turns := range []string{"", "0", "012", "\xff", strings.Repeat("0", 300), strings.Repeat("0", 301), strings.Repeat("\x80", 5000)} {
			linesAre(t, "no program\n", text, turns)
		}
	}
}

// The longest program's text is read; texts of 600 bytes and of 601 are none, whatever is behind it.
func TestLinesOfLongTexts(t *testing.T) {
	line := "try t=99 t=99 t=99 t=99 t=99\n"
	longest := "cells 99 99 99\n" + strings.Repeat("body\n"+strings.Repeat(line, 4), 4)
	linesAre(t, "0 0.0 /\n0 0.1 /\n0 0.2 /\n0 0.3 /\nnums 99 99 99\ntasks ended\n", longest, "")
	for _, fill := range []string{" ", "\n", "0", "fail\n", "body\n", "\x00", "\xff"} {
		for _, start := range append([]string{"", longest}, plainTexts...) {
			for _, size := range []int{500, 599, 600, 601, 5000} {
				text := (start + strings.Repeat(fill, size))[:size]
				linesAre(t, "no program\n", text, "")
				linesAre(t, "no program\n", text, strings.Repeat("0", 301))
			}
		}
	}
	if got := impl.LinesRun(strings.Repeat("cells\nbody\n", 1<<20), ""); got != "no program\n" {
		t.Errorf("%q", got)
	}
}

// One byte more, less, or another one, at each place, the end included.
func TestLinesOfNearTexts(t *testing.T) {
	still, none := 0, 0
	for _, text := range plainTexts {
		near := nearTexts(text)
		for i, x := range near {
			// Those about the end are all asked, of the others some.
			if len(x) > 4 && strings.HasPrefix(x, text[:len(text)-2]) || i%5 == 0 {
				if judgedLines(t, asked{x, "012"}) == "no program\n" {
					none++
				} else {
					still++
				}
			}
		}
		linesAre(t, "no program\n", text[:len(text)-1], "")
		linesAre(t, "no program\n", text+"\n", "")
		linesAre(t, "no program\n", text+" ", "")
		linesAre(t, "no program\n", text+"\x00", "")
		linesAre(t, "no program\n", "\ufeff"+text, "")
		linesAre(t, "no program\n", text+text, "")
	}
	enough(t, 50, still, none)
}

// Any bytes are a text, and turns: something is told of each.
func TestLinesOfAnyBytes(t *testing.T) {
	for a := range 256 {
		for b := range 256 {
			text := string([]byte{byte(a), byte(b)})
			linesAre(t, "no program\n", text, text)
		}
	}
	r := rand.New(rand.NewPCG(155, 156))
	words := []string{"cells", "body", "try", "fork", "fail", "failif", " ", " ", " ", "\n", "\n", "\n", "r", "s", "A", "r=A", "A=r", "r?", "0", "1", "2", "99", "-", "\x00", "\xff", "\u00e9"}
	program := 0
	for range 30000 {
		text := []string{"", "cells\nbody\n", "cells 1\nbody\n"}[r.IntN(3)]
		for range r.IntN(9) {
			text += words[r.IntN(len(words))]
		}
		turns := make([]byte, r.IntN(30))
		for i := range turns {
			turns[i] = byte(r.IntN(256))
		}
		if judgedLines(t, asked{text, string(turns)}) != "no program\n" {
			program++
		}
	}
	enough(t, 500, program)
}

// Four tasks keep each other from an end: each that takes a time finds what it read held by the next one. Their steps are cut, and they still run; SysTime is not come to, as each time takes seven steps, and there are only 1300.
func TestLinesOfWhoDoesNotComeToAnEnd(t *testing.T) {
	text := "cells 0 1\nbody\nfork 1 1\nbody\nfork 2 3\nbody\ntry r=A B=r\nbody\ntry r=B A=r\n"
	never := "nums 0 1\ntasks waits waits waits runs runs runs runs\n"
	for n := range 74 {
		linesAre(t, never, text, "0124434"+strings.Repeat("3456", n))
	}
	p, s := lastOf(t, asked{text, "0124434" + strings.Repeat("3456", 73)})
	if len(impl.SysReady(p, s)) != 4 || s.Clock < 180 || s.Clock >= impl.SysTime {
		t.Errorf("the test itself is wrong: %d, %v", s.Clock, impl.SysReady(p, s))
	}
	// By other turns they come to it.
	for _, turns := range []string{"", "012", "0125555555", "01244344"} {
		if got := judgedLines(t, asked{text, turns}); !strings.HasSuffix(got, "\ntasks ended ended ended ended ended ended ended\n") {
			t.Errorf("%q: %q", turns, got)
		}
	}
}

// crowdedText is four tasks that keep each other from what they do so often that all come to an end only behind 1002 steps; more acts of the first body are done at the end.
func crowdedText(more string) string {
	return "cells 1 1 0\nbody\nfork 1 1\n" + more + "body\ntry r=C C=r C=r\nfork 2 2\ntry B=r r=A A=r\ntry r=A B=r r=A\n" +
		"body\ntry r=C C=r r=A B=r A=r\ntry r=C C=r B=r A=r C=r\ntry r=B B=r A=r C=r r=B\ntry r=C r=A C=r B=t r=C\n"
}

// Behind the turns 1000 steps are taken, and not one more; turns count apart.
func TestAtMost1000StepsOfLines(t *testing.T) {
	for _, x := range []struct {
		more, turns string
		steps       int
		first       string
	}{
		{"", "", 1002, "waits"}, {"", "0", 1001, "runs"}, {"", "012", 999, "ended"},
		{"failif s\n", "", 1003, "waits"}, {"failif s\n", "0", 1002, "runs"}, {"failif s\n", "012", 1000, "ended"}, {"failif s\n", "01212", 998, "ended"},
		{"try\n", "0", 1003, "runs"}, {"try\n", "012", 1001, "runs"}, {"try\n", "01212", 999, "ended"},
	} {
		text := crowdedText(x.more)
		p := mustRead(t, text)
		s := mustRun(t, p, mustNew(t, p), placesIn(x.turns)...)
		if impl.SysOver(p, mustRest(t, p, s, x.steps-1)) || !impl.SysOver(p, mustRest(t, p, s, x.steps)) {
			t.Fatalf("the test itself is wrong: %q, %q", x.more, x.turns)
		}
		if got := judgedLines(t, asked{text, x.turns}); !strings.HasSuffix(got, "\ntasks "+x.first+strings.Repeat(" ended", 6)+"\n") {
			t.Errorf("%d: %q", x.steps, got)
		}
	}
}
