package tests

import (
	"math/rand/v2"
	"regexp"
	"slices"
	"strconv"
	"strings"
	"testing"

	"loop.example/equerry/impl"
)

// Promises 107 to 110, in their order; what a promise speaks of is asked of the program, or worked out on the spot, not taken from the tests' own reading.

// Promise 107: entries are told just as LogText tells them, then numbers and tasks; or what is wrong, alone.
func TestATextIsToldItsEntriesFirstOrWhatIsWrong(t *testing.T) {
	some, without, none, tooMany := 0, 0, 0, 0
	for _, x := range someAsked() {
		got := impl.LinesRun(x.text, x.turns)
		if _, ok := impl.ProgRead(x.text); !ok {
			if none++; got != "no program\n" {
				t.Fatalf("%q: %q, %q", got, x.text, x.turns)
			}
			continue
		}
		if len(x.turns) > 300 {
			if tooMany++; got != "too many turns\n" {
				t.Fatalf("%q: %q, %q", got, x.text, x.turns)
			}
			continue
		}
		_, s := lastOf(t, x)
		behind, ok := strings.CutPrefix(got, impl.LogText(s.Log))
		if !ok || behind != wordsOf(s) {
			t.Fatalf("%q, not %q, and %q: %q, %q", got, impl.LogText(s.Log), wordsOf(s), x.text, x.turns)
		}
		if len(s.Log) > 0 {
			some++
		} else {
			without++
		}
	}
	enough(t, 200, some, without, none, tooMany)
}

// wordsOf is both lines behind entries.
func wordsOf(s impl.Sys) string {
	nums, tasks := []string{"nums"}, []string{"tasks"}
	for _, n := range impl.SysNums(s) {
		nums = append(nums, strconv.Itoa(n))
	}
	words := map[int]string{impl.TaskRuns: "runs", impl.TaskWaits: "waits", impl.TaskEnded: "ended", impl.TaskFailed: "failed", impl.TaskOff: "off"}
	for _, way := range impl.SysWays(s) {
		tasks = append(tasks, words[way])
	}
	return strings.Join(nums, " ") + "\n" + strings.Join(tasks, " ") + "\n"
}

// Promise 108: whichever letter, wherever it is, and whatever turns there are.
func TestWithALetterMoreItIsNoProgram(t *testing.T) {
	r := rand.New(rand.NewPCG(157, 158))
	letters := "abcdefghijklmnopqrstuvwxyzABCDEFGHIJKLMNOPQRSTUVWXYZ"
	for _, text := range slices.Concat(plainTexts, smallTexts) {
		if impl.LinesRun(text, "") == "no program\n" {
			t.Fatalf("no program: %q", text)
		}
		for at := range len(text) + 1 {
			for _, letter := range letters {
				linesAre(t, "no program\n", text[:at]+string(letter)+text[at:], "012")
			}
		}
	}
	for _, x := range goodAsked() {
		if got := impl.LinesRun(x.text, x.turns); got == "no program\n" {
			t.Fatalf("%q: %q, %q", got, x.text, x.turns)
		}
		at := r.IntN(len(x.text))
		for _, letter := range []string{"a", "r", "A", "z", letters[at%52 : at%52+1], "\u00e9"} {
			linesAre(t, "no program\n", x.text+letter, x.turns)
			linesAre(t, "no program\n", letter+x.text, x.turns)
			linesAre(t, "no program\n", x.text[:at]+letter+x.text[at:], x.turns)
		}
	}
}

// nobodysTurn is a byte for no task's turn; or, if that is asked for, for that of one that is not there yet, or is not ready, behind the turns ahead.
func nobodysTurn(t *testing.T, r *rand.Rand, x asked, rests bool) string {
	t.Helper()
	if rests {
		p := mustRead(t, x.text)
		s := mustRun(t, p, mustNew(t, p), placesIn(x.turns)...)
		ready := impl.SysReady(p, s)
		list := slices.DeleteFunc([]int{0, 1, 2, 3, 4, 5, 6}, func(task int) bool { return slices.Contains(ready, task) })
		return strconv.Itoa(oneOf(r, list))
	}
	return string([]byte{oddTurn(r)})
}

// Promise 109: wherever they stand, as long as turns are not too many; also those of tasks that are not there yet, or wait, or have ended.
func TestTurnsOfNobodyChangeNothingOfWhatIsTold(t *testing.T) {
	r := rand.New(rand.NewPCG(159, 160))
	odd, rests, matters := 0, 0, 0
	for i, x := range goodAsked() {
		want := impl.LinesRun(x.text, x.turns)
		if want != impl.LinesRun(x.text, "") {
			matters++
		}
		// More than seven are not begun, so there is always one that is not ready.
		more := x.turns
		for range min(r.IntN(6), 300-len(more)) {
			at := r.IntN(len(more) + 1)
			resting := i%4 == 0 && r.IntN(2) == 0
			more = more[:at] + nobodysTurn(t, r, asked{x.text, more[:at]}, resting) + more[at:]
			if resting {
				rests++
			} else {
				odd++
			}
		}
		if got := impl.LinesRun(x.text, more); got != want {
			t.Fatalf("%q, not %q: %q, %q, and %q", got, want, x.text, more, x.turns)
		}
		// As many as there is room for, and none at all.
		full := more + strings.Repeat(string([]byte{oddTurn(r)}), 300-len(more))
		only := strings.Map(func(turn rune) rune {
			if turn < '0' || turn > '6' {
				return -1
			}
			return turn
		}, x.turns)
		if got := impl.LinesRun(x.text, full); got != want {
			t.Fatalf("%q, not %q: %q, %q", got, want, x.text, full)
		}
		if got := impl.LinesRun(x.text, only); got != want {
			t.Fatalf("%q, not %q: %q, %q, and %q", got, want, x.text, only, x.turns)
		}
	}
	enough(t, 500, odd, rests, matters)
}

var (
	entryForm = regexp.MustCompile(`^(0|[1-9][0-9]*) [0-6]\.[0-3]( [0-2]:(0|[1-9][0-9]?))* /( [0-2]:(0|[1-9][0-9]?))*$`)
	numsForm  = regexp.MustCompile(`^nums( (0|[1-9][0-9]?))*$`)
	tasksForm = regexp.MustCompile(`^tasks( (runs|waits|ended|failed|off))+$`)
)

// Promise 110: each ends with a newline, and has one blank ahead of each word behind the first.
func TestThereIsALineForEachEntryAndTwo(t *testing.T) {
	most := 0
	for _, x := range goodAsked() {
		p, s := lastOf(t, x)
		got := impl.LinesRun(x.text, x.turns)
		lines := strings.Split(got, "\n")
		// Behind the last newline there is nothing.
		if n := len(lines) - 1; n != len(s.Log)+2 || lines[n] != "" {
			t.Fatalf("%d lines, not %d: %q: %q, %q", n, len(s.Log)+2, got, x.text, x.turns)
		}
		for i, line := range lines[:len(s.Log)] {
			if !entryForm.MatchString(line) || line+"\n" != impl.LogText(s.Log[i:i+1]) {
				t.Fatalf("%q: %q, %q", line, x.text, x.turns)
			}
		}
		nums, tasks := lines[len(s.Log)], lines[len(s.Log)+1]
		if !numsForm.MatchString(nums) || strings.Count(nums, " ") != len(p.Cells) {
			t.Fatalf("%q: %q, %q", nums, x.text, x.turns)
		}
		if !tasksForm.MatchString(tasks) || strings.Count(tasks, " ") != len(s.Tasks) {
			t.Fatalf("%q: %q, %q", tasks, x.text, x.turns)
		}
		if len(s.Log) > 3 {
			most++
		}
	}
	enough(t, 200, most)
	for _, x := range someAsked() {
		if got := impl.LinesRun(x.text, x.turns); !strings.HasSuffix(got, "\n") || strings.Contains(got, "\n\n") || strings.HasPrefix(got, "\n") {
			t.Fatalf("%q: %q, %q", got, x.text, x.turns)
		}
	}
}
