package tests

import (
	"math/rand/v2"
	"runtime"
	"sync"
	"testing"

	"loop.example/equerry/impl"
)

// The same is told at each call, whatever calls there were ahead.
func TestLinesAreNotKept(t *testing.T) {
	r := rand.New(rand.NewPCG(161, 162))
	list := someAsked()
	told := map[int]string{}
	for range 4 {
		for _, at := range r.Perm(len(list)) {
			got := impl.LinesRun(list[at].text, list[at].turns)
			if want, there := told[at]; there && got != want {
				t.Fatalf("%q, not %q: %q, %q", got, want, list[at].text, list[at].turns)
			}
			told[at] = got
		}
	}
}

// However goroutines are scheduled: on one processor and on more, one call at a time and many at once.
func TestLinesAreTheSameHoweverGoroutinesAreScheduled(t *testing.T) {
	defer runtime.GOMAXPROCS(runtime.GOMAXPROCS(0))
	list := []asked{
		{smallTexts[0], "0222"}, {smallTexts[2], "01"}, {smallTexts[5], ""}, {sevenText, "012666"}, {"cells\nbody\n", ""},
		{"what", "0"}, {"", ""}, {sevenText, string(make([]byte, 301))},
	}
	for _, processors := range []int{1, 2, 3, 8, 32} {
		runtime.GOMAXPROCS(processors)
		for _, x := range list {
			want := judgedLines(t, x)
			for range 300 {
				if got := impl.LinesRun(x.text, x.turns); got != want {
					t.Fatalf("%q, not %q: %q, %q", got, want, x.text, x.turns)
				}
			}
		}
		manyAtOnce(t, list)
	}
}

// manyAtOnce asks all of a list, many times, and each in another order.
func manyAtOnce(t *testing.T, list []asked) {
	t.Helper()
	var want []string
	for _, x := range list {
		want = append(want, wantLines(x.text, x.turns))
	}
	var callers sync.WaitGroup
	for caller := range 24 {
		callers.Go(func() {
			r := rand.New(rand.NewPCG(163, uint64(caller)))
			for range 25 {
				for _, at := range r.Perm(len(list)) {
					if got := impl.LinesRun(list[at].text, list[at].turns); got != want[at] {
						t.Errorf("%q, not %q: %q, %q", got, want[at], list[at].text, list[at].turns)
						return
					}
				}
			}
		})
	}
	callers.Wait()
}

// goroutinesLeft waits a while for those that have done all, but are still counted.
func goroutinesLeft(most int) int {
	for range 100000 {
		if runtime.NumGoroutine() <= most {
			break
		}
		runtime.Gosched()
	}
	return runtime.NumGoroutine()
}

// No goroutine is left behind, whatever is told.
func TestNoGoroutineIsLeftBehind(t *testing.T) {
	before := runtime.NumGoroutine()
	for _, x := range someAsked()[:2000] {
		impl.LinesRun(x.text, x.turns)
	}
	for _, text := range wrongTexts {
		impl.LinesRun(text, "0")
	}
	for range 2000 {
		impl.LinesRun(sevenText, "012666")
		impl.LinesRun(sevenText, string(make([]byte, 301)))
		impl.LinesRun("", "")
	}
	if left := goroutinesLeft(before); left > before {
		t.Errorf("%d goroutines, not %d", left, before)
	}
}

// No panic leaves the function, also if somebody above is panicking, and calls it meanwhile: that panic is still there behind it.
func TestNoPanicLeavesTheFunction(t *testing.T) {
	told := ""
	caught := func() (caught any) {
		defer func() { caught = recover() }()
		defer func() {
			told = impl.LinesRun("what", "0") + impl.LinesRun(sevenText, string(make([]byte, 301))) + impl.LinesRun("cells\nbody\n", "")
		}()
		panic("another one")
	}()
	if caught != "another one" || told != "no program\ntoo many turns\nnums\ntasks ended\n" {
		t.Errorf("%v, %q", caught, told)
	}
}
