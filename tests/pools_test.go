package tests

import (
	"math"
	"slices"
	"strings"
	"testing"

	"loop.example/g03219/impl"
)

// deepProgram has 64 forks after six turns, and 128 ends.
const deepProgram = sameProgram + "|zero r0 8"

// allTurns are the jobs with n turns, in the order of an exploration.
func allTurns(n int) []impl.Job {
	l := []impl.Job{job()}
	for range n {
		var longer []impl.Job
		for _, j := range l {
			longer = append(longer, job(append(slices.Clone(j.Turns), 1)...), job(append(slices.Clone(j.Turns), 0)...))
		}
		l = longer
	}
	return l
}

func mustBePool(t *testing.T, p impl.Program, x impl.Pool, want bool, label string) {
	t.Helper()
	if got := impl.PoolOk(p, x); got != want {
		t.Errorf("PoolOk of %s, %s = %v", label, textOfPool(x), got)
	}
}

func TestP10PoolOk(t *testing.T) {
	for _, c := range []struct {
		program string
		pools   []string
		ok      bool
	}{
		// Pools as they begin, as they are used and as they end.
		{sumProgram, []string{"20|.|-|", "20|.|-, -, -, -|", "20||., -|", "20|1, 0|-|", "20|1|-, 0|", "20||1, 0|", "20|1 1, 1 0|-, -|0", "20||1 1, -|0, 1 0", "20||-|1 0, 0, 1 1", "20||1 1, 1 0, 0|"}, true},
		// Without jobs, with few of them, and with a job and what comes of it.
		{sumProgram, []string{"20||-|", "20||-, -, -|", "20||-|0", "20|1 1|-|", "20|., 1, 1 1, 1 0, 0|-|", "20|1|., -|0", "20|.|-, 1|1 1, 1 0"}, true},
		// An end that is still open or held, for it is not known yet.
		{sumProgram, []string{"20|0, 1 0|-|", "20||0, 1 0|", "20|0|1 1|1 0"}, true},
		// The fuel ends a path ahead of its fork.
		{sumProgram, []string{"0|.|-|", "0||.|", "0||-|.", "3|.|-|", "3||-|.", "4|., 1, 0|-|", "4||-|1, 0", "5||-|1 1, 1 0, 0", "400|.|-|", "400||-|1 1, 1 0, 0"}, true},
		{sumProgram, []string{"0|1|-|", "0|0|-|", "0||-|., 0", "3|1|-|", "3||0|", "4||-|.", "4|1 1|-|", "4||-|1 0, 0", "5||-|1, 0", "5||-|.", "-1|.|-|", "401|.|-|", "-1||-|", "401||-|"}, false},
		// Without a fork.
		{"2 1 0|halt", []string{"20|.|-|", "20||.|", "20||-|.", "0||-|."}, true}, {"2 1 0|halt", []string{"20|1|-|", "20|0|-|", "20||1|", "20||-|0"}, false},
		// A question that is answered, and a loop.
		{"2 1 0|zero r0 0", []string{"400|.|-|", "400||-|."}, true}, {"2 1 0|zero r0 0", []string{"400|1|-|", "400||-|1"}, false},
		{countdown, []string{"9||0 0|1, 0 1", "60|0 0 0 0 0 0 0 0|0 0 0 0 0 0 0 1|"}, true}, {countdown, []string{"9||-|0 0", "8||-|0 0 1"}, false}, {countdown, []string{"8||-|0 0"}, true},
		{"8 1 0|in r0", []string{"20||-|."}, true}, {"8 1 0|in r0", []string{"20|1|-|"}, false},
	} {
		p := readProgram(t, c.program)
		for _, text := range c.pools {
			mustBePool(t, p, readPool(t, text), c.ok, c.program)
		}
	}
}

// TestP10PoolOkBad has pools that are not valid in each way.
func TestP10PoolOkBad(t *testing.T) {
	p := readProgram(t, sumProgram)
	for label, x := range badPools(t) {
		mustBePool(t, p, x, false, label)
	}
	for _, bad := range badPrograms() {
		for _, text := range []string{"20|.|-|", "0||-|", "20||-|."} {
			mustBePool(t, bad, readPool(t, text), false, "a program that is not valid")
		}
	}
	mustBePool(t, p, impl.Pool{}, false, "nothing")
	long := job(slices.Repeat([]int{1}, 61)...)
	mustBePool(t, readProgram(t, countdown), impl.Pool{Fuel: 400, Open: []impl.Job{long}, Held: make([]impl.Job, 1), Busy: make([]bool, 1)}, false, "a job with many turns")
}

// TestP10PoolOkMany has just as many jobs as there may be, and one more, wherever they are.
func TestP10PoolOkMany(t *testing.T) {
	deep, same := readProgram(t, deepProgram), readProgram(t, sameProgram)
	all := allTurns(6)
	for _, c := range []struct {
		program    impl.Program
		open, held int
	}{
		{deep, 64, 0}, {deep, 63, 1}, {deep, 60, 4}, {same, 64, 0}, {same, 0, 0}, {same, 0, 4}, {same, 30, 3}, {same, 1, 0}, {same, 0, 1},
	} {
		x := impl.Pool{Fuel: 20, Open: all[:c.open], Held: make([]impl.Job, 4), Busy: make([]bool, 4), Done: all[c.open+c.held:]}
		for w, j := range all[c.open : c.open+c.held] {
			x.Held[w], x.Busy[w] = j, true
		}
		mustBePool(t, c.program, x, true, "64 jobs")
		mustBePool(t, c.program, changedPool(x, func(x *impl.Pool) { x.Open = append(x.Open, job()) }), false, "65 jobs")
		if c.held < 4 {
			mustBePool(t, c.program, changedPool(x, func(x *impl.Pool) { x.Busy[c.held] = true }), false, "65 jobs")
		}
		mustBePool(t, c.program, changedPool(x, func(x *impl.Pool) { x.Fuel = 7 }), true, "64 jobs with just enough fuel")
		mustBePool(t, c.program, changedPool(x, func(x *impl.Pool) { x.Fuel = 6 }), false, "64 jobs with too little fuel")
	}
	other := impl.Pool{Fuel: 7, Held: make([]impl.Job, 1), Busy: make([]bool, 1), Done: all}
	mustBePool(t, deep, other, true, "64 ends")
	other.Done = append(slices.Clone(all[:63]), allTurns(7)[127])
	mustBePool(t, deep, other, false, "63 ends and one that needs more fuel")
	other.Fuel, other.Done = 8, allTurns(7)[:64]
	mustBePool(t, deep, other, true, "64 of 128 ends")
	other.Done = allTurns(7)[:65]
	mustBePool(t, deep, other, false, "65 of 128 ends")
}

// TestP10PoolOkLongJobs has jobs with as many turns as a path can have.
func TestP10PoolOkLongJobs(t *testing.T) {
	p := readProgram(t, "2 1 1|in r0|zero r0 1|jump 1")
	for n := 58; n <= 62; n++ {
		for _, turn := range []int{0, 1} {
			x := impl.Pool{Fuel: 400, Open: []impl.Job{{Turns: slices.Repeat([]int{turn}, n)}}, Held: make([]impl.Job, 1), Busy: make([]bool, 1)}
			mustBePool(t, p, x, n <= 60, "a long job")
			x.Open, x.Done = nil, x.Open
			mustBePool(t, p, x, n == 60, "a long job that is done")
		}
	}
}

func TestP10NewPool(t *testing.T) {
	p := readProgram(t, sumProgram)
	for _, c := range []struct {
		workers, fuel int
		want          string
	}{
		{1, 20, "20|.|-|"}, {2, 20, "20|.|-, -|"}, {3, 7, "7|.|-, -, -|"}, {4, 20, "20|.|-, -, -, -|"}, {1, 0, "0|.|-|"}, {4, 0, "0|.|-, -, -, -|"}, {2, 400, "400|.|-, -|"},
		{0, 20, ""}, {5, 20, ""}, {-1, 20, ""}, {6, 20, ""}, {1, -1, ""}, {1, 401, ""}, {0, 0, ""}, {5, 401, ""}, {math.MinInt, 20, ""}, {math.MaxInt, 20, ""}, {1, math.MinInt, ""}, {1, math.MaxInt, ""}, {1 << 32, 20, ""},
	} {
		x, ok := impl.NewPool(p, c.workers, c.fuel)
		mustGivePool(t, "NewPool", []int{c.workers, c.fuel}, x, ok, c.want)
	}
	for _, bad := range badPrograms() {
		x, ok := impl.NewPool(bad, 1, 20)
		mustGivePool(t, "NewPool", dumpProgram(bad), x, ok, "")
	}
	// It does not matter that there are too many ends in all.
	x, ok := impl.NewPool(readProgram(t, deepProgram), 1, 20)
	mustGivePool(t, "NewPool", deepProgram, x, ok, "20|.|-|")
}

// mustGivePool checks a result; it has to be the zero value if the text is empty.
func mustGivePool(t *testing.T, name string, args any, x impl.Pool, ok bool, want string) {
	t.Helper()
	fails := want == ""
	if fails {
		want = zeroPool
	}
	if got := textOfPool(x); got != want || ok == fails {
		t.Errorf("%s of %v = %s, %v, want %s", name, args, got, ok, want)
	}
}

// A poolMove is TakeJob, FinishJob or CrashWorker.
type poolMove func(p impl.Program, x impl.Pool, w int) (impl.Pool, bool)

type moveCase struct {
	pool string
	w    int
	want string
}

func checkMoves(t *testing.T, name, program string, move poolMove, cases []moveCase) {
	t.Helper()
	p := readProgram(t, program)
	for _, c := range cases {
		x, ok := move(p, readPool(t, c.pool), c.w)
		mustGivePool(t, name, c, x, ok, c.want)
	}
	for label, bad := range badPools(t) {
		for w := range 2 {
			x, ok := move(readProgram(t, sumProgram), bad, w)
			mustGivePool(t, name, label, x, ok, "")
		}
	}
	for _, bad := range badPrograms() {
		for w, text := range []string{"20|.|1, 1|", "20|0|-, -|"} {
			x, ok := move(bad, readPool(t, text), w)
			mustGivePool(t, name, dumpProgram(bad), x, ok, "")
		}
	}
}

func TestP10TakeJob(t *testing.T) {
	checkMoves(t, "TakeJob", sumProgram, impl.TakeJob, []moveCase{
		{"20|.|-|", 0, "20||.|"}, {"20|.|-, -, -, -|", 3, "20||-, -, -, .|"}, {"20|1 0, 0|1 1, -|", 1, "20|0|1 1, 1 0|"}, {"20|0, 1 0|-, 1 1|", 0, "20|1 0|0, 1 1|"}, {"20|., 0|-, -|1 0, 1 1", 1, "20|0|-, .|1 0, 1 1"}, {"0|.|-|", 0, "0||.|"},
		// Open is empty.
		{"20||-, -|", 0, ""}, {"20||-, .|", 0, ""}, {"20||-|0, 1 0, 1 1", 0, ""},
		// The worker is busy, or not there.
		{"20|0|1, -|", 0, ""}, {"20|0|-, ., -|", 1, ""}, {"20|.|-, -|", 2, ""}, {"20|.|-, -|", -1, ""}, {"20|.|-, -|", 3, ""}, {"20|.|-, -, -, -|", 4, ""}, {"20|.|-, -|", math.MinInt, ""}, {"20|.|-, -|", math.MaxInt, ""}, {"20|.|-, -|", 1 << 32, ""},
	})
}

func TestP10FinishJob(t *testing.T) {
	checkMoves(t, "FinishJob", sumProgram, impl.FinishJob, []moveCase{
		// At a fork.
		{"20||.|", 0, "20|1, 0|-|"}, {"20|0|-, 1|", 1, "20|0, 1 1, 1 0|-, -|"}, {"20|0|1, -|", 0, "20|0, 1 1, 1 0|-, -|"}, {"20|1 1|., 1 0|0", 0, ""}, {"20|1 1|., 1 0|", 0, "20|1 1, 1, 0|-, 1 0|"},
		// An end.
		{"20||0|", 0, "20||-|0"}, {"20|1|0, -|", 0, "20|1|-, -|0"}, {"20||1 1, 1 0|0", 1, "20||1 1, -|0, 1 0"}, {"20||1 1, 1 0|0", 0, "20||-, 1 0|0, 1 1"}, {"20|.|1 1|1 0", 0, "20|.|-|1 0, 1 1"},
		// The fuel ends it.
		{"0||.|", 0, "0||-|."}, {"3||.|", 0, "3||-|."}, {"4||.|", 0, "4|1, 0|-|"}, {"4||1, 0|", 0, "4||-, 0|1"}, {"5||1, 0|", 0, "5|1 1, 1 0|-, 0|"},
		// A job that would be there twice: Open, held or done.
		{"20|1|.|", 0, ""}, {"20|0|.|", 0, ""}, {"20||., 1|", 0, ""}, {"20||., 0|", 0, ""}, {"20||0, .|", 1, ""}, {"20||.|0", 0, ""}, {"20||1|1 0", 0, ""}, {"20||1, -|1 1", 0, ""}, {"20|.|1|0", 0, "20|., 1 1, 1 0|-|0"},
		// The worker is idle, or not there.
		{"20|.|-, -|", 0, ""}, {"20||-, .|", 0, ""}, {"20||., -|", 1, ""}, {"20||., 0|", 2, ""}, {"20||.|", 1, ""}, {"20||.|", -1, ""}, {"20||., 1 0, 1 1, -|", 4, ""}, {"20||.|", math.MinInt, ""}, {"20||.|", math.MaxInt, ""}, {"20||.|", 1 << 32, ""},
	})
}

// TestP10FinishJobMany has so many jobs that there is no room for one more.
func TestP10FinishJobMany(t *testing.T) {
	p := readProgram(t, deepProgram)
	all := allTurns(6)
	for _, c := range []struct {
		open, ends int
		fork, ok   bool
	}{
		{63, 0, true, false}, {62, 0, true, true}, {62, 1, true, false}, {61, 1, true, true}, {0, 63, true, false}, {0, 62, true, true}, {1, 62, true, false}, {63, 0, false, true}, {0, 63, false, true}, {30, 33, false, true}, {30, 33, true, false}, {30, 32, true, true},
	} {
		x := impl.Pool{Fuel: 20, Open: all[:c.open], Held: []impl.Job{{}, all[63]}, Busy: []bool{false, true}, Done: allTurns(7)[:c.ends]}
		if !c.fork {
			x.Held[1].Turns = append(slices.Clone(all[63].Turns), 0)
		}
		want := ""
		if c.ok {
			want = textOfPool(changedPool(x, func(x *impl.Pool) {
				if c.fork {
					x.Open = append(x.Open, allTurns(7)[126:]...)
				} else {
					x.Done = append(x.Done, allTurns(7)[127])
				}
				x.Held[1], x.Busy[1] = job(), false
			}))
		}
		mustBePool(t, p, x, true, "many jobs")
		got, ok := impl.FinishJob(p, x, 1)
		mustGivePool(t, "FinishJob", textOfPool(x), got, ok, want)
	}
}

func TestP10CrashWorker(t *testing.T) {
	checkMoves(t, "CrashWorker", sumProgram, impl.CrashWorker, []moveCase{
		{"20||.|", 0, "20|.|-|"}, {"20|1 0, 0|-, 1 1|", 1, "20|1 1, 1 0, 0|-, -|"}, {"20|0|1 0, 1 1|", 0, "20|1 0, 0|-, 1 1|"}, {"20|0|1 0, 1 1|", 1, "20|1 1, 0|1 0, -|"}, {"20||-, -, -, 0|1 0", 3, "20|0|-, -, -, -|1 0"}, {"0||.|", 0, "0|.|-|"},
		// The worker is idle, or not there.
		{"20|.|-|", 0, ""}, {"20||-, .|", 0, ""}, {"20||., -|", 1, ""}, {"20||., 0|", 2, ""}, {"20||., 0|", -1, ""}, {"20||-|", 0, ""}, {"20||., 1, 1 0, 0|", 4, ""}, {"20||.|", math.MinInt, ""}, {"20||.|", math.MaxInt, ""}, {"20||.|", 1 << 32, ""},
	})
}

func TestP10RunPool(t *testing.T) {
	p := readProgram(t, sumProgram)
	for _, c := range []struct {
		pool     string
		schedule []int
		want     string
	}{
		{"20|.|-, -|", nil, "20|.|-, -|"}, {"20|.|-, -|", []int{0}, "20||., -|"}, {"20|.|-, -|", []int{1}, "20||-, .|"}, {"20|.|-, -|", []int{0, 0}, "20|1, 0|-, -|"}, {"20|.|-, -|", []int{1, 1, 0, 1}, "20||1, 0|"}, {"20|.|-, -|", []int{1, 1, 0, 1, 1, 0}, "20|1 1, 1 0|-, -|0"},
		{"20|.|-|", []int{0, 0, 0, 0, 0, 0, 0, 0, 0, 0}, "20||-|0, 1 1, 1 0"},
		// Where nothing can be done, nothing happens, and the others go on.
		{"20|.|-, -|", []int{0, 1, 1, 1}, "20||., -|"}, {"20|.|-, -|", []int{-1, -2, 0, 1, -2}, "20||., -|"}, {"20||-, -|0", []int{0, 1, -1, -2, 0}, "20||-, -|0"}, {"20|1|., -|", []int{0, 0, 1, 0}, "20||., 1|"},
		// Crashes.
		{"20|.|-, -|", []int{0, -1}, "20|.|-, -|"}, {"20|.|-, -|", []int{0, -2}, "20||., -|"}, {"20|.|-, -|", []int{1, -2}, "20|.|-, -|"}, {"20|0|., 1|", []int{-1}, "20|., 0|-, 1|"}, {"20|0|., 1|", []int{-2}, "20|1, 0|., -|"}, {"20|0|., 1|", []int{-1, -2}, "20|1, ., 0|-, -|"}, {"20|0|., 1|", []int{-2, -1}, "20|., 1, 0|-, -|"}, {"20|0|., 1|", []int{-1, 0, -1, 0, -1}, "20|., 0|-, 1|"},
		// Numbers beyond the workers, and far below 0.
		{"20|.|-, -|", []int{2}, "20||., -|"}, {"20|.|-, -|", []int{3}, "20||-, .|"}, {"20|.|-, -, -|", []int{3}, "20||., -, -|"}, {"20|.|-, -, -|", []int{5}, "20||-, -, .|"}, {"20|.|-|", []int{7, 100}, "20|1, 0|-|"},
		{"20|0|., 1|", []int{-3}, "20|., 0|-, 1|"}, {"20|0|., 1|", []int{-4}, "20|1, 0|., -|"}, {"20|0|., 1, 1 1|", []int{-4}, "20|., 0|-, 1, 1 1|"}, {"20|0|., 1, 1 1|", []int{-6}, "20|1 1, 0|., 1, -|"},
		// The greatest int is 1 modulo 2, 1 modulo 3 and 3 modulo 4; the least one stands for the same worker.
		{"20|.|-, -|", []int{math.MaxInt}, "20||-, .|"}, {"20|.|-, -, -|", []int{math.MaxInt}, "20||-, ., -|"}, {"20|.|-, -, -, -|", []int{math.MaxInt}, "20||-, -, -, .|"}, {"20|.|-, -|", []int{math.MaxInt - 1}, "20||., -|"},
		{"20|0|., 1|", []int{math.MinInt}, "20|1, 0|., -|"}, {"20|0|., 1, 1 1|", []int{math.MinInt}, "20|1, 0|., -, 1 1|"}, {"20|0|., 1, 1 1, 1 0|", []int{math.MinInt}, "20|1 0, 0|., 1, 1 1, -|"}, {"20|0|., 1|", []int{math.MinInt + 1}, "20|., 0|-, 1|"},
		{"20|.|-, -, -|", []int{math.MaxInt, math.MinInt, math.MaxInt, math.MaxInt}, "20|1, 0|-, -, -|"},
		// Fuel that ends a path ahead of its fork.
		{"0|.|-|", []int{0, 0, 0}, "0||-|."}, {"4|.|-|", []int{0, 0, 0, 0, 0, 0}, "4||-|1, 0"},
	} {
		if got := textOfPool(impl.RunPool(p, readPool(t, c.pool), c.schedule)); got != c.want {
			t.Errorf("RunPool of %s with %v = %s, want %s", c.pool, c.schedule, got, c.want)
		}
	}
}

func TestP10RunPoolBad(t *testing.T) {
	p := readProgram(t, sumProgram)
	for _, schedule := range [][]int{nil, {0}, {0, 0, 1, -1}, {math.MinInt, math.MaxInt}} {
		for label, bad := range badPools(t) {
			mustGivePool(t, "RunPool", label, impl.RunPool(p, bad, schedule), false, "")
		}
		for _, bad := range badPrograms() {
			mustGivePool(t, "RunPool", dumpProgram(bad), impl.RunPool(bad, readPool(t, "20|.|-|"), schedule), false, "")
		}
	}
}

// TestP10RunPoolFull has a program with too many ends: a pool with 64 jobs stays as it is, but that workers take jobs and crash.
func TestP10RunPoolFull(t *testing.T) {
	p := readProgram(t, deepProgram)
	x, _ := impl.NewPool(p, 4, 20)
	var schedule []int
	for k := range 2000 {
		schedule = append(schedule, k%4)
	}
	x = impl.RunPool(p, x, schedule)
	if got := slowJobs(x); len(got) != 64 || len(x.Open) != 60 || !impl.PoolOk(p, x) {
		t.Errorf("RunPool of a program with too many ends = %s", textOfPool(x))
	}
	before := textOfPool(x)
	if got := textOfPool(impl.RunPool(p, x, schedule)); got != before {
		t.Errorf("RunPool of a full pool %s = %s", before, got)
	}
	x = impl.RunPool(p, x, []int{-4, -3, -2, -1})
	if ends, ok := impl.PoolEnds(p, x); ok || len(ends) != 0 || len(x.Open) != 64 {
		t.Errorf("PoolEnds of %s = %d, %v", textOfPool(x), len(ends), ok)
	}
}

func TestP10PoolEnds(t *testing.T) {
	for _, c := range []struct {
		program, pool string
		// The indices of the ends among those of Explore, or "fails".
		want string
	}{
		{sumProgram, "20||-|1 1, 1 0, 0", "0 1 2"}, {sumProgram, "20||-, -|0, 1 0, 1 1", "0 1 2"}, {sumProgram, "20||-|1 0, 0, 1 1", "0 1 2"}, {sumProgram, "20||-|0, 1 1", "0 2"}, {sumProgram, "20||-|1 0", "1"}, {sumProgram, "20||-, -, -, -|", ""},
		// Fuel that ends paths ahead of their forks.
		{sumProgram, "0||-|.", "0"}, {sumProgram, "3||-|.", "0"}, {sumProgram, "4||-|0, 1", "0 1"},
		// Turns of different lengths.
		{countdown, "26||-|0 0 0 1, 1, 0 0 1, 0 1, 0 0 0 0 0 0 1, 0 0 0 0 1, 0 0 0 0 0 1", "0 1 2 3 4 5 6"}, {countdown, "8||-|0 1, 0 0, 1", "0 1 2"}, {countdown, "9||-|0 0 0, 1, 0 0 1", "0 2 3"},
		// A worker is busy, or Open is not empty.
		{sumProgram, "20||0|1 1, 1 0", "fails"}, {sumProgram, "20||-, 0|1 1, 1 0", "fails"}, {sumProgram, "20|0|-|1 1, 1 0", "fails"}, {sumProgram, "20|.|-|", "fails"}, {sumProgram, "20||.|", "fails"}, {sumProgram, "20|1 0|-, 0|1 1", "fails"},
	} {
		p, x := readProgram(t, c.program), readPool(t, c.pool)
		got, ok := impl.PoolEnds(p, x)
		if c.want == "fails" {
			if ok || len(got) != 0 {
				t.Errorf("PoolEnds of %s = %s, %v", c.pool, textOfPaths(got), ok)
			}
			continue
		}
		all, _ := impl.Explore(p, x.Fuel, 64)
		var want []impl.Path
		for _, k := range readInts(t, c.want) {
			want = append(want, all[k])
		}
		if !ok || textOfPaths(got) != textOfPaths(want) {
			t.Errorf("PoolEnds of %s = %s, %v, want %s", c.pool, textOfPaths(got), ok, textOfPaths(want))
		}
	}
}

func TestP10PoolEndsText(t *testing.T) {
	p := readProgram(t, sumProgram)
	got, ok := impl.PoolEnds(p, readPool(t, "20||-|0, 1 0"))
	want := "7|(add 3:3 i0:3), 3:3, 3:0, 3:0|3:0, 3:0||1||2|5|(eq 3:0 (add 3:3 i0:3)), (not (eq 3:0 (add 3:3 i0:3)))|1 0 & 5|(add 3:3 i0:3), 3:3, 3:0, 3:0|3:0, 3:0||1|(add 3:3 i0:3)|1|6|(not (eq 3:0 (add 3:3 i0:3)))|0"
	if !ok || textOfPaths(got) != want {
		t.Errorf("PoolEnds = %s, %v", textOfPaths(got), ok)
	}
	for label, bad := range badPools(t) {
		if got, ok := impl.PoolEnds(p, bad); ok || len(got) != 0 {
			t.Errorf("PoolEnds of %s = %s, %v", label, textOfPaths(got), ok)
		}
	}
	for _, bad := range badPrograms() {
		for _, text := range []string{"20||-|", "20||-|."} {
			if got, ok := impl.PoolEnds(bad, readPool(t, text)); ok || len(got) != 0 {
				t.Errorf("PoolEnds of %s = %s, %v", dumpProgram(bad), textOfPaths(got), ok)
			}
		}
	}
}

func TestP10FormatPool(t *testing.T) {
	for _, c := range []struct{ program, pool, want string }{
		{sumProgram, "20|.|-, -|", "20 2|;;"}, {sumProgram, "20||-|", "20 1;;"}, {sumProgram, "0||-, -, -, -|", "0 4;;"}, {sumProgram, "400|.|-, -, -|", "400 3|;;"},
		// Idle and busy workers.
		{sumProgram, "20||.|", "20 1;|;"}, {sumProgram, "20||., -|", "20 2;|;"}, {sumProgram, "20||-, .|", "20 2;|;"}, {sumProgram, "20||1, 0|", "20 2;|1|0;"}, {sumProgram, "20||0, 1|", "20 2;|0|1;"}, {sumProgram, "20|1 1|0, -, 1 0|", "20 3|1 1;|0|1 0;"}, {sumProgram, "20|1 1|-, 0, 1 0|", "20 3|1 1;|0|1 0;"},
		// Parts with some jobs, also without turns.
		{sumProgram, "20|1, 0|-|", "20 1|1|0;;"}, {sumProgram, "20|1 0, ., 0|-|1 1", "20 1|1 0||0;;|1 1"}, {sumProgram, "20|0, .|-|", "20 1|0|;;"}, {sumProgram, "20|., 0|-|", "20 1||0;;"}, {sumProgram, "20||-|0, 1 0, 1 1", "20 1;;|0|1 0|1 1"}, {sumProgram, "20|.|1, -|0, 1 0, 1 1", "20 2|;|1;|0|1 0|1 1"}, {sumProgram, "20||1, .|0", "20 2;|1|;|0"}, {sumProgram, "20||., 1|0", "20 2;||1;|0"},
		{sumProgram, "0||-|.", "0 1;;|"}, {sumProgram, "0||.|", "0 1;|;"}, {countdown, "26|0 0 0 0 1|0 0 0 1|0 0 1, 1", "26 1|0 0 0 0 1;|0 0 0 1;|0 0 1|1"},
	} {
		p, x := readProgram(t, c.program), readPool(t, c.pool)
		if got := impl.FormatPool(p, x); got != c.want {
			t.Errorf("FormatPool of %s = %q, want %q", c.pool, got, c.want)
		}
	}
	for label, bad := range badPools(t) {
		if got := impl.FormatPool(readProgram(t, sumProgram), bad); got != "" {
			t.Errorf("FormatPool of %s = %q", label, got)
		}
	}
	for _, bad := range badPrograms() {
		for _, text := range []string{"20||-|", "20|.|-|"} {
			if got := impl.FormatPool(bad, readPool(t, text)); got != "" {
				t.Errorf("FormatPool of %s = %q", dumpProgram(bad), got)
			}
		}
	}
}

func TestP10ParsePool(t *testing.T) {
	for _, c := range []struct{ program, text, want string }{
		// No worker was busy.
		{sumProgram, "20 2|;;", "20|.|-, -|"}, {sumProgram, "20 1;;", "20||-|"}, {sumProgram, "0 4;;", "0||-, -, -, -|"}, {sumProgram, "400 3|1|0;;", "400|1, 0|-, -, -|"}, {sumProgram, "20 1|1 0||0;;|1 1", "20|1 0, ., 0|-|1 1"}, {sumProgram, "20 1;;|0|1 0|1 1", "20||-|0, 1 0, 1 1"}, {sumProgram, "0 1;;|", "0||-|."}, {sumProgram, "3 1;;|", "3||-|."},
		// One was, or several were.
		{sumProgram, "20 1;|;", "20|.|-|"}, {sumProgram, "20 2|0;|1;", "20|1, 0|-, -|"}, {sumProgram, "20 2;|0|1;", "20|0, 1|-, -|"}, {sumProgram, "20 2|1 1;|0|1 0;", "20|0, 1 0, 1 1|-, -|"}, {sumProgram, "20 3|1 1;|0|1 0;", "20|0, 1 0, 1 1|-, -, -|"}, {sumProgram, "20 4|.;|0|1 0|1|1 1;", ""}, {sumProgram, "20 4|;|0|1 0|1|1 1;", "20|0, 1 0, 1, 1 1, .|-, -, -, -|"}, {sumProgram, "20 4|;|1|1 1;|0|1 0", "20|1, 1 1, .|-, -, -, -|0, 1 0"}, {sumProgram, "20 2;||1;|0", "20|., 1|-, -|0"}, {sumProgram, "20 2;|1|;|0", "20|1, .|-, -|0"}, {sumProgram, "0 1;|;", "0|.|-|"},
		// More jobs are held than there are workers.
		{sumProgram, "20 1;|1|0;", ""}, {sumProgram, "20 3;|1|0|1 1|1 0;", ""}, {sumProgram, "20 4;||1|0|1 1|1 0;", ""}, {sumProgram, "20 1;||1|0|1 1|1 0;", ""},
		// Such a pool would not be valid.
		{sumProgram, "20 0|;;", ""}, {sumProgram, "20 5|;;", ""}, {sumProgram, "20 -1|;;", ""}, {sumProgram, "401 1|;;", ""}, {sumProgram, "-1 1|;;", ""}, {sumProgram, "20 1|2;;", ""}, {sumProgram, "20 1|-1;;", ""}, {sumProgram, "20 1|0 0;;", ""}, {sumProgram, "20 1;|0 0;", ""}, {sumProgram, "20 1;;|0 0", ""}, {sumProgram, "20 1;;|", ""}, {sumProgram, "20 1;;|1", ""}, {sumProgram, "20 1|0|0;;", ""}, {sumProgram, "20 1||;;", ""}, {sumProgram, "20 2;||;", ""}, {sumProgram, "20 1|0;|0;", ""}, {sumProgram, "20 1|0;;|0", ""}, {sumProgram, "20 1;|0;|0", ""}, {sumProgram, "20 1;;|0|0", ""}, {sumProgram, "3 1|1;;", ""}, {sumProgram, "4 1;;|1 1", ""},
		{sumProgram, "20 9223372036854775807|;;", ""}, {sumProgram, "20 9223372036854775808|;;", ""}, {sumProgram, "9223372036854775807 1|;;", ""}, {sumProgram, "-9223372036854775808 1|;;", ""}, {sumProgram, "20 4294967297|;;", ""}, {sumProgram, "20 100000000000|;;", ""}, {sumProgram, "20 1|9223372036854775808;;", ""},
		// Texts that FormatPool would not write.
		{sumProgram, "", ""}, {sumProgram, "20 2", ""}, {sumProgram, "20 2|", ""}, {sumProgram, "20 2|;", ""}, {sumProgram, "20 2|;;;", ""}, {sumProgram, ";;", ""}, {sumProgram, "20;;", ""}, {sumProgram, "20|;;", ""}, {sumProgram, "20 ;;", ""}, {sumProgram, " 2;;", ""}, {sumProgram, "20 2 1;;", ""}, {sumProgram, "20  2;;", ""}, {sumProgram, " 20 2;;", ""}, {sumProgram, "20 2 ;;", ""}, {sumProgram, "20 2; ;", ""}, {sumProgram, "20 2;; ", ""}, {sumProgram, "20 2;;\n", ""}, {sumProgram, "20,2;;", ""}, {sumProgram, "20\t2;;", ""}, {sumProgram, "020 2;;", ""}, {sumProgram, "20 02;;", ""}, {sumProgram, "+20 2;;", ""}, {sumProgram, "20 +2;;", ""}, {sumProgram, "-0 2;;", ""}, {sumProgram, "2e1 2;;", ""}, {sumProgram, "twenty 2;;", ""}, {sumProgram, "20 2.0;;", ""},
		{sumProgram, "20 1|01;;", ""}, {sumProgram, "20 1|00;;", ""}, {sumProgram, "20 1|+0;;", ""}, {sumProgram, "20 1|-0;;", ""}, {sumProgram, "20 1| ;;", ""}, {sumProgram, "20 1|0 ;;", ""}, {sumProgram, "20 1| 0;;", ""}, {sumProgram, "20 1|1  0;;", ""}, {sumProgram, "20 1|1,0;;", ""}, {sumProgram, "20 1|1\n0;;", ""}, {sumProgram, "20 1|x;;", ""}, {sumProgram, "20 1|.;;", ""}, {sumProgram, "20 1;0;", ""}, {sumProgram, "20 1;;0", ""}, {sumProgram, "20 1;0|1;", ""}, {sumProgram, "20 1;;x|0", ""}, {sumProgram, "20 1; |0;", ""}, {sumProgram, "20 1 |0;;", ""}, {sumProgram, "20 1|0|;;|", ""}, {sumProgram, "20 1|0;|;;", ""}, {sumProgram, "20 1|0:|;", ""},
	} {
		x, ok := impl.ParsePool(readProgram(t, c.program), c.text)
		mustGivePool(t, "ParsePool", c.text, x, ok, c.want)
	}
	for _, bad := range badPrograms() {
		for _, text := range []string{"", "20 2|;;", "0 1;;", "20 1;;|"} {
			x, ok := impl.ParsePool(bad, text)
			mustGivePool(t, "ParsePool", dumpProgram(bad), x, ok, "")
		}
	}
}

// TestP10ParsePoolMany has texts of as many jobs as there may be, and of more.
func TestP10ParsePoolMany(t *testing.T) {
	p := readProgram(t, deepProgram)
	for _, n := range []int{63, 64, 65, 126, 127} {
		var texts []string
		for _, j := range slices.Concat(allTurns(5), allTurns(6), allTurns(4), allTurns(3), allTurns(2))[:n] {
			texts = append(texts, "|"+textOfInts(j.Turns))
		}
		for _, held := range []int{0, 1, 3, 4} {
			text := "20 4" + strings.Join(texts[held:], "") + ";" + strings.Join(texts[:held], "") + ";"
			x, ok := impl.ParsePool(p, text)
			if want, fine := slowParse(p, text); ok != (n <= 64) || ok != fine || textOfPool(x) != textOfPool(want) {
				t.Errorf("ParsePool of %d jobs, %d of them held = %s, %v", n, held, textOfPool(x), ok)
			}
		}
	}
	for _, text := range []string{strings.Repeat("|", 100000), "20 1" + strings.Repeat("|", 100000) + ";;", "20 1;" + strings.Repeat("|1 1", 100000) + ";", strings.Repeat(";", 100000), "20 1|" + strings.Repeat("1 ", 100000) + "1;;"} {
		x, ok := impl.ParsePool(p, text)
		mustGivePool(t, "ParsePool", text[:20], x, ok, "")
	}
}

// TestP10ParsePoolAlmost compares texts that are nearly right with what a pattern says.
func TestP10ParsePoolAlmost(t *testing.T) {
	p := readProgram(t, sumProgram)
	right := 0
	for _, text := range []string{"20 2|1 1;|0|1 0;", "4 1|;;|1|0", "5 3||1;|0;|1 1|1 0"} {
		for _, s := range almostTexts(text, "012 |;-x\n\xff") {
			want, fine := slowParse(p, s)
			x, ok := impl.ParsePool(p, s)
			if ok != fine || textOfPool(x) != textOfPool(want) {
				t.Errorf("ParsePool of %q = %s, %v, want %s", s, textOfPool(x), ok, textOfPool(want))
			}
			right += truth(ok)
		}
	}
	if right < 20 {
		t.Errorf("only %d texts are right", right)
	}
	for _, s := range oddTexts() {
		x, ok := impl.ParsePool(p, s)
		mustGivePool(t, "ParsePool", s, x, ok, "")
	}
}
