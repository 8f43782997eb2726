package tests

import (
	"slices"
	"testing"

	"loop.example/g03219/impl"
)

// programsForPools have forks, calls and loops.
func programsForPools(n int) []impl.Program {
	looping, _ := loopingPrograms(n)
	return slices.Concat(forkingPrograms(n), callingPrograms(n), looping)
}

// oddPool changes a pool in some way, after which it may be valid or not.
func (m *maker) oddPool(x impl.Pool) impl.Pool {
	return changedPool(x, func(x *impl.Pool) {
		lists := []*[]impl.Job{&x.Open, &x.Held, &x.Done}
		from, to := *lists[m.below(3)], lists[m.below(3)]
		switch m.below(9) {
		case 0:
			x.Fuel = []int{m.below(8), m.below(60), 400, 401, -1}[m.below(5)]
		case 1:
			w := m.below(len(x.Busy))
			x.Busy[w] = !x.Busy[w]
		case 2:
			*to = append(*to, job(m.wordsBelow(0, 4, 2)...))
		case 3:
			if len(from) > 0 {
				*to = append(*to, from[m.below(len(from))])
			}
		case 4:
			if len(*to) > 0 {
				*to = (*to)[1:]
			}
		case 5:
			if len(from) > 0 && len(*to) > 0 {
				k, j := m.below(len(from)), m.below(len(*to))
				from[k], (*to)[j] = (*to)[j], from[k]
			}
		case 6:
			if len(from) > 0 {
				turns := &from[m.below(len(from))].Turns
				*turns = append(*turns, m.below(2))
			}
		case 7:
			if len(from) > 0 && len(from[0].Turns) > 0 {
				from[0].Turns = from[0].Turns[1:]
			}
		case 8:
			x.Held, x.Busy = append(x.Held, job()), append(x.Busy, false)
		}
	})
}

// TestP10PoolsOfAny compares all functions of pools with the document's text.
func TestP10PoolsOfAny(t *testing.T) {
	m := maker{state: 577}
	found := map[string]int{}
	for _, p := range programsForPools(400) {
		x := m.pool(p)
		for range m.below(3) {
			x = m.oddPool(x)
		}
		checkPool(t, &m, p, x, found)
	}
	for _, name := range []string{"PoolOk", "not PoolOk", "TakeJob", "no TakeJob", "FinishJob", "no FinishJob", "CrashWorker", "no CrashWorker", "PoolEnds", "no PoolEnds"} {
		if found[name] < 100 {
			t.Errorf("there are only %d cases of %s", found[name], name)
		}
	}
}

func checkPool(t *testing.T, m *maker, p impl.Program, x impl.Pool, found map[string]int) {
	t.Helper()
	valid := slowPoolOk(p, x)
	same := func(name string, got impl.Pool, ok bool, want impl.Pool, fine bool) {
		t.Helper()
		if ok != fine || textOfPool(got) != textOfPool(want) {
			t.Errorf("%s of %s, %s = %s, %v, want %s", name, dumpProgram(p), textOfPool(x), textOfPool(got), ok, textOfPool(want))
		}
		if !ok {
			name = "no " + name
		}
		found[name]++
	}
	if got := impl.PoolOk(p, x); got != valid {
		t.Errorf("PoolOk of %s, %s = %v", dumpProgram(p), textOfPool(x), got)
	}
	if !valid {
		found["not PoolOk"]++
		got, ok := impl.TakeJob(p, x, 0)
		same("TakeJob of a bad pool", got, ok, impl.Pool{}, false)
		same("RunPool of a bad pool", impl.RunPool(p, x, m.schedule(9)), false, impl.Pool{}, false)
		if s := impl.FormatPool(p, x); s != "" {
			t.Errorf("FormatPool of a bad pool %s = %q", textOfPool(x), s)
		}
		return
	}
	found["PoolOk"]++
	for w := -1; w <= len(x.Busy); w++ {
		want, fine := slowTake(x, w)
		got, ok := impl.TakeJob(p, x, w)
		same("TakeJob", got, ok, want, fine)
		want, fine = slowFinish(p, x, w)
		got, ok = impl.FinishJob(p, x, w)
		same("FinishJob", got, ok, want, fine)
		want, fine = slowCrash(x, w)
		got, ok = impl.CrashWorker(p, x, w)
		same("CrashWorker", got, ok, want, fine)
	}
	schedule := m.schedule(m.below(30))
	same("RunPool", impl.RunPool(p, x, schedule), true, slowRun(p, x, schedule), true)
	s := impl.FormatPool(p, x)
	if want := slowFormat(x); s != want {
		t.Errorf("FormatPool of %s, %s = %q, want %q", dumpProgram(p), textOfPool(x), s, want)
	}
	want, fine := slowParse(p, s)
	got, ok := impl.ParsePool(p, s)
	same("ParsePool", got, ok, want, fine)
	ends, ok := impl.PoolEnds(p, x)
	paths, fine := slowEnds(p, x)
	if ok != fine || textOfPaths(ends) != textOfPaths(paths) {
		t.Errorf("PoolEnds of %s, %s = %s, %v, want %s", dumpProgram(p), textOfPool(x), textOfPaths(ends), ok, textOfPaths(paths))
	}
	if ok {
		found["PoolEnds"]++
	} else {
		found["no PoolEnds"]++
	}
}

// finished lets all workers of a pool work until nothing is left, or until nothing can be done any more.
func finished(p impl.Program, x impl.Pool) impl.Pool {
	// Each of at most 127 jobs is taken and finished.
	return impl.RunPool(p, x, slices.Repeat([]int{0, 1, 2, 3, 3, 2, 1, 0}, 100))
}

// moveAny makes a move of a pool, by one of the functions for it. It leaves the pool as it is where that fails.
func (m *maker) moveAny(p impl.Program, x impl.Pool, found map[string]int) impl.Pool {
	w := m.below(len(x.Busy))
	var after impl.Pool
	var ok bool
	name := ""
	switch kind := m.below(20); {
	case kind < 8:
		name = "taken"
		after, ok = impl.TakeJob(p, x, w)
	case kind < 15:
		name = "finished"
		after, ok = impl.FinishJob(p, x, w)
	case kind < 17:
		name = "crashed"
		after, ok = impl.CrashWorker(p, x, w)
	case kind < 18:
		name = "resumed"
		if slices.Contains(x.Busy, true) {
			name = "resumed by others"
		}
		after, ok = impl.ParsePool(p, impl.FormatPool(p, x))
	default:
		name = "run"
		after, ok = impl.RunPool(p, x, m.schedule(5)), true
	}
	if !ok {
		return x
	}
	found[name]++
	return after
}

// TestP10EndsOfExplore has pools with so many workers, which take, finish, crash, are saved and resumed. Their ends are those of one exploration, in its order.
func TestP10EndsOfExplore(t *testing.T) {
	m := maker{state: 587}
	found := map[string]int{}
	programs := programsForPools(120)
	for _, text := range []string{sumProgram, countdown, sameProgram, orderProgram, cubeProgram, levels10, bits, descent, chain} {
		programs = append(programs, readProgram(t, text))
	}
	for _, p := range programs {
		fuel := 10 + m.below(50)
		want, explored := impl.Explore(p, fuel, 64)
		for workers := 1; workers <= 4; workers++ {
			x, ok := impl.NewPool(p, workers, fuel)
			for range 20 {
				x = m.moveAny(p, x, found)
				ok = ok && impl.PoolOk(p, x)
			}
			x = finished(p, x)
			ends, complete := impl.PoolEnds(p, x)
			if !ok || complete != explored || textOfPaths(ends) != textOfPaths(want) {
				t.Errorf("PoolEnds of %s, %s = %s, %v, want %s", dumpProgram(p), textOfPool(x), textOfPaths(ends), complete, textOfPaths(want))
			}
			if !explored {
				found["not explored"]++
				if len(slowJobs(x)) != 64 {
					t.Errorf("%s, which has too many ends, becomes %s", dumpProgram(p), textOfPool(x))
				}
			} else if len(want) > 1 {
				found["explored"]++
			}
		}
	}
	for _, name := range []string{"taken", "finished", "crashed", "resumed", "resumed by others", "run", "explored", "not explored"} {
		if found[name] < 30 {
			t.Errorf("there are only %d cases of %s", found[name], name)
		}
	}
}

// TestP10JobsDivideTests checks that at any time each test is one of just one job.
func TestP10JobsDivideTests(t *testing.T) {
	m := maker{state: 593}
	several := 0
	for _, p := range forkingPrograms(250) {
		x, _ := impl.NewPool(p, 1+m.below(4), 10+m.below(50))
		for range 12 {
			x = m.moveAny(p, x, map[string]int{})
			var paths []impl.Path
			for _, j := range slowJobs(x) {
				s, _ := impl.PathWith(p, j.Turns, x.Fuel)
				paths = append(paths, s)
			}
			several += truth(len(paths) > 2)
			for _, in := range allWords(p) {
				holding := 0
				for _, s := range paths {
					holding += truth(slowHolds(p, s, in))
				}
				if holding != 1 {
					t.Fatalf("%d jobs of %s, %s hold for %v", holding, dumpProgram(p), textOfPool(x), in)
				}
			}
		}
	}
	if several < 100 {
		t.Errorf("only %d pools have several jobs", several)
	}
}

// TestP10SavedAndResumed has pools of which some workers are busy: what is resumed is what comes of it if all of them crash.
func TestP10SavedAndResumed(t *testing.T) {
	m := maker{state: 599}
	busy := 0
	for _, p := range programsForPools(200) {
		x := m.pool(p)
		crashed := x
		for w := len(x.Busy) - 1; w >= 0; w-- {
			if x.Busy[w] {
				crashed, _ = impl.CrashWorker(p, crashed, w)
				busy++
			}
		}
		s := impl.FormatPool(p, x)
		resumed, ok := impl.ParsePool(p, s)
		if !ok || textOfPool(resumed) != textOfPool(crashed) {
			t.Errorf("ParsePool of %q = %s, %v, want %s", s, textOfPool(resumed), ok, textOfPool(crashed))
		}
		// Nothing crashes any more.
		again, ok := impl.ParsePool(p, impl.FormatPool(p, resumed))
		if !ok || textOfPool(again) != textOfPool(resumed) {
			t.Errorf("ParsePool of FormatPool of %s = %s, %v", textOfPool(resumed), textOfPool(again), ok)
		}
	}
	if busy < 100 {
		t.Errorf("only %d workers are busy", busy)
	}
}
