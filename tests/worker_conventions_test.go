package tests

import (
	"math"
	"slices"
	"strconv"
	"strings"
	"testing"

	"loop.example/g03219/impl"
)

// A workerArgs has arguments for all functions of workers and of the console.
type workerArgs struct {
	p        impl.Program
	x        impl.Pool
	w        int
	fuel     int
	schedule []int
	text     string
	s        impl.Session
	line     string
}

func jobRegions(l []impl.Job) []region {
	regions := regionOf(l)
	for _, j := range l {
		regions = append(regions, regionOf(j.Turns)...)
	}
	return regions
}

func poolRegions(x impl.Pool) []region {
	return slices.Concat(jobRegions(x.Open), jobRegions(x.Held), regionOf(x.Busy), jobRegions(x.Done))
}

func poolUse(x impl.Pool, ok bool) ([]region, string) {
	return poolRegions(x), textOfPool(x) + strconv.FormatBool(ok)
}

func sessionUse(s impl.Session, out string, ok bool) ([]region, string) {
	l := slices.Concat(regionOf(s.Program.Code), regionOf(s.Tests))
	for _, in := range s.Tests {
		l = append(l, regionOf(in)...)
	}
	return l, textOfSession(s) + out + strconv.FormatBool(ok)
}

func workerUses() []use[workerArgs] {
	return []use[workerArgs]{
		{"PoolOk", func(x workerArgs) ([]region, string) { return boolUse(impl.PoolOk(x.p, x.x)) }},
		{"NewPool", func(x workerArgs) ([]region, string) { return poolUse(impl.NewPool(x.p, x.w, x.fuel)) }},
		{"TakeJob", func(x workerArgs) ([]region, string) { return poolUse(impl.TakeJob(x.p, x.x, x.w)) }},
		{"FinishJob", func(x workerArgs) ([]region, string) { return poolUse(impl.FinishJob(x.p, x.x, x.w)) }},
		{"CrashWorker", func(x workerArgs) ([]region, string) { return poolUse(impl.CrashWorker(x.p, x.x, x.w)) }},
		{"RunPool", func(x workerArgs) ([]region, string) { return poolUse(impl.RunPool(x.p, x.x, x.schedule), true) }},
		{"PoolEnds", func(x workerArgs) ([]region, string) { return pathsUseOf(impl.PoolEnds(x.p, x.x)) }},
		{"FormatPool", func(x workerArgs) ([]region, string) { return nil, impl.FormatPool(x.p, x.x) }},
		{"ParsePool", func(x workerArgs) ([]region, string) { return poolUse(impl.ParsePool(x.p, x.text)) }},
		{"SessionOk", func(x workerArgs) ([]region, string) { return boolUse(impl.SessionOk(x.s)) }},
		{"NewSession", func(x workerArgs) ([]region, string) { return sessionUse(impl.NewSession(), "", true) }},
		{"RunLine", func(x workerArgs) ([]region, string) { return sessionUse(impl.RunLine(x.s, x.line)) }},
		{"RunScript", func(x workerArgs) ([]region, string) {
			out, n := impl.RunScript(strings.Join([]string{"load " + shown(x.p), x.line, "show", x.text}, "\n"))
			return nil, out + strconv.Itoa(n)
		}},
	}
}

// someWorkerArgs are arguments that are valid, but for those of every fifth one.
func someWorkerArgs(n int) []workerArgs {
	m := maker{state: 607}
	var l []workerArgs
	bad := badPrograms()
	programs := programsForPools(n/3 + 1)
	for k, p := range programs[:n] {
		x := workerArgs{p: p, x: m.pool(p), fuel: m.below(60), schedule: m.schedule(m.below(20))}
		x.w = m.below(len(x.x.Busy))
		if m.below(3) == 0 {
			x.x = finished(p, x.x)
		}
		x.text = slowFormat(x.x)
		x.s = impl.Session{Program: p, Fuel: 10 + m.below(50), Tests: m.tests(p, m.below(5))}
		x.line = m.line(x.s, programs)
		switch k % 25 {
		case 4:
			x.p, x.s.Program = bad[k/25%len(bad)], bad[k/25%len(bad)]
		case 9, 14:
			x.x = m.oddPool(x.x)
		case 19:
			x.w, x.fuel, x.s.Fuel = len(x.x.Busy), 401, 61
			x.text += "|"
		case 24:
			lists := badLists(p.W, p.In)
			x.s.Tests = append(x.s.Tests, lists[k/25%len(lists)])
			x.text = strings.Replace(x.text, " ", "  ", 1)
		}
		l = append(l, x)
	}
	return l
}

func roomyJob(j impl.Job) impl.Job {
	return impl.Job{Turns: roomyInts(j.Turns)}
}

func roomyWorkerArgs(x workerArgs) workerArgs {
	x.p, x.s.Program = roomyPathArgs(pathArgs{p: x.p}).p, roomyPathArgs(pathArgs{p: x.s.Program}).p
	x.x.Open = roomyList(x.x.Open, roomyJob, job(7, 7), job())
	x.x.Held = roomyList(x.x.Held, roomyJob, job(8), job(1))
	x.x.Busy = roomyList(x.x.Busy, func(busy bool) bool { return busy }, true, false, true)
	x.x.Done = roomyList(x.x.Done, roomyJob, job(9, 9), job(0))
	x.schedule = roomyInts(x.schedule)
	x.s.Tests = roomyList(x.s.Tests, roomyInts, []int{77}, nil)
	return x
}

// dumpWorkerArgs writes all arguments that have memory, with what is in spare capacity.
func dumpWorkerArgs(x workerArgs) string {
	parts := []string{dumpProgram(x.p), dumpInts(x.schedule), dumpProgram(x.s.Program), strconv.Itoa(x.x.Fuel), strconv.Itoa(x.s.Fuel)}
	for _, l := range [][]impl.Job{x.x.Open, x.x.Held, x.x.Done} {
		parts = append(parts, strconv.Itoa(len(l)))
		for _, j := range l[:cap(l)] {
			parts = append(parts, dumpInts(j.Turns))
		}
	}
	for _, busy := range x.x.Busy[:cap(x.x.Busy)] {
		parts = append(parts, strconv.FormatBool(busy))
	}
	parts = append(parts, strconv.Itoa(len(x.s.Tests)))
	for _, in := range x.s.Tests[:cap(x.s.Tests)] {
		parts = append(parts, dumpInts(in))
	}
	return strings.Join(parts, "; ")
}

func workerRegions(x workerArgs) []region {
	l := slices.Concat(regionOf(x.p.Code), regionOf(x.schedule), regionOf(x.s.Program.Code), regionOf(x.s.Tests), poolRegions(x.x))
	for _, in := range x.s.Tests[:cap(x.s.Tests)] {
		l = append(l, regionOf(in)...)
	}
	return l
}

func TestP11ArgumentsOfWorkersUnchanged(t *testing.T) {
	checkUnchanged(t, workerUses(), someWorkerArgs(400), roomyWorkerArgs, dumpWorkerArgs)
}

func TestP11ResultsOfWorkersAreNew(t *testing.T) {
	results := checkNew(t, workerUses(), someWorkerArgs(400), roomyWorkerArgs, dumpWorkerArgs, workerRegions)
	for _, use := range workerUses() {
		if results[use.name] < 20 && !slices.Contains([]string{"PoolOk", "FormatPool", "SessionOk", "RunScript"}, use.name) {
			t.Errorf("%s has only %d results", use.name, results[use.name])
		}
	}
}

// spoilPool writes over everything that a pool has.
func spoilPool(x impl.Pool) {
	for _, l := range [][]impl.Job{x.Open, x.Held, x.Done} {
		for _, j := range l {
			spoil(j.Turns, 77)
		}
		spoil(l, job(77))
	}
	spoil(x.Busy, true)
}

// TestP11ChangedResultsOfWorkers writes over results, and asks again.
func TestP11ChangedResultsOfWorkers(t *testing.T) {
	p := readProgram(t, sumProgram)
	x := readPool(t, "20|1 1|-, 1 0|0")
	done := readPool(t, "20||-|0, 1 1, 1 0")
	s := sessionOf(t, sumProgram, 20, "4, 0")
	for range 2 {
		first, _ := impl.NewPool(p, 2, 20)
		taken, _ := impl.TakeJob(p, x, 0)
		finished, _ := impl.FinishJob(p, x, 1)
		crashed, _ := impl.CrashWorker(p, x, 1)
		run := impl.RunPool(p, x, []int{0, 0, 1})
		read, _ := impl.ParsePool(p, "20 2|1 1;|1 0;|0")
		ends, _ := impl.PoolEnds(p, done)
		texts := []string{textOfPool(first), textOfPool(taken), textOfPool(finished), textOfPool(crashed), textOfPool(run), textOfPool(read), strconv.Itoa(len(ends)), textOfInts(ends[1].Turns)}
		want := []string{"20|.|-, -|", "20||1 1, 1 0|0", "20|1 1|-, -|0, 1 0", "20|1 0, 1 1|-, -|0", "20||-, -|0, 1 1, 1 0", "20|1 0, 1 1|-, -|0", "3", "1 0"}
		if !slices.Equal(texts, want) {
			t.Errorf("a changed result changes others: %q", texts)
		}
		for _, x := range []impl.Pool{first, taken, finished, crashed, run, read} {
			spoilPool(x)
		}
		for _, s := range ends {
			spoil(s.Turns, 77)
			spoil(s.Regs, impl.Term{})
		}
		sessions := []impl.Session{impl.NewSession()}
		outs := []string{}
		for _, line := range []string{"show", "load machine 2 1 0|halt|", "fuel 5", "test 5", "concolic 4", "cover", ""} {
			after, out, _ := impl.RunLine(s, line)
			sessions, outs = append(sessions, after), append(outs, out)
		}
		if got := strings.Join(outs, ", "); got != "machine "+sumProgram+"|, ok, ok, ok, 2, 6, " || textOfSession(sessions[0]) != "machine 4 1 1|halt|; 20; " {
			t.Errorf("a changed result changes others: %s", got)
		}
		for _, s := range sessions {
			for _, in := range s.Tests {
				spoil(in, 77)
			}
			spoil(s.Tests, []int{77})
			spoil(s.Program.Code, ins(99, 9, 9, 9))
		}
	}
	if textOfPool(x) != "20|1 1|-, 1 0|0" || textOfPool(done) != "20||-|0, 1 1, 1 0" || textOfSession(s) != "machine "+sumProgram+"|; 20; 4, 0" || textOfProgram(p) != textOfProgram(readProgram(t, sumProgram)) {
		t.Errorf("a changed result changes an argument: %s, %s, %s", textOfPool(x), textOfPool(done), textOfSession(s))
	}
}

// TestP11WorkersThatShareMemory has jobs that lie in one list, and tests that are one list.
func TestP11WorkersThatShareMemory(t *testing.T) {
	p := readProgram(t, sumProgram)
	turns := []int{1, 0, 1, 1, 0}
	jobs := []impl.Job{{Turns: turns[:1]}, {Turns: turns[:2]}, {Turns: turns[2:4]}, {Turns: turns[4:]}, {}}
	in := []int{5}
	x := workerArgs{
		p: p, x: impl.Pool{Fuel: 20, Open: jobs[:1], Held: jobs[3:5], Busy: []bool{true, false}, Done: jobs[1:3]}, w: 0, fuel: 20, schedule: turns, text: "20 2|1;|0;|1 0|1 1",
		s: impl.Session{Program: p, Fuel: 20, Tests: [][]int{in, in, in}}, line: "test 5",
	}
	before := dumpWorkerArgs(x)
	arguments := slices.Concat(regionOf(p.Code), regionOf(turns), regionOf(jobs), regionOf(in), regionOf(x.s.Tests), regionOf(x.x.Busy))
	session := "machine " + sumProgram + "|; 20; 5, 5, 5"
	for k, want := range []string{
		"true", "0|||false", "0|||false", "20|1|-, -|1 0, 1 1, 0true", "20|0, 1|-, -|1 0, 1 1true", "", "false", "20 2|1;|0;|1 0|1 1", "20|0, 1|-, -|1 0, 1 1true", "true", "", session + ", 5oktrue",
	} {
		use := workerUses()[k]
		result, text := use.call(x)
		if want != "" && text != want || dumpWorkerArgs(x) != before {
			t.Errorf("%s gives %s, and leaves %s", use.name, text, dumpWorkerArgs(x))
		}
		mustBeNew(t, use.name, result, arguments)
	}
	same := impl.Pool{Fuel: 20, Held: jobs[4:], Busy: []bool{false}, Done: jobs[1:4]}
	result, text := pathsUseOf(impl.PoolEnds(p, same))
	if !strings.HasSuffix(text, "true") {
		t.Errorf("PoolEnds gives %s", text)
	}
	mustBeNew(t, "PoolEnds", result, arguments)
}

func TestP11NilAndEmptyOfWorkers(t *testing.T) {
	p := readProgram(t, "3 1 0|halt")
	for _, none := range [][]int{nil, {}} {
		for _, empty := range [][]impl.Job{nil, {}} {
			start := impl.Pool{Fuel: 20, Open: []impl.Job{{Turns: none}}, Held: []impl.Job{{Turns: none}}, Busy: []bool{false}, Done: empty}
			busy := impl.Pool{Fuel: 20, Open: empty, Held: []impl.Job{{Turns: none}}, Busy: []bool{true}, Done: empty}
			done := impl.Pool{Fuel: 20, Open: empty, Held: []impl.Job{{Turns: none}}, Busy: []bool{false}, Done: []impl.Job{{Turns: none}}}
			taken, _ := impl.TakeJob(p, start, 0)
			finished, _ := impl.FinishJob(p, busy, 0)
			crashed, _ := impl.CrashWorker(p, busy, 0)
			ends, _ := impl.PoolEnds(p, done)
			got := []string{textOfPool(taken), textOfPool(finished), textOfPool(crashed), textOfPool(impl.RunPool(p, start, none)), textOfPool(impl.RunPool(p, start, []int{0, 0})), impl.FormatPool(p, start), impl.FormatPool(p, busy), impl.FormatPool(p, done), strconv.Itoa(len(ends))}
			want := []string{"20||.|", "20||-|.", "20|.|-|", "20|.|-|", "20||-|.", "20 1|;;", "20 1;|;", "20 1;;|", "1"}
			if !slices.Equal(got, want) {
				t.Errorf("jobs without turns give %q", got)
			}
			nothing := impl.Pool{Fuel: 20, Open: empty, Held: empty, Busy: []bool{}, Done: empty}
			if impl.PoolOk(p, nothing) || textOfPool(impl.RunPool(p, nothing, []int{0, -1})) != zeroPool {
				t.Error("a pool without workers is valid")
			}
		}
		for _, tests := range [][][]int{nil, {}, {none}, {none, none}} {
			s := impl.Session{Program: p, Fuel: 20, Tests: tests}
			for line, want := range map[string]string{"run": "halted", "cover": "", "smallest": "", "score": "0 of 0", "tests": "", "concolic": "1", "test": "ok", "": ""} {
				if _, out, ok := impl.RunLine(s, line); out != want || !ok {
					t.Errorf("RunLine of %s, %q gives %q, %v", textOfSession(s), line, out, ok)
				}
			}
		}
	}
}

func TestP11SameAnswersOfWorkers(t *testing.T) {
	args := someWorkerArgs(60)
	for _, program := range []string{levels10, deepProgram} {
		p := readProgram(t, program)
		x, _ := impl.NewPool(p, 4, 60)
		x = finished(p, x)
		args = append(args, workerArgs{p: p, x: x, w: 1, fuel: 60, schedule: []int{0, 1, -2, 3}, text: slowFormat(x), s: impl.Session{Program: p, Fuel: 60}, line: "concolic 3"})
	}
	checkSameAnswers(t, workerUses(), args)
}

func TestP11NoGoroutinesOfWorkersLeft(t *testing.T) {
	p := readProgram(t, levels10)
	x, _ := impl.NewPool(p, 4, 60)
	x = finished(p, x)
	good := workerArgs{p: p, x: x, w: 1, fuel: 60, schedule: []int{0, 1, -2, 3}, text: slowFormat(x), s: impl.Session{Program: p, Fuel: 60}, line: "concolic 3"}
	bad := good
	bad.x = changedPool(x, func(x *impl.Pool) { x.Done[0].Turns[0] = 2 })
	checkNoneLeft(t, workerUses(), []workerArgs{good, bad, {}})
}

func TestP11NoPanicOfWorkers(t *testing.T) {
	m := maker{state: 613}
	good := someWorkerArgs(24)
	bad := badPrograms()
	texts := oddTexts()
	for k, n := range oddInts {
		for j, x := range good {
			x.w, x.fuel, x.schedule = n, oddInts[(k+j)%len(oddInts)], []int{n, oddInts[(k+3*j)%len(oddInts)], n}
			x.x = m.oddPool(m.oddPool(x.x))
			x.text, x.line = texts[(k*len(good)+j)%len(texts)], texts[(k*len(good)+7*j)%len(texts)]
			switch j % 8 {
			case 0:
				x.p = bad[(k*len(good)+j)%len(bad)]
				x.s.Program = x.p
			case 1:
				x.x.Fuel, x.s.Fuel = n, n
			case 2:
				x.x.Open = append(x.x.Open, job(n, 1, n))
				x.s.Tests = append(x.s.Tests, []int{n})
			case 3:
				x.x.Held = slices.Repeat(x.x.Held, k%7)
				x.line = "fuel " + strconv.Itoa(n)
			case 4:
				x.x.Busy = slices.Repeat(x.x.Busy, k%7)
				x.line = "facts " + strconv.Itoa(n)
			case 5:
				x.x = impl.Pool{Fuel: 20, Busy: slices.Repeat([]bool{true}, k%7)}
				x.line = "safe " + strconv.Itoa(n)
			case 6:
				x.x.Done = append(x.x.Done, job(slices.Repeat([]int{1}, 1000)...))
				x.line = "concolic " + strconv.Itoa(n)
			case 7:
				x.text = strconv.Itoa(n) + " " + strconv.Itoa(n) + "|" + strconv.Itoa(n) + ";;"
				x.line = "test " + strconv.Itoa(n)
			}
			for _, use := range workerUses() {
				mustNot(t, use.name, func() { use.call(x) })
			}
		}
	}
}

// TestP11WorkersOfFarNumbers has arguments that are the least or the greatest int.
func TestP11WorkersOfFarNumbers(t *testing.T) {
	p := readProgram(t, sumProgram)
	x := readPool(t, "20|1|0, -|")
	for _, n := range []int{math.MinInt, math.MaxInt, math.MinInt + 1, math.MaxInt - 1} {
		for name, move := range map[string]poolMove{"TakeJob": impl.TakeJob, "FinishJob": impl.FinishJob, "CrashWorker": impl.CrashWorker} {
			got, ok := move(p, x, n)
			mustGivePool(t, name, n, got, ok, "")
		}
		got, ok := impl.NewPool(p, n, 20)
		mustGivePool(t, "NewPool", n, got, ok, "")
		got, ok = impl.NewPool(p, 2, n)
		mustGivePool(t, "NewPool", n, got, ok, "")
	}
}

// TestP11LongSchedules has schedules in which most steps fail.
func TestP11LongSchedules(t *testing.T) {
	p := readProgram(t, deepProgram)
	x, _ := impl.NewPool(p, 4, 20)
	x = finished(p, x)
	before := textOfPool(x)
	if got := textOfPool(impl.RunPool(p, x, slices.Repeat([]int{0, 1, 2, 3}, 25000))); got != before {
		t.Errorf("a full pool %s becomes %s", before, got)
	}
	// The workers take the same jobs again and again, and crash.
	x = readPool(t, "20|.|-, -|")
	if got := textOfPool(impl.RunPool(readProgram(t, sumProgram), x, slices.Repeat([]int{0, -1, 1, -2, -1}, 20000))); got != "20|.|-, -|" {
		t.Errorf("workers that crash leave %s", got)
	}
}
