package tests

import (
	"math"
	"regexp"
	"slices"
	"strconv"
	"strings"
	"testing"

	"loop.example/g03219/impl"
)

// job is the job with some turns.
func job(turns ...int) impl.Job {
	return impl.Job{Turns: turns}
}

// textOfJob writes the turns, and a dot where there are none.
func textOfJob(j impl.Job) string {
	if len(j.Turns) == 0 {
		return "."
	}
	return textOfInts(j.Turns)
}

func textOfJobs(l []impl.Job) string {
	var texts []string
	for _, j := range l {
		texts = append(texts, textOfJob(j))
	}
	return strings.Join(texts, ", ")
}

// textOfPool writes Fuel, Open, the workers (each with its job, or with - if it has none) and Done. It writes also pools that are not valid.
func textOfPool(x impl.Pool) string {
	var workers []string
	for w := range max(len(x.Held), len(x.Busy)) {
		text := ""
		switch {
		case w >= len(x.Busy):
			text = "not busy or idle: " + textOfJob(x.Held[w])
		case w >= len(x.Held):
			text = "nothing held: " + strconv.FormatBool(x.Busy[w])
		case x.Busy[w]:
			text = textOfJob(x.Held[w])
		case len(x.Held[w].Turns) == 0:
			text = "-"
		default:
			text = "idle: " + textOfJob(x.Held[w])
		}
		workers = append(workers, text)
	}
	return strings.Join([]string{strconv.Itoa(x.Fuel), textOfJobs(x.Open), strings.Join(workers, ", "), textOfJobs(x.Done)}, "|")
}

const zeroPool = "0|||"

func readJob(t *testing.T, s string) impl.Job {
	t.Helper()
	if s == "." {
		return job()
	}
	return impl.Job{Turns: readInts(t, s)}
}

func readJobs(t *testing.T, s string) []impl.Job {
	t.Helper()
	var l []impl.Job
	if s == "" {
		return nil
	}
	for _, text := range strings.Split(s, ", ") {
		l = append(l, readJob(t, text))
	}
	return l
}

// readPool returns the pool of a text as textOfPool writes it, if it has as many elements in Held as in Busy, and no jobs of idle workers.
func readPool(t *testing.T, s string) impl.Pool {
	t.Helper()
	parts := strings.Split(s, "|")
	x := impl.Pool{Fuel: readInts(t, parts[0])[0], Open: readJobs(t, parts[1]), Done: readJobs(t, parts[3])}
	for _, text := range strings.Split(parts[2], ", ") {
		held := job()
		if text != "-" {
			held = readJob(t, text)
		}
		x.Held, x.Busy = append(x.Held, held), append(x.Busy, text != "-")
	}
	return x
}

func copyOfJobs(l []impl.Job) []impl.Job {
	var out []impl.Job
	for _, j := range l {
		out = append(out, impl.Job{Turns: slices.Clone(j.Turns)})
	}
	return out
}

func copyOfPool(x impl.Pool) impl.Pool {
	return impl.Pool{Fuel: x.Fuel, Open: copyOfJobs(x.Open), Held: copyOfJobs(x.Held), Busy: slices.Clone(x.Busy), Done: copyOfJobs(x.Done)}
}

// changedPool returns a pool that is like another one, but for what f changes.
func changedPool(x impl.Pool, f func(x *impl.Pool)) impl.Pool {
	x = copyOfPool(x)
	f(&x)
	return x
}

// slowWith makes the steps of PathWith, word for word. It reports also whether the path stopped at a fork.
func slowWith(p impl.Program, turns []int, fuel int) (s impl.Path, forks bool, ok bool) {
	s = slowStartPath(p)
	for range fuel {
		next := slowPaths(p, s)
		switch {
		case len(next) == 0:
			return s, false, len(turns) == 0
		case len(next) == 1:
			s = next[0]
		case len(turns) == 0:
			return s, true, true
		case turns[0] == 1:
			s, turns = next[0], turns[1:]
		case turns[0] == 0:
			s, turns = next[1], turns[1:]
		default:
			return s, false, false
		}
	}
	return s, false, len(turns) == 0
}

// slowJobs are all jobs of a pool that has as many elements in Held as in Busy.
func slowJobs(x impl.Pool) []impl.Job {
	l := slices.Clone(x.Open)
	for w, busy := range x.Busy {
		if busy {
			l = append(l, x.Held[w])
		}
	}
	return append(l, x.Done...)
}

// slowPoolOk is PoolOk, word for word.
func slowPoolOk(p impl.Program, x impl.Pool) bool {
	if !impl.ProgramOk(p) || x.Fuel < 0 || x.Fuel > 400 || len(x.Busy) == 0 || len(x.Busy) > 4 || len(x.Held) != len(x.Busy) {
		return false
	}
	for w, busy := range x.Busy {
		if !busy && len(x.Held[w].Turns) != 0 {
			return false
		}
	}
	jobs := slowJobs(x)
	if len(jobs) > 64 {
		return false
	}
	seen := map[string]bool{}
	for k, j := range jobs {
		_, forks, ok := slowWith(p, j.Turns, x.Fuel)
		if !ok || seen[textOfInts(j.Turns)] || forks && k >= len(jobs)-len(x.Done) {
			return false
		}
		seen[textOfInts(j.Turns)] = true
	}
	return true
}

// slowTake, slowFinish and slowCrash do what the document says to a copy of a valid pool.
func slowTake(x impl.Pool, w int) (impl.Pool, bool) {
	if w < 0 || w >= len(x.Busy) || x.Busy[w] || len(x.Open) == 0 {
		return impl.Pool{}, false
	}
	return changedPool(x, func(x *impl.Pool) {
		x.Held[w], x.Busy[w] = x.Open[0], true
		x.Open = x.Open[1:]
	}), true
}

func slowFinish(p impl.Program, x impl.Pool, w int) (impl.Pool, bool) {
	if w < 0 || w >= len(x.Busy) || !x.Busy[w] {
		return impl.Pool{}, false
	}
	turns := x.Held[w].Turns
	_, forks, _ := slowWith(p, turns, x.Fuel)
	after := changedPool(x, func(x *impl.Pool) {
		x.Held[w], x.Busy[w] = job(), false
		if forks {
			x.Open = append(x.Open, job(append(slices.Clone(turns), 1)...), job(append(slices.Clone(turns), 0)...))
		} else {
			x.Done = append(x.Done, job(turns...))
		}
	})
	if !slowPoolOk(p, after) {
		return impl.Pool{}, false
	}
	return after, true
}

func slowCrash(x impl.Pool, w int) (impl.Pool, bool) {
	if w < 0 || w >= len(x.Busy) || !x.Busy[w] {
		return impl.Pool{}, false
	}
	return changedPool(x, func(x *impl.Pool) {
		x.Open = append([]impl.Job{x.Held[w]}, x.Open...)
		x.Held[w], x.Busy[w] = job(), false
	}), true
}

// slowRun is RunPool of a valid pool.
func slowRun(p impl.Program, x impl.Pool, schedule []int) impl.Pool {
	for _, k := range schedule {
		n := len(x.Busy)
		var after impl.Pool
		var ok bool
		switch {
		case k < 0:
			// -(k + 1) modulo n is n - 1 - (k modulo n).
			after, ok = slowCrash(x, n-1-modulo(k, n))
		case x.Busy[modulo(k, n)]:
			after, ok = slowFinish(p, x, modulo(k, n))
		default:
			after, ok = slowTake(x, modulo(k, n))
		}
		if ok {
			x = after
		}
	}
	return x
}

// slowEnds is PoolEnds of a valid pool.
func slowEnds(p impl.Program, x impl.Pool) ([]impl.Path, bool) {
	if len(x.Open) > 0 || slices.Contains(x.Busy, true) {
		return nil, false
	}
	done := slices.Clone(x.Done)
	for k := range done {
		for j := k; j > 0 && before(done[j].Turns, done[j-1].Turns); j-- {
			done[j], done[j-1] = done[j-1], done[j]
		}
	}
	var l []impl.Path
	for _, j := range done {
		s, _, _ := slowWith(p, j.Turns, x.Fuel)
		l = append(l, s)
	}
	return l, true
}

// before reports whether a list of turns has 1 at the first difference to another one.
func before(a, b []int) bool {
	for k := range min(len(a), len(b)) {
		if a[k] != b[k] {
			return a[k] == 1
		}
	}
	return false
}

// slowFormat is FormatPool of a valid pool.
func slowFormat(x impl.Pool) string {
	s := strconv.Itoa(x.Fuel) + " " + strconv.Itoa(len(x.Busy))
	for _, j := range x.Open {
		s += "|" + textOfInts(j.Turns)
	}
	s += ";"
	for w, j := range x.Held {
		if x.Busy[w] {
			s += "|" + textOfInts(j.Turns)
		}
	}
	s += ";"
	for _, j := range x.Done {
		s += "|" + textOfInts(j.Turns)
	}
	return s
}

// poolText matches what can be the FormatPool of a pool, as far as it can be seen without a program.
var poolText = regexp.MustCompile(`^(0|[1-9][0-9]{0,2}) ([1-4])((?:\|(?:[01](?: [01])*)?)*);((?:\|(?:[01](?: [01])*)?)*);((?:\|(?:[01](?: [01])*)?)*)$`)

// slowParse is ParsePool.
func slowParse(p impl.Program, s string) (impl.Pool, bool) {
	parts := poolText.FindStringSubmatch(s)
	if parts == nil {
		return impl.Pool{}, false
	}
	jobs := func(s string) []impl.Job {
		var l []impl.Job
		for _, text := range strings.Split(s, "|")[1:] {
			var turns []int
			for _, digit := range strings.Fields(text) {
				turns = append(turns, int(digit[0]-'0'))
			}
			l = append(l, job(turns...))
		}
		return l
	}
	fuel, _ := strconv.Atoi(parts[1])
	workers, _ := strconv.Atoi(parts[2])
	open, held, done := jobs(parts[3]), jobs(parts[4]), jobs(parts[5])
	x := impl.Pool{Fuel: fuel, Open: append(held, open...), Held: make([]impl.Job, workers), Busy: make([]bool, workers), Done: done}
	if len(held) > workers || !slowPoolOk(p, x) {
		return impl.Pool{}, false
	}
	return x, true
}

// schedule makes elements of a schedule for RunPool, of which some are crashes and some far from 0.
func (m *maker) schedule(n int) []int {
	var l []int
	for range n {
		switch kind := m.below(12); {
		case kind < 8:
			l = append(l, m.below(5))
		case kind < 10:
			l = append(l, -1-m.below(5))
		case kind == 10:
			l = append(l, []int{math.MaxInt, math.MaxInt - 1, 1 << 40, 1001}[m.below(4)])
		default:
			l = append(l, []int{math.MinInt, math.MinInt + 1, -1 << 40, -1001}[m.below(4)])
		}
	}
	return l
}

// pool makes a pool as workers leave it.
func (m *maker) pool(p impl.Program) impl.Pool {
	n, fuel := 1+m.below(4), 10+m.below(50)
	x := impl.Pool{Fuel: fuel, Open: []impl.Job{job()}, Held: make([]impl.Job, n), Busy: make([]bool, n)}
	return slowRun(p, x, m.schedule(m.below(40)))
}

// badPools are pools that are not valid for sumProgram, each of which has only one thing that is not as it should be.
func badPools(t *testing.T) map[string]impl.Pool {
	good := readPool(t, "20|1 0|., -|0")
	fork := readPool(t, "20|., 0|-|1 1, 1 0")
	bad := map[string]impl.Pool{
		"no workers":        {Fuel: 20, Open: []impl.Job{job()}},
		"too many workers":  readPool(t, "20|.|-, -, -, -, -|"),
		"an idle Held":      changedPool(good, func(x *impl.Pool) { x.Held[1] = job(1) }),
		"a longer Held":     changedPool(good, func(x *impl.Pool) { x.Held = append(x.Held, job()) }),
		"a longer Busy":     changedPool(good, func(x *impl.Pool) { x.Busy = append(x.Busy, false) }),
		"no Held":           changedPool(good, func(x *impl.Pool) { x.Held = nil }),
		"no Busy":           changedPool(good, func(x *impl.Pool) { x.Busy = nil }),
		"twice Open":        readPool(t, "20|., 0, .|-, -|"),
		"twice held":        readPool(t, "20||., 0, .|"),
		"twice Done":        readPool(t, "20|.|-, -|0, 1 1, 0"),
		"Open and held":     readPool(t, "20|., 0|1, .|"),
		"Open and Done":     readPool(t, "20|., 0|-, -|1 1, 0"),
		"held and Done":     readPool(t, "20|.|0, -|1 1, 0"),
		"a fork Done":       readPool(t, "20|0|-, -|1 1, 1"),
		"the start Done":    readPool(t, "20|0|-, -|."),
		"too long Open":     readPool(t, "20|., 0 1|-, -|"),
		"too long held":     readPool(t, "20|.|-, 1 1 0|"),
		"too long Done":     readPool(t, "20|.|-, -|0 0"),
		"too much for fuel": changedPool(fork, func(x *impl.Pool) { x.Fuel = 3 }),
	}
	for _, n := range oddInts {
		if n < 0 || n > 400 {
			bad["fuel "+strconv.Itoa(n)] = changedPool(good, func(x *impl.Pool) { x.Fuel = n })
		}
		if n != 0 && n != 1 {
			bad["open turn "+strconv.Itoa(n)] = changedPool(good, func(x *impl.Pool) { x.Open[0].Turns[1] = n })
			bad["held turn "+strconv.Itoa(n)] = changedPool(good, func(x *impl.Pool) { x.Held[0].Turns = []int{n} })
			bad["done turn "+strconv.Itoa(n)] = changedPool(good, func(x *impl.Pool) { x.Done[0].Turns[0] = n })
			bad["idle turn "+strconv.Itoa(n)] = changedPool(good, func(x *impl.Pool) { x.Held[1].Turns = []int{n} })
		}
	}
	return bad
}
