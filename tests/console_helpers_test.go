package tests

import (
	"slices"
	"strconv"
	"strings"
	"testing"

	"loop.example/g03219/impl"
)

// textOfSession writes also sessions that are not valid.
func textOfSession(s impl.Session) string {
	return strings.ReplaceAll(textOfProgram(s.Program), "\n", "|") + "; " + strconv.Itoa(s.Fuel) + "; " + testsText(s.Tests)
}

const zeroSession = "machine 0 0 0|; 0; "

// sessionOf returns the session with a program (without the word machine), a fuel and tests.
func sessionOf(t *testing.T, program string, fuel int, tests string) impl.Session {
	t.Helper()
	return impl.Session{Program: readProgram(t, program), Fuel: fuel, Tests: readTests(t, tests)}
}

func copyOfSession(s impl.Session) impl.Session {
	s.Program = copyOfProgram(s.Program)
	s.Tests = slices.Clone(s.Tests)
	for k, in := range s.Tests {
		s.Tests[k] = slices.Clone(in)
	}
	return s
}

func changedSession(s impl.Session, f func(s *impl.Session)) impl.Session {
	s = copyOfSession(s)
	f(&s)
	return s
}

// badSessions are sessions that are not valid, each for one reason only.
func badSessions(t *testing.T) []impl.Session {
	good := sessionOf(t, sumProgram, 20, "4, 0, 5")
	l := []impl.Session{{}, {Program: good.Program}, {Fuel: 20}}
	for _, p := range badPrograms() {
		l = append(l, impl.Session{Program: p, Fuel: 20})
	}
	for _, n := range append([]int{0, 61, 400}, oddInts...) {
		if n < 1 || n > 60 {
			l = append(l, changedSession(good, func(s *impl.Session) { s.Fuel = n }))
		}
	}
	for _, tests := range badTests(good.Program) {
		l = append(l, impl.Session{Program: good.Program, Fuel: 20, Tests: tests})
	}
	for _, n := range []int{65, 66, 1000} {
		l = append(l, impl.Session{Program: good.Program, Fuel: 20, Tests: slices.Repeat([][]int{{1}}, n)})
	}
	return l
}

// wholeLines are said to be whole.
var wholeLines = []string{"show", "paths", "tests", "cover", "smallest", "score"}

// slowLine is RunLine of a valid session, by what the functions give.
func slowLine(s impl.Session, line string) (impl.Session, string) {
	words := slices.DeleteFunc(strings.Split(line, " "), func(word string) bool { return word == "" })
	if len(words) == 0 || words[0][0] == '#' {
		return s, ""
	}
	if slices.Contains(wholeLines, words[0]) {
		if line != words[0] {
			return s, "unknown command"
		}
		return s, slowWhole(s, line)
	}
	text := ""
	if k := strings.IndexByte(line, ' '); k >= 0 {
		text = line[k+1:]
	}
	ints, read := impl.ParseInts(text)
	in := read && impl.InputsOk(s.Program, ints)
	other, fine := impl.ParseProgram(strings.ReplaceAll(text, "|", "\n"))
	p := s.Program
	switch words[0] {
	case "load":
		if !fine {
			return s, "none"
		}
		return impl.Session{Program: other, Fuel: s.Fuel}, "ok"
	case "fuel":
		if !read || len(ints) != 1 || ints[0] < 1 || ints[0] > 60 {
			return s, "none"
		}
		return impl.Session{Program: p, Fuel: ints[0], Tests: s.Tests}, "ok"
	case "test":
		if !in || len(s.Tests) >= 64 {
			return s, "none"
		}
		return impl.Session{Program: p, Fuel: s.Fuel, Tests: append(slices.Clone(s.Tests), ints)}, "ok"
	case "concolic":
		tests, ok := impl.ConcolicTests(p, ints, s.Fuel, 64, 3000)
		if !read || !ok {
			return s, "none"
		}
		return impl.Session{Program: p, Fuel: s.Fuel, Tests: tests}, strconv.Itoa(len(tests))
	case "run":
		if !in {
			return s, "none"
		}
		last := impl.RunProgram(p, ints, s.Fuel)
		return s, strings.TrimSuffix(impl.CodeName(last.Code)+" "+textOfInts(last.Out), " ")
	case "simple", "solve":
		return s, slowTermLine(words[0], text)
	case "facts", "safe":
		if !read || len(ints) != 1 {
			return s, "none"
		}
		return s, slowLoopLine(s, words[0], ints[0])
	case "differ":
		code, test := impl.Differ(p, other, s.Fuel, 64, 3000)
		return s, []string{"none", textOfInts(test), "same", "open"}[code]
	}
	return s, "unknown command"
}

// slowWhole is the output of a whole line.
func slowWhole(s impl.Session, line string) string {
	p := s.Program
	switch line {
	case "show":
		return strings.Join(strings.Split(impl.FormatProgram(p), "\n"), "|")
	case "tests":
		tests, ok := impl.TestsOf(p, s.Fuel, 64, 3000)
		if !ok {
			return "none"
		}
		return testsText(tests)
	case "cover":
		return textOfInts(impl.CoverAll(p, s.Tests, s.Fuel))
	case "smallest":
		return textOfInts(impl.SmallestSuite(p, s.Tests, s.Fuel))
	case "score":
		score, all := impl.ScoreOf(p, s.Tests, s.Fuel)
		return strconv.Itoa(score) + " of " + strconv.Itoa(all)
	}
	var numbers []string
	for k := range 3 {
		ends, ok := []impl.Path(nil), false
		switch k {
		case 0:
			ends, ok = impl.Explore(p, s.Fuel, 64)
		case 1:
			ends, ok = impl.ExploreFeasible(p, s.Fuel, 64, 3000)
		case 2:
			ends, ok = impl.ExploreMerged(p, s.Fuel, 64)
		}
		number := "-"
		if ok {
			number = strconv.Itoa(len(ends))
		}
		numbers = append(numbers, number)
	}
	return strings.Join(numbers, " ")
}

// slowTermLine is the output of a line of a term.
func slowTermLine(word, text string) string {
	u, ok := impl.ParseTerm(text)
	if !ok || word == "solve" && u.W != 1 {
		return "none"
	}
	if word == "simple" {
		return impl.FormatTerm(impl.Simplify(u))
	}
	code, values := impl.SolveTerm(u, 3000)
	var texts []string
	for _, v := range values {
		texts = append(texts, v.Name+"="+strconv.Itoa(v.N))
	}
	switch {
	case code == impl.SatNo:
		return "no"
	case code == impl.SatOpen:
		return "open"
	case len(values) == 0:
		return "yes"
	}
	return strings.Join(texts, " ")
}

// slowLoopLine is the output of a line of facts.
func slowLoopLine(s impl.Session, word string, pc int) string {
	facts, ok := impl.InvariantsOf(s.Program, pc, s.Tests, s.Fuel, 64, 3000)
	if !ok {
		return "none"
	}
	if word == "safe" {
		return []string{"no", "yes"}[truth(impl.SafeChecks(s.Program, pc, facts, s.Fuel, 64, 3000))]
	}
	var texts []string
	for _, f := range facts {
		texts = append(texts, impl.FormatFact(s.Program, f))
	}
	return strings.Join(texts, ", ")
}

// shown is a program as the console writes it.
func shown(p impl.Program) string {
	return strings.ReplaceAll(textOfProgram(p), "\n", "|")
}

// line makes a line for a session; most of them are as they should be.
func (m *maker) line(s impl.Session, programs []impl.Program) string {
	inputs := textOfInts(m.inputs(s.Program))
	place := strconv.Itoa(m.below(len(s.Program.Code) + 2))
	line := ""
	switch m.below(12) {
	case 0:
		line = "load " + shown(programs[m.below(len(programs))])
	case 1:
		line = "fuel " + strconv.Itoa(m.below(64))
	case 2, 3:
		line = "test " + inputs
	case 4:
		line = "concolic " + inputs
	case 5:
		line = "run " + inputs
	case 6:
		line = []string{"simple ", "solve "}[m.below(2)] + textOf(m.term(1, m.below(4)))
	case 7:
		line = "facts " + place
	case 8:
		line = "safe " + place
	case 9:
		line = "differ " + shown(s.Program)
		for _, pair := range m.pairs([]impl.Program{s.Program}) {
			line = "differ " + shown(pair[1])
		}
	default:
		line = wholeLines[m.below(len(wholeLines))]
	}
	switch m.below(24) {
	case 0:
		line += " "
	case 1:
		line = " " + line
	case 2:
		line = strings.Replace(line, " ", "  ", 1)
	case 3:
		line += " 1"
	case 4:
		line, _, _ = strings.Cut(line, " ")
	case 5:
		line = "#" + line
	case 6:
		line = line[:m.below(len(line)+1)]
	}
	return line
}
