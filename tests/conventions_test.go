package tests

import (
	"math"
	"runtime"
	"slices"
	"strings"
	"sync"
	"testing"
	"time"

	"loop.example/g03219/impl"
)

// oddInts are ints near the edges of what functions of words may meet.
var oddInts = []int{
	math.MinInt, math.MinInt + 1, -1 << 32, -65536, -17, -16, -2, -1, 0, 1, 2, 3, 4, 8, 14, 15, 16, 17, 31, 63, 64,
	255, 32768, 65535, 65536, 1 << 32, 1 << 62, math.MaxInt - 1, math.MaxInt,
}

// oddTexts returns texts of arbitrary bytes; a fixed recurrence makes the longer ones, so that each run has the same.
func oddTexts() []string {
	l := []string{"", " ", "\n", "\x00", "\xff", "\xc3\x28", "\xed\xa0\x80", "a\x80b", strings.Repeat(" \n", 50), strings.Repeat("-", 300)}
	state := uint32(1)
	for n := range 400 {
		text := make([]byte, n%23)
		for i := range text {
			state = state*1664525 + 1013904223
			text[i] = byte(state >> 24)
			if n%2 == 0 {
				text[i] = " \n-0129az"[int(text[i])%9]
			}
		}
		l = append(l, string(text))
	}
	return l
}

// almostTexts returns parts of a text, and what it becomes if a byte goes, comes twice, or another one comes before, behind or in place of it.
func almostTexts(text, bytes string) []string {
	var l []string
	for i := range text {
		l = append(l, text[:i], text[i:], text[:i]+text[i+1:], text[:i+1]+text[i:])
		for j := range bytes {
			l = append(l, text[:i]+bytes[j:j+1]+text[i:], text[:i]+bytes[j:j+1]+text[i+1:], text+bytes[j:j+1])
		}
	}
	return l
}

// mustNot fails the test if f panics.
func mustNot(t *testing.T, label string, f func()) {
	t.Helper()
	defer func() {
		if r := recover(); r != nil {
			t.Errorf("%s panics: %v", label, r)
		}
	}()
	f()
}

func TestP11NoPanicOfWords(t *testing.T) {
	for _, a := range oddInts {
		for _, b := range oddInts {
			mustNot(t, "a function of two ints", func() {
				impl.WordOk(a, b)
				impl.WordOf(a, b)
				impl.SignedOf(a, b)
				impl.ResultWidth(a, b)
				impl.OpName(a)
				impl.FormatInts([]int{a, b})
			})
			for _, c := range oddInts {
				mustNot(t, "a function of three ints", func() {
					impl.ApplyUnary(a, b, c)
					impl.WidenWord(a, b, c, false)
					impl.WidenWord(a, b, c, true)
				})
				for _, d := range oddInts {
					mustNot(t, "a function of four ints", func() {
						impl.ApplyBinary(a, b, c, d)
						impl.CutWord(a, b, c, d)
						impl.JoinWords(a, b, c, d)
					})
				}
			}
		}
	}
}

// TestP11TextsAgree checks what functions of texts have to do with each other, for texts of arbitrary bytes.
func TestP11TextsAgree(t *testing.T) {
	for _, s := range oddTexts() {
		mustNot(t, "a function of texts", func() {
			impl.IsName(s)
			impl.OpOf(s)
			if n, ok := impl.ParseInt(s); ok && impl.FormatInt(n) != s || !ok && n != 0 {
				t.Errorf("ParseInt(%q) = %d, %v", s, n, ok)
			}
			if l, ok := impl.ParseInts(s); ok && impl.FormatInts(l) != s || !ok && len(l) != 0 {
				t.Errorf("ParseInts(%q) = %v, %v", s, l, ok)
			}
			words := impl.Words(s)
			if slices.Contains(words, "") || strings.Contains(strings.Join(words, ""), " ") || strings.Join(words, "") != strings.ReplaceAll(s, " ", "") {
				t.Errorf("Words(%q) = %q", s, words)
			}
			whole := s
			if s != "" && s[len(s)-1] != '\n' {
				whole += "\n"
			}
			back := ""
			for _, line := range impl.SplitLines(s) {
				back += line + "\n"
			}
			if back != whole {
				t.Errorf("SplitLines(%q) = %q", s, impl.SplitLines(s))
			}
		})
	}
}

// A use is a call of a function of a chapter with arguments for all of them: it returns the memory of the result, and the result as a text.
type use[T any] struct {
	name string
	call func(x T) ([]region, string)
}

// checkUnchanged fails the test if a call changes an argument, or what roomy puts into the spare capacity behind it. It checks also that the results are the same for the second time, and with other things in spare capacity.
func checkUnchanged[T any](t *testing.T, uses []use[T], args []T, roomy func(T) T, dump func(T) string) {
	t.Helper()
	for _, plain := range args {
		x := roomy(plain)
		before := dump(x)
		for _, use := range uses {
			_, first := use.call(x)
			_, second := use.call(x)
			_, third := use.call(plain)
			if after := dump(x); after != before {
				t.Fatalf("%s changes an argument: %.500s becomes %.500s", use.name, before, after)
			}
			if first != second || first != third {
				t.Errorf("%s gives %s, %s and %s", use.name, first, second, third)
			}
		}
	}
}

// checkNew fails the test if two lists of a result share memory, or one does with an argument. It counts for each function the results that have memory and whose text ends with true.
func checkNew[T any](t *testing.T, uses []use[T], args []T, roomy func(T) T, dump func(T) string, regions func(T) []region) map[string]int {
	t.Helper()
	results := map[string]int{}
	for _, plain := range args {
		x := roomy(plain)
		label, arguments := dump(x), regions(x)
		for _, use := range uses {
			result, text := use.call(x)
			mustBeNew(t, use.name+" of "+label[:min(len(label), 300)], result, arguments)
			results[use.name] += truth(len(result) > 0 && strings.HasSuffix(text, "true"))
		}
	}
	return results
}

// checkSameAnswers asks with several numbers of processors, and several goroutines at the same time.
func checkSameAnswers[T any](t *testing.T, uses []use[T], args []T) {
	t.Helper()
	answers := func() []string {
		var l []string
		for _, x := range args {
			for _, use := range uses {
				_, text := use.call(x)
				l = append(l, text)
			}
		}
		return l
	}
	want := answers()
	defer runtime.GOMAXPROCS(runtime.GOMAXPROCS(0))
	for _, processors := range []int{1, 2, 3, 16} {
		runtime.GOMAXPROCS(processors)
		if !slices.Equal(answers(), want) {
			t.Errorf("with %d processors there are other answers", processors)
		}
	}
	var callers sync.WaitGroup
	for range 4 {
		callers.Go(func() {
			if !slices.Equal(answers(), want) {
				t.Error("a caller among several gets other answers")
			}
		})
	}
	callers.Wait()
}

// checkNoneLeft checks that what a call has begun does not go on after it.
func checkNoneLeft[T any](t *testing.T, uses []use[T], args []T) {
	t.Helper()
	before := runtime.NumGoroutine()
	for range 5 {
		for _, use := range uses {
			for _, x := range args {
				use.call(x)
			}
		}
	}
	for range 1000 {
		if runtime.NumGoroutine() <= before {
			return
		}
		// One that has done all its work may take a moment to go.
		time.Sleep(time.Millisecond)
	}
	t.Errorf("there are %d goroutines, and %d were there before", runtime.NumGoroutine(), before)
}

func TestP11NilAndEmpty(t *testing.T) {
	if impl.Join(nil, "x") != impl.Join([]string{}, "x") || impl.FormatInts(nil) != impl.FormatInts([]int{}) {
		t.Error("a nil slice and an empty slice differ")
	}
	if l, ok := impl.ParseInts(""); len(l) != 0 || !ok {
		t.Errorf("ParseInts of the empty string = %v, %v", l, ok)
	}
}

func TestP11ArgumentsUnchanged(t *testing.T) {
	ints := []int{3, 1, 2, 70, 80}
	if got := impl.FormatInts(ints[:3]); got != "3 1 2" {
		t.Errorf("FormatInts of three integers with others behind them = %q", got)
	}
	if !slices.Equal(ints, []int{3, 1, 2, 70, 80}) {
		t.Errorf("FormatInts leaves %v", ints)
	}
	texts := []string{"b", "a", "c", "y", "z"}
	if got := impl.Join(texts[:3], "-"); got != "b-a-c" {
		t.Errorf("Join of three texts with others behind them = %q", got)
	}
	if !slices.Equal(texts, []string{"b", "a", "c", "y", "z"}) {
		t.Errorf("Join leaves %q", texts)
	}
}

// spoil overwrites a slice and the spare capacity behind it.
func spoil[T any](l []T, with T) {
	l = l[:cap(l)]
	for i := range l {
		l[i] = with
	}
}

func TestP11ResultsAreNew(t *testing.T) {
	first, _ := impl.ParseInts("1 2 3")
	second, _ := impl.ParseInts("1 2 3")
	spoil(first, 99)
	third, _ := impl.ParseInts("1 2 3")
	if want := []int{1, 2, 3}; !slices.Equal(second, want) || !slices.Equal(third, want) {
		t.Errorf("a changed result of ParseInts changes others: %v, %v", second, third)
	}
	splits := []func(string) []string{impl.Words, impl.SplitLines}
	for i, s := range []string{"a b c", "a\nb\nc\n"} {
		one, two := splits[i](s), splits[i](s)
		spoil(one, "spoilt")
		three := splits[i](s)
		if want := []string{"a", "b", "c"}; !slices.Equal(two, want) || !slices.Equal(three, want) {
			t.Errorf("a changed result for %q changes others: %q, %q", s, two, three)
		}
	}
}

func TestP11SameAnswerTwice(t *testing.T) {
	for range 3 {
		if impl.OpName(impl.OpSar) != "sar" || impl.OpOf("sar") != impl.OpSar || impl.ApplyBinary(impl.OpSub, 4, 3, 5) != 14 {
			t.Fatal("an answer depends on the calls before it")
		}
		impl.ApplyBinary(impl.OpAdd, 99, 1, 1)
		impl.OpOf("none")
	}
}
