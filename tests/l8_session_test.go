package tests

import (
	"fmt"
	"math/rand"
	"regexp"
	"slices"
	"strconv"
	"strings"
	"sync"
	"testing"

	"loop.example/dragonnumbers/impl"
)

var (
	restWords = []string{"set", "add", "times", "gauss", "place", "crease", "turn", "tile"}
	bareWords = []string{"negate", "next", "show", "value", "end", "corners", "sum"}

	numberShape = regexp.MustCompile(`^-?[0-9]{1,3}$`)
)

// The following ones run scripts apart from the program, with what the tests of the earlier chapters calculate.

type wantedSession struct{ digits, creases string }

func wantedExecute(text string) string {
	if len(text) > 500 {
		return "too long\n"
	}
	s := wantedSession{digits: "0", creases: "l"}
	output := ""
	for strings.Contains(text, "\n") {
		at := strings.IndexByte(text, '\n')
		output += s.line(text[:at]) + "\n"
		text = text[at+1:]
	}
	return output + fmt.Sprintf("digits %d\n", len(s.digits))
}

func (s *wantedSession) line(line string) string {
	for _, word := range restWords {
		if strings.HasPrefix(line, word+" ") {
			return s.lineWithRest(word, line[len(word)+1:])
		}
	}
	points := wantedCurve(wantedWord(s.creases))
	switch line {
	case "negate":
		return s.become(wantedTimes(s.digits, "11101"))
	case "next":
		index, _ := strconv.ParseUint(s.digits, 2, 64)
		next := strconv.FormatUint(index+1, 2)
		return s.become(next, len(next) <= 50)
	case "show":
		return s.digits
	case "value":
		if z := valueOf(s.digits); isSmall(z) {
			return fmt.Sprintf("%d %d", z.Re, z.Im)
		}
		return "no"
	case "end":
		z := gaussOf(points[len(points)-1])
		return fmt.Sprintf("%d %d", z.Re, z.Im)
	case "corners":
		count, most := wantedCorners(points)
		return fmt.Sprintf("%d %d", count, most)
	case "sum":
		return fmt.Sprintf("%08x", wantedChecksum(points))
	}
	return "what"
}

func (s *wantedSession) lineWithRest(word, rest string) string {
	switch word {
	case "set":
		return s.become(rest, isExpansion(rest))
	case "add":
		if !isExpansion(rest) {
			return "no"
		}
		return s.become(fitting(plus(valueOf(s.digits), valueOf(rest))))
	case "times":
		if !isExpansion(rest) {
			return "no"
		}
		return s.become(wantedTimes(s.digits, rest))
	case "crease":
		if !isWord(rest) || len(rest) < 1 || len(rest) > 10 {
			return "no"
		}
		s.creases = rest
		return "ok"
	}
	var numbers []int
	for _, text := range strings.Split(rest, " ") {
		n, _ := strconv.Atoi(text)
		numbers = append(numbers, n)
		if !numberShape.MatchString(text) {
			return "no"
		}
	}
	return s.lineWithNumbers(word, numbers)
}

func (s *wantedSession) lineWithNumbers(word string, numbers []int) string {
	n, count := numbers[0], len(numbers)
	switch {
	case word == "gauss" && count == 2:
		return s.become(fitting(gauss{Re: n, Im: numbers[1]}))
	case word == "place" && count == 1 && n >= 0 && n <= 320:
		return wantedPlace(n)
	case word == "turn" && count == 1 && n >= 1 && n <= len(wantedWord(s.creases)):
		return wantedWord(s.creases)[n-1 : n]
	case word == "tile" && count == 1 && n >= 0 && n <= 8:
		return strings.Join(wantedShape(n), "\n")
	}
	return "no"
}

func (s *wantedSession) become(digits string, ok bool) string {
	if !ok {
		return "no"
	}
	s.digits = digits
	return "ok"
}

// wantedPlace counts the parts of a power that are less than the smallest normal float32; what is less than the smallest of all is none.
func wantedPlace(k int) string {
	z := complex128(1)
	for range k {
		z = rounding(toSingle).divided(z)
	}
	count := 0
	for _, part := range []float64{real(z), imag(z)} {
		if part != 0 && part > -0x1p-126 && part < 0x1p-126 {
			count++
		}
	}
	if z == wantedPower(k) {
		return fmt.Sprintf("%d same", count)
	}
	return fmt.Sprintf("%d other", count)
}

func script(lines ...string) string {
	return strings.Join(lines, "\n") + "\n"
}

// checkOutput checks the output of a script against what is written in the test.
func checkOutput(t *testing.T, text string, want ...string) {
	t.Helper()
	if output := impl.Execute(text); output != script(want...) {
		t.Fatalf("Execute of %.600q returned %.600q instead of %.600q", text, output, script(want...))
	}
}

// checkScript checks the output of a script against the other way to run it.
func checkScript(t *testing.T, text string) string {
	t.Helper()
	output := impl.Execute(text)
	if want := wantedExecute(text); output != want {
		t.Fatalf("Execute of %.600q returned %.600q instead of %.600q", text, output, want)
	}
	return output
}

// stateLines tell all that a session keeps.
var stateLines = []string{"show", "value", "end", "corners", "sum"}

// checkFails checks that a line has an output and changes nothing, in some states.
func checkFails(t *testing.T, line, want string) {
	t.Helper()
	for _, state := range [][]string{nil, {"set 1101", "crease lrl"}, {"set " + ones(50), "crease rrrrrrrrrr"}} {
		before := script(append(slices.Clone(state), stateLines...)...)
		after := script(append(append(slices.Clone(state), line), stateLines...)...)
		if len(after) > 500 {
			t.Fatalf("the line %q is too long for this test", line)
		}
		kept := impl.Execute(before)
		cut := strings.Repeat("ok\n", len(state))
		if output := impl.Execute(after); output != cut+want+"\n"+strings.TrimPrefix(kept, cut) {
			t.Fatalf("Execute of %.600q returned %.600q", after, output)
		}
	}
}

// randomRest has rests of all kinds, valid ones for each word among them.
func randomRest(random *rand.Rand) string {
	switch random.Intn(12) {
	case 0, 1, 2:
		return strconv.FormatInt(random.Int63n(1<<random.Intn(51)), 2)
	case 3:
		return strconv.Itoa(random.Intn(10))
	case 4, 5:
		return strconv.Itoa(random.Intn(2101) - 1050)
	case 6, 7:
		return fmt.Sprintf("%d %d", random.Intn(2001)-1000, random.Intn(2001)-1000)
	case 8, 9:
		return randomLetters(random, random.Intn(12))
	case 10:
		return fmt.Sprintf("%0*d", 1+random.Intn(4), random.Intn(9))
	}
	return []string{"", " ", "1 ", " 1", "x", "\xff", "-", "--1", "+1", "-0", "1  2", "1 2 3", "0.1", "01", "L", "\r", "\x00", "é"}[random.Intn(18)]
}

func randomLine(random *rand.Rand) string {
	line := ""
	if n := random.Intn(len(restWords) + len(bareWords)); n < len(restWords) {
		line = restWords[n] + " " + randomRest(random)
	} else {
		line = bareWords[n-len(restWords)]
	}
	switch random.Intn(30) {
	case 0:
		return line + " "
	case 1:
		return " " + line
	case 2:
		return strings.Replace(line, " ", "", 1)
	case 3:
		return strings.ToUpper(line)
	case 4:
		return line + "\r"
	}
	return line
}

// randomScript has complete lines in at most so many bytes.
func randomScript(random *rand.Rand, most int) string {
	text := ""
	for {
		line := randomLine(random) + "\n"
		if len(text)+len(line) > most {
			return text
		}
		text += line
	}
}

// scripts has scripts of complete lines with room for 10 bytes.
func scripts() []string {
	random := rand.New(rand.NewSource(61))
	list := []string{"", "\n", "\n\n\n", " \n", "show\n", "zzz\n", "set 1101\n", "set " + ones(50) + "\n", "set 1\ncrease rl\nadd 1\nnext\n", "\xff\n", "\x00\n", strings.Repeat("\n", 490), strings.Repeat("next\n", 98), strings.Repeat("x", 489) + "\n"}
	for k := range 120 {
		list = append(list, randomScript(random, 4*k), randomScript(random, 490))
	}
	for i, text := range list {
		list[i] = text[:strings.LastIndex(text[:min(len(text), 490)], "\n")+1]
	}
	return list
}

func TestPromise61WhatFollowsTheLastNewline(t *testing.T) {
	checkOutput(t, "", "digits 1")
	for _, text := range scripts() {
		output := checkScript(t, text)
		if !strings.HasSuffix(output, "\n") || strings.Count(output, "\n") <= strings.Count(text, "\n") {
			t.Fatalf("Execute of %q returned %q", text, output)
		}
		for _, tail := range []string{"x", "show", "set 1", "crease r", "zzz", " ", "\r", "\x00", "\xff\xfe", "next ", strings.Repeat("x", 500-len(text)), strings.Repeat("\xff", 500-len(text))} {
			if with := impl.Execute(text + tail); with != output {
				t.Fatalf("Execute of %q with %q behind returned %q instead of %q", text, tail, with, output)
			}
		}
	}
}

// lastLine takes the last line of an output away, which is returned, too.
func lastLine(output string) (string, string) {
	at := strings.LastIndex(strings.TrimSuffix(output, "\n"), "\n") + 1
	return output[:at], output[at:]
}

func TestPromise62LinesThatFail(t *testing.T) {
	for _, text := range scripts() {
		ahead, last := lastLine(impl.Execute(text))
		if output := impl.Execute(text + "zzz\nset 2\n"); output != ahead+"what\nno\n"+last {
			t.Fatalf("Execute of %q with both lines behind returned %q", text, output)
		}
	}
}

func TestPromise63ShowTwice(t *testing.T) {
	for _, text := range scripts() {
		ahead, last := lastLine(impl.Execute(text))
		output := impl.Execute(text + "show\nshow\n")
		shown := strings.TrimSuffix(strings.TrimPrefix(output, ahead), last)
		first, second, _ := strings.Cut(shown, "\n")
		if output != ahead+first+"\n"+first+"\n"+last || second != first+"\n" || last != fmt.Sprintf("digits %d\n", len(first)) || !isExpansion(first) {
			t.Fatalf("Execute of %q with show behind returned %q", text, output)
		}
	}
}

func TestPromise64SetAndAdd(t *testing.T) {
	list := append(shortOnes(4), longOnes()...)
	sums, fails := 0, 0
	for _, a := range list {
		for _, b := range list {
			text := script("set "+a, "add "+b, "show")
			if sum, ok := impl.DigitsAdd(a, b); ok {
				checkOutput(t, text, "ok", "ok", sum, "digits "+strconv.Itoa(len(sum)))
				sums++
			} else {
				checkOutput(t, text, "ok", "no", a, "digits "+strconv.Itoa(len(a)))
				fails++
			}
		}
	}
	if sums == 0 || fails == 0 {
		t.Errorf("%d sums succeed, %d fail", sums, fails)
	}
}

func TestPromise65Place(t *testing.T) {
	for k := range 321 {
		z, ok := impl.PowerSingle(k)
		likeness := "same"
		if k >= 299 {
			likeness = "other"
		}
		want := fmt.Sprintf("%d %s", impl.PartsSmall(z), likeness)
		if !ok || want != wantedPlace(k) {
			t.Fatalf("PowerSingle of %d returned %v, %v", k, z, ok)
		}
		for _, number := range []string{strconv.Itoa(k), fmt.Sprintf("%02d", k), fmt.Sprintf("%03d", k)} {
			checkOutput(t, "place "+number+"\n", want, "digits 1")
		}
	}
}

func TestPromise66CreaseAndEnd(t *testing.T) {
	for _, creases := range allCreases(10)[1:] {
		z, ok := impl.CurveEnd(creases)
		if !ok {
			t.Fatalf("CurveEnd of %q fails", creases)
		}
		checkOutput(t, script("crease "+creases, "end"), "ok", fmt.Sprintf("%d %d", int(real(z)), int(imag(z))), "digits 1")
	}
}

func TestMaxScript(t *testing.T) {
	if impl.MaxScript != 500 {
		t.Errorf("MaxScript is %d", impl.MaxScript)
	}
	checkOutput(t, strings.Repeat("\n", 500), append(slices.Repeat([]string{"what"}, 500), "digits 1")...)
	checkOutput(t, strings.Repeat("next\n", 100), append(slices.Repeat([]string{"ok"}, 100), "digits 7")...)
	checkOutput(t, strings.Repeat("x", 500), "digits 1")
	checkOutput(t, strings.Repeat("x", 499)+"\n", "what", "digits 1")
	checkOutput(t, "set "+ones(495)+"\n", "no", "digits 1")
	checkOutput(t, "set 11\n"+strings.Repeat(" ", 493), "ok", "digits 2")
	// The limit is one of bytes, not of letters.
	checkOutput(t, strings.Repeat("é", 250), "digits 1")
	for _, text := range []string{strings.Repeat("\n", 501), strings.Repeat("x", 501), "set 1\n" + strings.Repeat("x", 495), strings.Repeat("next\n", 100) + "x", strings.Repeat("next\n", 100) + "\n", strings.Repeat("é", 251), strings.Repeat("x", 500) + "\n"} {
		checkOutput(t, text, "too long")
	}
}

func TestLastLineWithoutNewline(t *testing.T) {
	checkOutput(t, "show", "digits 1")
	checkOutput(t, "set 11", "digits 1")
	checkOutput(t, "set 11\nset 1101", "ok", "digits 2")
	checkOutput(t, "set 11\nshow\nshow", "ok", "11", "digits 2")
	checkOutput(t, "zzz", "digits 1")
	checkOutput(t, " ", "digits 1")
	checkOutput(t, "\n ", "what", "digits 1")
	checkOutput(t, "\nset 101\n\n\nset 1", "what", "ok", "what", "what", "digits 3")
}

func TestOtherLines(t *testing.T) {
	lines := []string{"", " ", "  ", "\t", "\r", "\x00", "\xff", "é", "zzz", "zzz 1", "Show", "SHOW", "showx", "sho", "s", "show\r", "show\t", "\x00show", "set\t1", "set\u00a01", "set=1", "set1", "set\r", "seté", "\xffset 1", "add1", "settle 1", "se t 1", "too long", "digits", "digits 1", "no", "what", "ok", "quit", "help", "end\x00", "place\x00 1", "next1", "execute", "show show"}
	for _, word := range append(slices.Clone(restWords), bareWords...) {
		lines = append(lines, strings.ToUpper(word), strings.ToUpper(word)+" 1", strings.ToUpper(word[:1])+word[1:], strings.ToUpper(word[:1])+word[1:]+" 1", word[:len(word)-1]+strings.ToUpper(word[len(word)-1:])+" l")
		lines = append(lines, " "+word, "  "+word, " "+word+" 1", word+word, word+word+" 1", word+"s", word+"s 1", word[1:], word[1:]+" 1", word[:len(word)-1]+"\xff", word+"\xff 1", word+"-1", word+"\t1", word+"\x00", word+"\x00 1")
	}
	for _, line := range lines {
		checkFails(t, line, "what")
	}
}

func TestLinesWithoutARestThatIsTold(t *testing.T) {
	for _, word := range restWords {
		checkFails(t, word, "what")
	}
}

func TestLinesWithARestThatIsNotTold(t *testing.T) {
	for _, word := range bareWords {
		for _, rest := range []string{"", " ", "1", "0", "11", "l", "1 1", word, "\x00", "\xff", "-0", "\r"} {
			checkFails(t, word+" "+rest, "what")
		}
	}
}

// An empty rest, two spaces, a space behind the rest and other rests of no word fail, but are no other lines.
func TestRestsThatFail(t *testing.T) {
	for _, word := range restWords {
		for _, rest := range []string{"", " ", "  ", "   ", " 1", "1 ", " l", "l ", " 0", "0 ", "1\r", "l\r", "\t1", "1\t", "x", "\x00", "\xff", "1\x00", "l\x00", "1\xff", "é", "lé", "1é", "0x1", "1e2", "1_0", "1.0", "1,0", "\u0661", "\uff11", "-", "--1", "+1", "1 2 3", "1 2 ", " 1 2", "1  2", word, word + " 1", "show"} {
			checkFails(t, word+" "+rest, "no")
		}
	}
}

func TestSet(t *testing.T) {
	for _, s := range expansions() {
		checkOutput(t, script("set "+s, "show"), "ok", s, "digits "+strconv.Itoa(len(s)))
		checkOutput(t, script("set 1011", "set "+s, "set 1"+s+"x", "show"), "ok", "ok", "no", s, "digits "+strconv.Itoa(len(s)))
	}
	for _, s := range noExpansions() {
		if len(s) < 130 && !strings.Contains(s, "\n") {
			checkFails(t, "set "+s, "no")
		}
	}
}

func TestSumsAndProducts(t *testing.T) {
	checkOutput(t, script("add 1", "show", "add 1", "show", "add 11101", "show", "times 1100", "show", "times 0", "show"), "ok", "1", "ok", "1100", "ok", "1", "ok", "1100", "ok", "0", "digits 1")
	checkOutput(t, script("set 11", "add 111", "show", "set 111", "add 11", "show"), "ok", "ok", "0", "ok", "ok", "0", "digits 1")
	checkOutput(t, script("times 1", "show", "times "+ones(50), "show", "set 1", "times "+ones(50), "show"), "ok", "0", "ok", "0", "ok", "ok", ones(50), "digits 50")
	// A product that is not too long, but for a sum on the way.
	checkOutput(t, script("set 10", "times 1"+zeros(48), "times 10", "times 1", "show"), "ok", "ok", "no", "ok", "1"+zeros(49), "digits 50")
	for _, s := range noExpansions() {
		if len(s) < 130 && !strings.Contains(s, "\n") {
			checkFails(t, "add "+s, "no")
			checkFails(t, "times "+s, "no")
		}
	}
	list := append(shortOnes(3), longOnes()...)
	random := rand.New(rand.NewSource(8))
	for _, a := range list {
		for _, b := range []string{"0", "1", "10", "11", "11101", ones(50), "1" + zeros(49), list[random.Intn(len(list))], list[random.Intn(len(list))]} {
			checkScript(t, script("set "+a, "add "+b, "show", "add "+b, "show", "value"))
			checkScript(t, script("set "+a, "times "+b, "show", "times "+b, "show", "value"))
		}
	}
}

// Sums and products of 50 digits that fail leave what was ahead of them.
func TestSumsAndProductsThatFail(t *testing.T) {
	for _, line := range []string{"add 1" + zeros(49), "times 10", "times 1100", "times 11101", "times 1" + zeros(49), "negate"} {
		checkOutput(t, script("set 1"+zeros(49), "crease rl", line, "show", "end"), "ok", "ok", "no", "1"+zeros(49), "2 0", "digits 50")
	}
	for _, line := range []string{"next", "times 10", "add " + ones(50)} {
		if want := wantedExecute(script("set "+ones(50), line, "show")); want != script("ok", "no", ones(50), "digits 50") {
			t.Fatalf("%q is no line that fails: %q", line, want)
		}
		checkOutput(t, script("set "+ones(50), line, "show"), "ok", "no", ones(50), "digits 50")
	}
}

func TestNegateAndNext(t *testing.T) {
	checkOutput(t, script("negate", "show", "next", "show", "negate", "show", "negate", "show"), "ok", "0", "ok", "1", "ok", "11101", "ok", "1", "digits 1")
	checkOutput(t, script("next", "next", "show", "next", "show", "next", "show"), "ok", "ok", "10", "ok", "11", "ok", "100", "digits 3")
	checkOutput(t, script("set "+ones(49), "next", "show", "next", "show"), "ok", "ok", "1"+zeros(49), "ok", "1"+zeros(48)+"1", "digits 50")
	checkOutput(t, script("set "+ones(50), "next", "show", "negate", "show"), "ok", "no", ones(50), "no", ones(50), "digits 50")
	checkOutput(t, script("set "+ones(49)+"0", "next", "next", "show"), "ok", "ok", "no", ones(50), "digits 50")
	fails := 0
	for _, s := range expansions() {
		output := checkScript(t, script("set "+s, "negate", "show", "negate", "show", "next", "show", "negate", "show"))
		if strings.HasPrefix(output, "ok\nno\n"+s+"\n") {
			fails++
		}
	}
	if fails == 0 {
		t.Error("negate never fails")
	}
}

func TestGauss(t *testing.T) {
	checkOutput(t, script("gauss -1 0", "show", "gauss 0 1", "show", "gauss 2 0", "show", "gauss 0 0", "show"), "ok", "11101", "ok", "11", "ok", "1100", "ok", "0", "digits 1")
	parts := []int{-999, -998, -512, -100, -99, -10, -9, -2, -1, 0, 1, 2, 9, 10, 99, 100, 512, 998, 999}
	for _, re := range parts {
		for _, im := range parts {
			s := expansionOf(gauss{Re: re, Im: im})
			checkOutput(t, script(fmt.Sprintf("gauss %d %d", re, im), "show", "value"), "ok", s, fmt.Sprintf("%d %d", re, im), "digits "+strconv.Itoa(len(s)))
		}
	}
	for _, line := range []string{"gauss 007 -08", "gauss 7 -008", "gauss 07 -8"} {
		checkOutput(t, script(line, "value"), "ok", "7 -8", "digits "+strconv.Itoa(len(expansionOf(gauss{Re: 7, Im: -8}))))
	}
	for _, line := range []string{"gauss -0 -0", "gauss 000 -000", "gauss -00 0", "gauss 0 -0"} {
		checkOutput(t, script("next", line, "show", "value"), "ok", "ok", "0", "0 0", "digits 1")
	}
	for _, rest := range []string{"", "1", "-1", " ", "1 ", " 1", "1  2", " 1 2", "1 2 ", "1 2 3", "1 2 3 4", "1000 0", "0 1000", "-1000 0", "0 -1000", "0001 1", "1 0001", "-0001 1", "1 -0001", "0000 0000", "+1 2", "1 +2", "--1 2", "1 --2", "- 2", "1 -", "1 - 2", "- -", "1,2", "1\t2", "1 2\r", "1 2\x00", "x y", "1 x", "x 1", "1.5 2", "1e1 2", "0x1 2", "1_0 2", "1 2i", "-+1 2", "+-1 2", "1- 2", "−1 2", "１ 2", "\xff 2", "1 \xff", "10000000000000000000 1", "99999999999999999999999 1", "1 18446744073709551617"} {
		checkFails(t, "gauss "+rest, "no")
	}
}

func TestValue(t *testing.T) {
	checkOutput(t, "value\n", "0 0", "digits 1")
	checkOutput(t, script("set 10", "value", "set 11101", "value", "set 1100", "value"), "ok", "-1 1", "ok", "-1 0", "ok", "2 0", "digits 4")
	// The power 40 of the base is 16 to the power of 5.
	checkOutput(t, script("set 1"+zeros(39), "value", "times 10", "value", "show"), "ok", "-524288 -524288", "ok", "no", "1"+zeros(40), "digits 41")
	checkOutput(t, script("set "+ones(50), "value", "set 1"+zeros(49), "value"), "ok", "no", "ok", "no", "digits 50")
	for _, z := range []gauss{{Re: 1000000}, {Re: -1000000}, {Im: 1000000}, {Im: -1000000}, {Re: 1000000, Im: -1000000}, {Re: -1000000, Im: -1000000}} {
		checkOutput(t, script("set "+expansionOf(z), "value"), "ok", fmt.Sprintf("%d %d", z.Re, z.Im), fmt.Sprintf("digits %d", len(expansionOf(z))))
	}
	for _, z := range []gauss{{Re: 1000001}, {Re: -1000001}, {Im: 1000001}, {Im: -1000001}, {Re: 1000000, Im: -1000001}} {
		checkOutput(t, script("set "+expansionOf(z), "value"), "ok", "no", fmt.Sprintf("digits %d", len(expansionOf(z))))
	}
	for _, s := range expansions() {
		checkScript(t, script("set "+s, "value", "next", "value"))
	}
}

func TestPlace(t *testing.T) {
	for k, want := range map[string]string{
		"0": "0 same", "1": "0 same", "00": "0 same", "000": "0 same", "-0": "0 same", "-000": "0 same", "7": "0 same", "007": "0 same", "251": "0 same", "252": "0 same",
		"253": "2 same", "254": "1 same", "255": "2 same", "297": "2 same", "298": "1 same", "299": "0 other", "300": "0 other", "319": "0 other", "320": "0 other",
	} {
		checkOutput(t, "place "+k+"\n", want, "digits 1")
	}
	for _, k := range []string{"321", "322", "400", "999", "-1", "-01", "-2", "-252", "-299", "-999", "1000", "0000", "0001", "0252", "-0001", "2 5", "25 ", " 25", "25 2", "", "x", "2x", "+1", "--1", "-", "2.0", "1e2", "0x1", "9223372036854775808", "18446744073709551616", "18446744073709551869", "-18446744073709551616"} {
		checkFails(t, "place "+k, "no")
	}
}

func TestCrease(t *testing.T) {
	for _, creases := range []string{"l", "r", "lr", "rrrrrrrrrr", "llllllllll", "lrlrlrlrlr"} {
		checkScript(t, script("crease "+creases, "end", "corners", "sum", "turn 1", "show"))
	}
	for _, creases := range []string{"", " ", "L", "R", "lL", "lR", "x", "lx", "xl", "l r", "l ", " l", "1", "0", "lllllllllll", "rrrrrrrrrrr", "lrlrlrlrlrl", "llllllllllll", "l\r", "l\x00", "\xff", "l\xff", "\u016c", "\u0172", "lé"} {
		checkFails(t, "crease "+creases, "no")
	}
	for _, creases := range noCreases() {
		if len(creases) < 130 && !strings.Contains(creases, "\n") {
			checkFails(t, "crease "+creases, "no")
		}
	}
	checkOutput(t, script("crease rr", "crease llllllllll", "crease lllllllllll", "end", "turn 1023", "turn 2", "turn 3"), "ok", "ok", "no", "0 32", "no", "l", "r", "digits 1")
}

func TestTurn(t *testing.T) {
	checkOutput(t, script("turn 0", "turn 1", "turn 2", "turn -1", "turn -0", "turn 001"), "no", "l", "no", "no", "no", "l", "digits 1")
	checkOutput(t, script("crease r", "turn 1", "crease ll", "turn 1", "turn 2", "turn 3", "turn 4", "turn 0"), "ok", "r", "ok", "l", "l", "r", "no", "no", "digits 1")
	for _, creases := range []string{"l", "r", "ll", "rl", "lrl", "rrrr", "lrrlr", "llrlrr", "lrlrlrl", "rrlrlrll", "lrrrlrlrl", "llllllllll", "rlrrlrllrl"} {
		word := wantedWord(creases)
		for index := 1; index <= min(len(word), 999); index++ {
			checkOutput(t, script("crease "+creases, "turn "+strconv.Itoa(index)), "ok", word[index-1:index], "digits 1")
		}
		if len(word) < 999 {
			checkOutput(t, script("crease "+creases, fmt.Sprintf("turn %d", len(word)+1), "turn 0", "turn 999", "turn -1", fmt.Sprintf("turn -%d", len(word))), "ok", "no", "no", "no", "no", "no", "digits 1")
		}
	}
	// More indexes than three digits write.
	for _, index := range []string{"1000", "1023", "1024", "0001", "-1", "-999", "0", "-0", "000", "+1", "1 1", "18446744073709551617"} {
		checkFails(t, "turn "+index, "no")
	}
}

func TestEndCornersAndSum(t *testing.T) {
	first := fmt.Sprintf("%08x", wantedChecksum([]complex64{0, 1, 1 + 1i}))
	checkOutput(t, script("end", "corners", "sum", "show", "value", "turn 1"), "1 1", "3 1", first, "0", "0 0", "l", "digits 1")
	checkOutput(t, script("crease r", "end", "corners", "sum"), "ok", "1 -1", "3 1", fmt.Sprintf("%08x", wantedChecksum([]complex64{0, 1, 1 - 1i})), "digits 1")
	checkOutput(t, script("crease ll", "end", "corners", "sum"), "ok", "0 2", "5 1", "3b4ba46d", "digits 1")
	leading := 0
	for _, creases := range allCreases(10)[1:] {
		points := wantedCurve(wantedWord(creases))
		end := gaussOf(points[len(points)-1])
		count, most := wantedCorners(points)
		sum := fmt.Sprintf("%08x", wantedChecksum(points))
		if sum[0] == '0' {
			leading++
		}
		checkOutput(t, script("crease "+creases, "end", "corners", "sum"), "ok", fmt.Sprintf("%d %d", end.Re, end.Im), fmt.Sprintf("%d %d", count, most), sum, "digits 1")
	}
	if leading == 0 {
		t.Error("no checksum has a leading 0")
	}
}

func TestTile(t *testing.T) {
	checkOutput(t, "tile 0\n", "#", "digits 1")
	checkOutput(t, "tile 1\n", "##", "digits 1")
	checkOutput(t, "tile 2\n", "##.", ".##", "digits 1")
	for level := range 9 {
		want := append(wantedShape(level), "digits 1")
		for _, number := range []string{strconv.Itoa(level), fmt.Sprintf("%02d", level), fmt.Sprintf("%03d", level)} {
			checkOutput(t, "tile "+number+"\n", want...)
		}
	}
	checkOutput(t, "tile -0\n", "#", "digits 1")
	checkOutput(t, script("tile 1", "tile 9", "tile 1"), "##", "no", "##", "digits 1")
	for _, level := range []string{"9", "10", "12", "13", "009", "100", "999", "-1", "-8", "-001", "0000", "0008", "+8", "8 ", " 8", "8 8", "--1", "", "x", "18446744073709551616", "4294967296"} {
		checkFails(t, "tile "+level, "no")
	}
}

// A line is read up to its first space and its newline, not further.
func TestLinesStandForThemselves(t *testing.T) {
	checkOutput(t, "set\n1\nset \n1\nset 1\n", "what", "what", "no", "what", "ok", "digits 1")
	checkOutput(t, "gauss 1\n2\ngauss\n1 2\n", "no", "what", "what", "what", "digits 1")
	checkOutput(t, "show\r\nset 1\r\n\rshow\n", "what", "no", "what", "digits 1")
	checkOutput(t, "show\x00show\nset 1\vshow\nset 11\fset 1\n", "what", "no", "no", "digits 1")
	checkOutput(t, "show;show\nshow \nshow", "what", "what", "digits 1")
	checkOutput(t, "set 1 # one\nset 1  \nset 1\n", "no", "no", "ok", "digits 1")
	checkOutput(t, "show\u2028show\nshow\u0085\n", "what", "what", "digits 1")
}

// The expansion and the creases change apart from each other.
func TestStateOfASession(t *testing.T) {
	checkOutput(t, script("crease rl", "set 101", "end", "show", "crease lll", "show", "end", "add 1", "end", "show"), "ok", "ok", "2 0", "101", "ok", "101", "-2 2", "ok", "-2 2", "111000", "digits 6")
	checkOutput(t, script("set 101", "add 1", "times 10", "negate", "next", "gauss 3 4", "crease rrl", "end", "value"), "ok", "ok", "ok", "ok", "ok", "ok", "ok", "2 -2", "3 4", "digits "+strconv.Itoa(len(expansionOf(gauss{Re: 3, Im: 4}))))
	for _, line := range []string{"show", "value", "place 3", "turn 1", "end", "corners", "tile 3", "sum"} {
		ahead, last := lastLine(impl.Execute(script("set 1101", "crease lrl", "show", "value", "end", "corners", "sum")))
		behind, same := lastLine(impl.Execute(script("set 1101", "crease lrl", line, "show", "value", "end", "corners", "sum")))
		if last != same || !strings.HasSuffix(behind, strings.TrimPrefix(ahead, "ok\nok\n")) {
			t.Errorf("%q changes the session: %q, not %q", line, behind, ahead)
		}
	}
}

func TestScriptsAtRandom(t *testing.T) {
	random := rand.New(rand.NewSource(88))
	for k := range 2500 {
		text := randomScript(random, 500)
		switch k % 5 {
		case 0:
			text += strings.Repeat("y", 500-len(text))
		case 1:
			text += strings.Repeat("\n", 500-len(text))
		case 2:
			text += strings.Repeat("\n", 501-len(text))
		}
		checkScript(t, text)
	}
}

// Some bytes of a script are others, or are not there, so that lines become others that are next to them.
func TestScriptsWithOtherBytes(t *testing.T) {
	random := rand.New(rand.NewSource(89))
	for range 2500 {
		text := []byte(randomScript(random, 480))
		for range 1 + random.Intn(12) {
			at := random.Intn(len(text) - 1)
			switch random.Intn(4) {
			case 0:
				text[at] = byte(random.Intn(256))
			case 1:
				text[at] = " \n01lr-2\x00\xff"[random.Intn(10)]
			case 2:
				text = slices.Delete(text, at, at+1)
			case 3:
				text = slices.Insert(text, at, " \n01lr-2\x00\xff"[random.Intn(10)])
			}
		}
		checkScript(t, string(text))
	}
	for range 1000 {
		text := make([]byte, random.Intn(510))
		for i := range text {
			text[i] = byte(random.Intn(256))
		}
		checkScript(t, string(text))
	}
}

// Each byte stands in the place of each byte of a line, and at both its ends.
func TestLinesWithEachByte(t *testing.T) {
	for _, line := range []string{"set 10", "add 1", "times 11", "gauss 1 -2", "place 9", "crease lr", "turn 1", "tile 1", "negate", "next", "show", "value", "end", "corners", "sum", " "} {
		for b := range 256 {
			for at := range len(line) + 1 {
				with := line[:at] + string([]byte{byte(b)}) + line[at:]
				checkScript(t, with+"\nshow\nend\n")
				if at < len(line) {
					instead := line[:at] + string([]byte{byte(b)}) + line[at+1:]
					checkScript(t, instead+"\nshow\nend\n")
				}
			}
		}
	}
}

func TestVeryLongScripts(t *testing.T) {
	for _, part := range []string{"\n", "x", "show\n", "set 1\n", "tile 8\n", " ", "\xff", "\x00", "é", "next\n", "set " + ones(50) + "\n"} {
		for _, count := range []int{501, 1000, 1 << 20, 1 << 22} {
			checkOutput(t, strings.Repeat(part, count), "too long")
		}
	}
	// The greatest outputs that there are.
	checkScript(t, strings.Repeat("tile 8\n", 71))
	checkScript(t, "crease llllllllll\n"+strings.Repeat("corners\n", 60))
	checkScript(t, "crease rlrlrlrlrl\n"+strings.Repeat("sum\n", 120))
}

func TestScriptsAreTheSameEachTime(t *testing.T) {
	for _, text := range scripts() {
		output := impl.Execute(text)
		for range 5 {
			if again := impl.Execute(text); again != output {
				t.Fatalf("Execute of %q returned %q and %q", text, output, again)
			}
		}
	}
	// What one script keeps, the next one does not have.
	impl.Execute(script("set 1111", "crease rrr"))
	checkOutput(t, script("show", "end"), "0", "1 1", "digits 1")
}

func TestScriptsAtTheSameTime(t *testing.T) {
	list := scripts()
	var outputs []string
	for _, text := range list {
		outputs = append(outputs, wantedExecute(text))
	}
	var all sync.WaitGroup
	for k := range 8 {
		all.Go(func() {
			for i := range list {
				i = (i*(2*k+1) + k) % len(list)
				if output := impl.Execute(list[i]); output != outputs[i] {
					t.Errorf("Execute of %q returned %q instead of %q", list[i], output, outputs[i])
				}
			}
		})
	}
	all.Wait()
}
