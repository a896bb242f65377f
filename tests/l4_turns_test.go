package tests

import (
	"math"
	"math/bits"
	"math/rand"
	"slices"
	"strings"
	"testing"

	"loop.example/dragonnumbers/impl"
)

func lefts(n int) string { return strings.Repeat("l", n) }

// letterTexts has all texts of n letters.
func letterTexts(n int) []string {
	list := []string{""}
	for range n {
		var longer []string
		for _, s := range list {
			longer = append(longer, s+"l", s+"r")
		}
		list = longer
	}
	return list
}

// allCreases has all creases of up to n letters, the empty ones among them.
func allCreases(n int) []string {
	var list []string
	for length := range n + 1 {
		list = append(list, letterTexts(length)...)
	}
	return list
}

func randomLetters(random *rand.Rand, n int) string {
	text := make([]byte, n)
	for i := range text {
		text[i] = "lr"[random.Intn(2)]
	}
	return string(text)
}

// words has all words of up to 7 letters, and longer ones of odd and of even lengths, up to the longest.
func words() []string {
	random := rand.New(rand.NewSource(6))
	list := allCreases(7)
	for _, n := range []int{8, 9, 10, 11, 15, 16, 30, 31, 32, 62, 63, 64, 100, 127, 128, 254, 255, 256, 509, 510, 511, 512, 513, 767, 1000, 1021, 1022, 1023} {
		list = append(list, lefts(n), strings.Repeat("r", n), strings.Repeat("lr", n)[:n], strings.Repeat("rrl", n)[:n])
		list = append(list, randomLetters(random, n), randomLetters(random, n))
	}
	for _, creases := range []string{"llllllll", "rlrrlrlr", "lrlrlrlrl", "rrrrrrrrr", "llllllllll", "rllrlrrlrl"} {
		list = append(list, wantedWord(creases))
	}
	return list
}

// noLetterTexts has texts that are no words: with other bytes at each end and between, capital letters, and longer characters, some of which hold the bits of a letter.
func noLetterTexts() []string {
	list := []string{" ", "L", "R", "lL", "Rr", "llR", "a", "k", "m", "q", "s", "0", "1", "I", "|", "l r", "l,r", "\n", "l\n", "\nr", " l", "r ", "\x00", "l\x00", "\x00r", "lrx", "xlr", "lxr", "left", "ll1"}
	list = append(list, "é", "lé", "él", "\xff", "l\xff", "\xffr", "l\xc3", "\xec", "\xf2", "\xc1\xac", "\xc1\xb2", "l\u016c", "\u016c", "\u0172", "r\u0172l", "\u217c", "\uff4c", "\uff52", "\U0001d4c1", "\ufeffl", "l\u0301")
	for _, n := range []int{9, 10, 510, 511, 1021, 1022} {
		for _, other := range []string{"L", "x", "\xff", "\n"} {
			list = append(list, lefts(n)+other, other+lefts(n), lefts(n/2)+other+lefts(n-n/2))
		}
	}
	return append(list, lefts(1021)+"é", lefts(1022)+"é", "é"+lefts(1021), strings.Repeat("é", 511), strings.Repeat("L", 1023))
}

// noWords has texts that are too long, too.
func noWords() []string {
	list := append(noLetterTexts(), lefts(1024), strings.Repeat("lr", 512), lefts(1025), lefts(1023)+"\n", lefts(2047), strings.Repeat("r", 2048))
	long := 1 << 20
	return append(list, lefts(long), strings.Repeat("rl", long), strings.Repeat("x", long), strings.Repeat("\xff", long), lefts(long)+"L")
}

func noCreases() []string {
	return append(noWords(), lefts(11), strings.Repeat("r", 11), "lrlrlrlrlrl", lefts(12), lefts(31), lefts(63), lefts(64), lefts(1022), lefts(1023))
}

// The following ones calculate apart from the program: words of turns are made by unfolding, not by indexes.

func isWord(s string) bool {
	return len(s) <= 1023 && strings.Count(s, "l")+strings.Count(s, "r") == len(s)
}

func otherLetter(c string) string {
	return map[string]string{"l": "r", "r": "l"}[c]
}

func wantedBack(s string) string {
	text := []byte(strings.NewReplacer("l", "r", "r", "l").Replace(s))
	slices.Reverse(text)
	return string(text)
}

func wantedWord(creases string) string {
	word := ""
	for _, c := range strings.Split(creases, "") {
		word = word + c + wantedBack(word)
	}
	return word
}

func wantedSum(s string) int {
	return strings.Count(s, "l") - strings.Count(s, "r")
}

// checkWordFails checks that no function takes a text as a word.
func checkWordFails(t *testing.T, s string) {
	t.Helper()
	back, ok := impl.TurnBack(s)
	checkText(t, "TurnBack of no word", back, ok, "", false)
	for _, c := range []string{"l", "r", "", "x", "ll"} {
		word, ok := impl.TurnUnfold(s, c)
		checkText(t, "TurnUnfold of no word and "+c, word, ok, "", false)
	}
	creases, ok := impl.TurnFold(s)
	checkText(t, "TurnFold of no word", creases, ok, "", false)
	if sum, ok := impl.TurnSum(s); ok || sum != 0 {
		t.Fatalf("TurnSum of %.60q returned %d, %v", s, sum, ok)
	}
}

// checkCreasesFail checks that no function takes a text as creases.
func checkCreasesFail(t *testing.T, s string) {
	t.Helper()
	word, ok := impl.TurnWord(s)
	checkText(t, "TurnWord of no creases", word, ok, "", false)
	for _, index := range []int{math.MinInt, -1, 0, 1, 2, 3, 512, 1023, 1024, 2047, 1 << 20, 1 << 62, math.MaxInt} {
		letter, ok := impl.TurnAt(s, index)
		checkText(t, "TurnAt of no creases", letter, ok, "", false)
	}
}

func TestPromise30BackLeadsBack(t *testing.T) {
	for _, s := range words() {
		back, ok := impl.TurnBack(s)
		checkText(t, "TurnBack of "+s, back, ok, wantedBack(s), true)
		again, fine := impl.TurnBack(back)
		checkText(t, "TurnBack of "+back, again, fine, s, true)
		sum, told := impl.TurnSum(s)
		if other, too := impl.TurnSum(back); !told || !too || other != -sum {
			t.Fatalf("TurnSum of %q is %d, but turned back %d", s, sum, other)
		}
	}
}

func TestTurnBackEnds(t *testing.T) {
	for s, want := range map[string]string{
		"": "", "l": "r", "r": "l", "ll": "rr", "lr": "lr", "rl": "rl", "rr": "ll", "llr": "lrr", "lrr": "llr", "lll": "rrr",
		"llrr": "llrr", "lllr": "lrrr", "rlll": "rrrl", "l" + strings.Repeat("r", 1022): lefts(1022) + "r", lefts(1022): strings.Repeat("r", 1022),
	} {
		back, ok := impl.TurnBack(s)
		checkText(t, "TurnBack of "+s, back, ok, want, true)
	}
	for _, s := range noWords() {
		back, ok := impl.TurnBack(s)
		checkText(t, "TurnBack of no word", back, ok, "", false)
	}
}

func TestPromise31UnfoldedTurnedBack(t *testing.T) {
	longest := 0
	for _, s := range words() {
		for _, c := range []string{"l", "r"} {
			word, ok := impl.TurnUnfold(s, c)
			if len(s) > 511 {
				checkText(t, "TurnUnfold of a word that is too long", word, ok, "", false)
				continue
			}
			checkText(t, "TurnUnfold of "+s+" and "+c, word, ok, s+c+wantedBack(s), true)
			if len(word) != 2*len(s)+1 {
				t.Fatalf("TurnUnfold of %q and %q has %d letters", s, c, len(word))
			}
			back, _ := impl.TurnBack(word)
			other, fine := impl.TurnUnfold(s, otherLetter(c))
			checkText(t, "TurnUnfold of "+s+" and the other letter", other, fine, back, true)
			longest = max(longest, len(word))
		}
	}
	if longest != 1023 {
		t.Errorf("the longest unfolded word has %d letters", longest)
	}
}

func TestTurnUnfoldEnds(t *testing.T) {
	for _, c := range []struct {
		s, c, want string
		ok         bool
	}{
		{"", "l", "l", true},
		{"", "r", "r", true},
		{"l", "l", "llr", true},
		{"l", "r", "lrr", true},
		{"r", "l", "rll", true},
		{"ll", "l", "lllrr", true},
		{"lr", "r", "lrrlr", true},
		{"rl", "r", "rlrrl", true},
		{"llr", "l", "llrllrr", true},
		{lefts(510), "r", lefts(510) + strings.Repeat("r", 511), true},
		{lefts(511), "l", lefts(512) + strings.Repeat("r", 511), true},
		{strings.Repeat("r", 511), "r", strings.Repeat("r", 512) + lefts(511), true},
		{lefts(512), "l", "", false},
		{lefts(512), "r", "", false},
		{lefts(1022), "l", "", false},
		{lefts(1023), "l", "", false},
		{lefts(1024), "l", "", false},
	} {
		word, ok := impl.TurnUnfold(c.s, c.c)
		checkText(t, "TurnUnfold of "+c.s+" and "+c.c, word, ok, c.want, c.ok)
	}
}

func TestTurnUnfoldLetters(t *testing.T) {
	letters := append(noWords(), "", "ll", "lr", "rl", "rr", "lll", "l\x00", lefts(10), lefts(511), lefts(1023))
	for first := range 256 {
		if c := string([]byte{byte(first)}); c != "l" && c != "r" {
			letters = append(letters, c)
		}
		letters = append(letters, "l"+string([]byte{byte(first)}), string([]byte{byte(first)})+"r")
	}
	for _, c := range letters {
		for _, s := range []string{"", "l", "lr", "llr", lefts(511), lefts(512), lefts(1024), "x"} {
			word, ok := impl.TurnUnfold(s, c)
			checkText(t, "TurnUnfold with no letter", word, ok, "", false)
		}
	}
}

func TestPromise32WordOfCreases(t *testing.T) {
	for _, creases := range allCreases(10) {
		word, ok := impl.TurnWord(creases)
		checkText(t, "TurnWord of "+creases, word, ok, wantedWord(creases), true)
		if len(word) != 1<<len(creases)-1 {
			t.Fatalf("TurnWord of %q has %d letters", creases, len(word))
		}
		folded, fine := impl.TurnFold(word)
		checkText(t, "TurnFold of TurnWord of "+creases, folded, fine, creases, true)
		want := 0
		if strings.HasSuffix(creases, "l") {
			want = 1
		} else if strings.HasSuffix(creases, "r") {
			want = -1
		}
		if sum, told := impl.TurnSum(word); !told || sum != want {
			t.Fatalf("TurnSum of TurnWord of %q returned %d, %v", creases, sum, told)
		}
	}
}

func TestTurnWordEnds(t *testing.T) {
	for creases, want := range map[string]string{
		"": "", "l": "l", "r": "r", "ll": "llr", "lr": "lrr", "rl": "rll", "rr": "rrl",
		"lll": "llrllrr", "llr": "llrrlrr", "lrl": "lrrlllr", "rll": "rlllrrl", "lrr": "lrrrllr",
	} {
		word, ok := impl.TurnWord(creases)
		checkText(t, "TurnWord of "+creases, word, ok, want, true)
	}
	if word, ok := impl.TurnWord(lefts(10)); !ok || len(word) != 1023 || !strings.HasPrefix(word, "llrllrrlllrrlrr") {
		t.Errorf("TurnWord of 10 letters returned %q, %v", word, ok)
	}
	for _, creases := range noCreases() {
		word, ok := impl.TurnWord(creases)
		checkText(t, "TurnWord of no creases", word, ok, "", false)
	}
}

func TestPromise33LetterAtIndex(t *testing.T) {
	for _, creases := range allCreases(10) {
		word, ok := impl.TurnWord(creases)
		if !ok {
			t.Fatalf("TurnWord of %q fails", creases)
		}
		for index := 1; index <= len(word); index++ {
			letter, told := impl.TurnAt(creases, index)
			if !told || letter != word[index-1:index] {
				t.Fatalf("TurnAt of %q and %d returned %q, %v", creases, index, letter, told)
			}
			opposite := 1<<len(creases) - index
			if opposite == index {
				continue
			}
			if other, too := impl.TurnAt(creases, opposite); !too || other != otherLetter(letter) {
				t.Fatalf("TurnAt of %q is %q at %d, but at the opposite end %q", creases, letter, index, other)
			}
		}
		for _, index := range []int{-1, 0, len(word) + 1, len(word) + 2, 1<<len(creases) + 1} {
			letter, told := impl.TurnAt(creases, index)
			checkText(t, "TurnAt of "+creases+" and an index beyond", letter, told, "", false)
		}
	}
}

func TestTurnAtPowersAndMiddle(t *testing.T) {
	for _, creases := range []string{"l", "r", "lr", "rrl", "lrlr", "rlllr", "lrrlrlrllr", "rrrrrrrrrr", "llllllllll"} {
		for j := range creases {
			letter, ok := impl.TurnAt(creases, 1<<j)
			checkText(t, "TurnAt of "+creases+" and a power of 2", letter, ok, creases[j:j+1], true)
		}
		for j := range len(creases) - 1 {
			letter, ok := impl.TurnAt(creases, 3<<j)
			checkText(t, "TurnAt of "+creases+" and 3 times a power of 2", letter, ok, otherLetter(creases[j:j+1]), true)
		}
		middle, ok := impl.TurnAt(creases, 1<<len(creases)/2)
		checkText(t, "TurnAt of "+creases+" in the middle", middle, ok, creases[len(creases)-1:], true)
	}
}

func TestTurnAtEnds(t *testing.T) {
	for _, c := range []struct {
		creases string
		index   int
		want    string
		ok      bool
	}{
		{"", 0, "", false},
		{"", 1, "", false},
		{"", -1, "", false},
		{"l", 0, "", false},
		{"l", 1, "l", true},
		{"l", 2, "", false},
		{"r", 1, "r", true},
		{"ll", 1, "l", true},
		{"ll", 2, "l", true},
		{"ll", 3, "r", true},
		{"ll", 4, "", false},
		{"lr", 2, "r", true},
		{"lr", 3, "r", true},
		{"lrl", 5, "l", true},
		{"lrl", 6, "l", true},
		{"lrl", 7, "r", true},
		{"lrl", 8, "", false},
		{"llllllllll", 1023, "r", true},
		{"rlllllllll", 1023, "l", true},
		{"lllllllllr", 512, "r", true},
		{"llllllllll", 1024, "", false},
		{"llllllllll", 1025, "", false},
		{"lllllllllll", 1, "", false},
		{"lllllllllll", 1024, "", false},
		{"lllllllllll", 2047, "", false},
		{"lL", 1, "", false},
		{"xl", 2, "", false},
	} {
		letter, ok := impl.TurnAt(c.creases, c.index)
		checkText(t, "TurnAt of "+c.creases, letter, ok, c.want, c.ok)
	}
	for _, creases := range allCreases(3) {
		for _, index := range []int{math.MinInt, math.MinInt + 1, -1 << 62, -1 << 32, -1024, -7, -2, 8, 9, 1 << 31, 1<<32 + 1, 1 << 62, 1<<62 + 1, math.MaxInt - 1, math.MaxInt} {
			letter, ok := impl.TurnAt(creases, index)
			checkText(t, "TurnAt of an index beyond the word", letter, ok, "", false)
		}
	}
}

// TestPromise34FoldLeadsBack has all words of up to 15 letters: just one of a length has the same creases.
func TestPromise34FoldLeadsBack(t *testing.T) {
	for length := range 16 {
		folded := 0
		for _, s := range letterTexts(length) {
			creases, ok := impl.TurnFold(s)
			if !ok {
				checkText(t, "TurnFold of "+s, creases, ok, "", false)
				continue
			}
			folded++
			word, fine := impl.TurnWord(creases)
			checkText(t, "TurnWord of TurnFold of "+s, word, fine, s, true)
		}
		if want := map[int]int{0: 1, 1: 2, 3: 4, 7: 8, 15: 16}[length]; folded != want {
			t.Errorf("%d words of %d letters are words of turns", folded, length)
		}
	}
	for _, s := range words() {
		if creases, ok := impl.TurnFold(s); ok && wantedWord(creases) != s {
			t.Fatalf("TurnFold of %q returned %q", s, creases)
		}
	}
}

func TestTurnFoldEnds(t *testing.T) {
	for _, c := range []struct {
		s, want string
		ok      bool
	}{
		{"", "", true},
		{"l", "l", true},
		{"r", "r", true},
		{"llr", "ll", true},
		{"lrr", "lr", true},
		{"rll", "rl", true},
		{"rrl", "rr", true},
		{"llrllrr", "lll", true},
		{"rlllrrl", "rll", true},
		{"lll", "", false},
		{"rrr", "", false},
		{"lrl", "", false},
		{"llrll", "", false},
		{"llrllrl", "", false},
		{"lrrlllrr", "", false},
		{"llx", "", false},
		{"LLR", "", false},
	} {
		creases, ok := impl.TurnFold(c.s)
		checkText(t, "TurnFold of "+c.s, creases, ok, c.want, c.ok)
	}
	for _, s := range words() {
		if len(s)%2 == 0 && s != "" {
			creases, ok := impl.TurnFold(s)
			checkText(t, "TurnFold of a word of even length", creases, ok, "", false)
		}
	}
	all := "lrrlrlrllr"
	whole := wantedWord(all)
	for length := range len(whole) + 1 {
		count := bits.Len(uint(length))
		want, fine := "", length == 1<<count-1
		if fine {
			want = all[:count]
		}
		creases, ok := impl.TurnFold(whole[:length])
		checkText(t, "TurnFold of a beginning of a word of turns", creases, ok, want, fine)
	}
}

// TestTurnFoldOneLetterChanged changes each letter of words of turns: just in the middle it leads to a word of turns.
func TestTurnFoldOneLetterChanged(t *testing.T) {
	for _, creases := range []string{"lr", "rrl", "lrlr", "rllrr", "lrrlrlrllr", "rrrrrrrrrr", "llllllllll"} {
		whole := wantedWord(creases)
		for i := range whole {
			changed := whole[:i] + otherLetter(whole[i:i+1]) + whole[i+1:]
			want, fine := "", i == len(whole)/2
			if last := len(creases) - 1; fine {
				want = creases[:last] + otherLetter(creases[last:])
			}
			got, ok := impl.TurnFold(changed)
			checkText(t, "TurnFold of a changed word", got, ok, want, fine)
		}
	}
}

func TestPromise35SumHasParity(t *testing.T) {
	unfolded := 0
	for _, s := range words() {
		sum, ok := impl.TurnSum(s)
		if !ok || sum != wantedSum(s) {
			t.Fatalf("TurnSum of %q returned %d, %v", s, sum, ok)
		}
		if (sum-len(s))%2 != 0 {
			t.Fatalf("TurnSum of %q, which has %d letters, is %d", s, len(s), sum)
		}
		word, short := impl.TurnUnfold(s, "l")
		if !short {
			continue
		}
		unfolded++
		if one, told := impl.TurnSum(word); !told || one != 1 {
			t.Fatalf("TurnSum of %q unfolded with l returned %d, %v", s, one, told)
		}
	}
	if unfolded == 0 {
		t.Errorf("no word was unfolded")
	}
}

func TestTurnSumEnds(t *testing.T) {
	for s, want := range map[string]int{
		"": 0, "l": 1, "r": -1, "ll": 2, "lr": 0, "rl": 0, "rr": -2, "llr": 1, "rrl": -1, "llll": 4, "rrrl": -2,
		lefts(1022): 1022, lefts(1023): 1023, strings.Repeat("r", 1023): -1023, strings.Repeat("lr", 511): 0, strings.Repeat("rl", 511) + "r": -1,
	} {
		if sum, ok := impl.TurnSum(s); !ok || sum != want {
			t.Errorf("TurnSum of %q returned %d, %v", s, sum, ok)
		}
	}
	for _, s := range noWords() {
		if sum, ok := impl.TurnSum(s); ok || sum != 0 {
			t.Fatalf("TurnSum of %.60q returned %d, %v", s, sum, ok)
		}
	}
}

func TestTurnsOfAnyBytes(t *testing.T) {
	for first := range 256 {
		for second := range 256 {
			two := string([]byte{byte(first), byte(second)})
			for _, s := range []string{two[:1], two, "l" + two[1:] + "r", two + "l"} {
				if !isWord(s) {
					checkWordFails(t, s)
					checkCreasesFail(t, s)
				}
			}
		}
	}
}

func TestTurnsOfAnyTexts(t *testing.T) {
	for _, s := range noWords() {
		if isWord(s) {
			t.Fatalf("%.60q is a word", s)
		}
		checkWordFails(t, s)
	}
	for _, s := range noCreases() {
		checkCreasesFail(t, s)
	}
}
