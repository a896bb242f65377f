package tests

import (
	"fmt"
	"math"
	"math/rand"
	"regexp"
	"runtime"
	"slices"
	"strconv"
	"strings"
	"sync"
	"testing"
	"time"

	"loop.example/dragonnumbers/impl"
)

type entry = impl.Entry

var (
	// startParts are parts of starts: both zeros, parts that a step makes 0 of, great ones that lose a step, the greatest, the smallest, subnormal and infinite ones.
	startParts = []float32{
		0, minusZero, 1, -1, 3, -16, 0.5, -2.75, 0.1, 1 << 23, 1<<24 - 1, 1 << 24, -1 << 24, 1<<24 + 2, 1 << 25, 1e30,
		math.MaxFloat32, -math.MaxFloat32, math.SmallestNonzeroFloat32, -math.SmallestNonzeroFloat32, 1e-40, -1e-40, 0x1p-126, infinite, -infinite,
	}

	// notNumbers are NaN with other bits.
	notNumbers = []float32{
		notNumber, math.Float32frombits(0xffc00000), math.Float32frombits(0x7f800001), math.Float32frombits(0xff800001),
		math.Float32frombits(0x7fffffff), math.Float32frombits(0xffffffff), math.Float32frombits(0x7fa00000),
	}

	entryShape = regexp.MustCompile(`^([lr]{1,10}) ([0-9a-f]{8}) ([0-9a-f]{8}) ([0-9a-f]{8})$`)
)

// The following ones calculate apart from the program: checksums with 64 bits, and sums of parts in float64, rounded at the end, which is the same as in float32 for a sum of two.

func wantedBits(x float32) string { return fmt.Sprintf("%08x", math.Float32bits(x)) }

func wantedChecksum(list []complex64) uint32 {
	sum := uint64(2166136261)
	for _, z := range list {
		for _, part := range []float32{real(z), imag(z)} {
			sum = (sum ^ uint64(math.Float32bits(part))) * 16777619 % (1 << 32)
		}
	}
	return uint32(sum)
}

func wantedMoved(creases string, start complex64) []complex64 {
	points := wantedCurve(wantedWord(creases))
	for i, z := range points {
		re, im := float64(real(start))+float64(real(z)), float64(imag(start))+float64(imag(z))
		points[i] = complex(float32(re), float32(im))
	}
	return points
}

func entryOf(creases string, start complex64, sum uint32) entry {
	return entry{Creases: creases, Start: start, Sum: sum}
}

// wantedEntry has the checksum also for creases and starts that no entry has.
func wantedEntry(creases string, start complex64) entry {
	return entry{Creases: creases, Start: start, Sum: wantedChecksum(wantedMoved(creases, start))}
}

func isEntry(creases string, start complex64) bool {
	return isWord(creases) && len(creases) >= 1 && len(creases) <= 10 && start == start
}

func isRight(e entry) bool {
	return isEntry(e.Creases, e.Start) && wantedEntry(e.Creases, e.Start).Sum == e.Sum
}

func wantedText(e entry) string {
	return fmt.Sprintf("%s %08x %08x %08x", e.Creases, math.Float32bits(real(e.Start)), math.Float32bits(imag(e.Start)), e.Sum)
}

func wantedRead(s string) (entry, bool) {
	parts := entryShape.FindStringSubmatch(s)
	if parts == nil {
		return entry{}, false
	}
	var words [3]uint32
	for i := range words {
		word, _ := strconv.ParseUint(parts[2+i], 16, 32)
		words[i] = uint32(word)
	}
	e := entry{Creases: parts[1], Start: complex(math.Float32frombits(words[0]), math.Float32frombits(words[1])), Sum: words[2]}
	if !isRight(e) {
		return entry{}, false
	}
	return e, true
}

func wantedFind(list []entry, z complex64) int {
	return slices.IndexFunc(list, func(e entry) bool {
		return isRight(e) && slices.ContainsFunc(wantedMoved(e.Creases, e.Start), func(point complex64) bool {
			return real(point) == real(z) && imag(point) == imag(z)
		})
	})
}

// sameEntry tells both zeros apart, and NaN by their bits.
func sameEntry(a, b entry) bool {
	return a.Creases == b.Creases && sameBits64(a.Start, b.Start) && a.Sum == b.Sum
}

// entryCreases has all creases that an entry has of up to 4 letters, and longer ones of each length.
func entryCreases() []string {
	random := rand.New(rand.NewSource(8))
	list := allCreases(4)[1:]
	for n := 5; n <= 10; n++ {
		list = append(list, lefts(n), strings.Repeat("r", n), randomLetters(random, n))
	}
	return list
}

func starts() []complex64 {
	var list []complex64
	for _, re := range startParts {
		for _, im := range startParts {
			list = append(list, complex(re, im))
		}
	}
	return list
}

// noStarts have NaN in one part or in both.
func noStarts() []complex64 {
	var list []complex64
	for _, bad := range notNumbers {
		for _, part := range append(startParts, notNumbers...) {
			list = append(list, complex(bad, part), complex(part, bad))
		}
	}
	return list
}

// rightEntries has each start with some creases, and all creases with some starts.
func rightEntries() []entry {
	creases, starts := entryCreases(), starts()
	var list []entry
	for i, start := range starts {
		list = append(list, wantedEntry(creases[i%14], start), wantedEntry(creases[i%len(creases)], start))
	}
	for i, letters := range creases {
		list = append(list, wantedEntry(letters, 0), wantedEntry(letters, complex(minusZero, minusZero)), wantedEntry(letters, starts[7*i%len(starts)]))
	}
	return list
}

// wrongEntries has other checksums, and creases and starts that no entry has, with the checksum that they would have.
func wrongEntries() []entry {
	list := []entry{{}, {Sum: 2166136261}, {Creases: "l"}, {Creases: "l", Sum: 2166136261}, {Creases: "llr", Start: 1, Sum: math.MaxUint32}}
	for i, e := range rightEntries() {
		e.Sum ^= 1 << (i % 32)
		list = append(list, e)
	}
	for _, start := range noStarts() {
		list = append(list, wantedEntry("l", start), wantedEntry("rlr", start))
	}
	for _, start := range []complex64{0, 1 + 2i, complex(minusZero, 0)} {
		for _, creases := range []string{"", lefts(11), strings.Repeat("r", 11), "lrlrlrlrlrl", lefts(12)} {
			list = append(list, wantedEntry(creases, start))
		}
		for i, creases := range noCreases() {
			list = append(list, entry{Creases: creases, Start: start}, entry{Creases: creases, Start: start, Sum: wantedEntry("lr"[i%2:i%2+1], start).Sum})
		}
	}
	return list
}

// samples has numbers of all sizes and signs, none of them NaN.
func samples() []float32 {
	random := rand.New(rand.NewSource(9))
	list := slices.Clone(startParts)
	for bit := range 32 {
		list = append(list, math.Float32frombits(1<<bit), math.Float32frombits(1<<bit-1), math.Float32frombits(^uint32(0)>>9<<bit))
	}
	for range 20000 {
		list = append(list, math.Float32frombits(random.Uint32()))
	}
	return slices.DeleteFunc(list, func(x float32) bool { return x != x })
}

func TestPromise53Words(t *testing.T) {
	for _, x := range samples() {
		word, other := impl.WordBits(x), impl.WordBits(math.Float32frombits(math.Float32bits(x)^1<<31))
		if len(word) != 8 || strings.Trim(word, "0123456789abcdef") != "" || word != wantedBits(x) {
			t.Fatalf("WordBits(%v) returned %q", x, word)
		}
		if len(other) != 8 || word[0] == other[0] || word[1:] != other[1:] {
			t.Fatalf("WordBits of %v and of the opposite returned %q and %q", x, word, other)
		}
	}
}

func TestWordBitsEnds(t *testing.T) {
	for _, c := range []struct {
		x    float32
		want string
	}{
		{0, "00000000"}, {minusZero, "80000000"}, {1, "3f800000"}, {-1, "bf800000"}, {2, "40000000"}, {0.1, "3dcccccd"}, {-0.15625, "be200000"},
		{math.SmallestNonzeroFloat32, "00000001"}, {-math.SmallestNonzeroFloat32, "80000001"}, {0x1p-127, "00400000"}, {0x1p-126, "00800000"}, {0x1.fffffcp-127, "007fffff"},
		{math.MaxFloat32, "7f7fffff"}, {-math.MaxFloat32, "ff7fffff"}, {infinite, "7f800000"}, {-infinite, "ff800000"}, {1 << 24, "4b800000"},
	} {
		if word := impl.WordBits(c.x); word != c.want {
			t.Errorf("WordBits(%v) returned %q instead of %q", c.x, word, c.want)
		}
	}
	for _, want := range []string{"7fc00000", "ffc00000", "7f800001", "ff800001", "7fffffff", "ffffffff", "7fabcdef"} {
		bits, _ := strconv.ParseUint(want, 16, 32)
		if word := impl.WordBits(math.Float32frombits(uint32(bits))); word != want {
			t.Errorf("WordBits of NaN returned %q instead of %q", word, want)
		}
	}
}

// pointLists has lists of all kinds of points.
func pointLists() [][]complex64 {
	list := [][]complex64{nil, {}, make([]complex64, 0, 5), starts(), noStarts(), make([]complex64, 3000)}
	for _, z := range append(starts(), noStarts()...) {
		list = append(list, []complex64{z}, []complex64{1, z, 1i})
	}
	for _, creases := range entryCreases() {
		list = append(list, wantedMoved(creases, 0), wantedMoved(creases, complex(infinite, 1e-40)))
	}
	return list
}

func TestPromise54Sums(t *testing.T) {
	for _, empty := range [][]complex64{nil, {}, make([]complex64, 0, 5)} {
		if sum := impl.SumPoints(empty); sum != 2166136261 {
			t.Fatalf("SumPoints of no point returned %d", sum)
		}
	}
	for _, list := range pointLists() {
		kept := slices.Clone(list)
		if sum := impl.SumPoints(list); sum != wantedChecksum(list) {
			t.Fatalf("SumPoints(%.300v) returned %d instead of %d", list, sum, wantedChecksum(list))
		}
		if impl.SumPoints(append(slices.Clone(list), 0)) == impl.SumPoints(append(slices.Clone(list), 1)) {
			t.Fatalf("SumPoints of %.300v is the same with 0 and with 1 behind", list)
		}
		if !samePoints(list, kept) {
			t.Fatalf("SumPoints writes into %.300v", kept)
		}
	}
}

func TestSumPointsEnds(t *testing.T) {
	for _, c := range []struct {
		list []complex64
		want uint32
	}{
		{[]complex64{0}, 292984781}, {[]complex64{complex(minusZero, 0)}, 2440468429}, {[]complex64{complex(0, minusZero)}, 2440468429},
		{[]complex64{1}, 1257674701}, {[]complex64{1i}, 1240897485}, {[]complex64{1 + 2i, 3 + 4i}, 3495294229}, {[]complex64{3 + 4i, 1 + 2i}, 3520460053},
	} {
		if sum := impl.SumPoints(c.list); sum != c.want {
			t.Errorf("SumPoints(%v) returned %d instead of %d", c.list, sum, c.want)
		}
	}
	long := make([]complex64, 1<<20)
	for i := range long {
		long[i] = complex(float32(i), -float32(i)/3)
	}
	if impl.SumPoints(long) != wantedChecksum(long) || impl.SumPoints(long) == impl.SumPoints(turnedRound(long)) {
		t.Errorf("SumPoints of a long list returned %d", impl.SumPoints(long))
	}
}

func TestPromise55EntriesAreMadeRight(t *testing.T) {
	for i, want := range rightEntries() {
		e, ok := impl.EntryMake(want.Creases, want.Start)
		if !ok || !sameEntry(e, want) || !impl.EntryRight(e) {
			t.Fatalf("EntryMake(%q, %v) returned %v, %v instead of %v", want.Creases, want.Start, e, ok, want)
		}
		for _, other := range []uint32{e.Sum + 1, e.Sum - 1, ^e.Sum, e.Sum ^ 1<<(i%32), e.Sum ^ 1<<31, 0, 2166136261} {
			if other != want.Sum && impl.EntryRight(entryOf(e.Creases, e.Start, other)) {
				t.Fatalf("EntryRight holds for %v with the checksum %d", e, other)
			}
		}
	}
}

// The negative zeros of a start are none in its curve, because 0 is added to them.
func TestEntryOfNegativeZeros(t *testing.T) {
	for _, creases := range entryCreases() {
		plain, _ := impl.EntryMake(creases, 0)
		for _, start := range []complex64{complex(minusZero, 0), complex(0, minusZero), complex(minusZero, minusZero)} {
			e, ok := impl.EntryMake(creases, start)
			if !ok || e.Sum != plain.Sum || !sameBits64(e.Start, start) || !impl.EntryRight(e) || !impl.EntryAlike(e, plain) {
				t.Fatalf("EntryMake(%q, %v) returned %v, %v instead of the checksum %d", creases, start, e, ok, plain.Sum)
			}
			text, _ := impl.EntryText(e)
			if plainText, _ := impl.EntryText(plain); text == plainText || text != wantedText(e) {
				t.Fatalf("EntryText(%v) returned %q", e, text)
			}
			if read, ok := impl.EntryRead(text); !ok || !sameEntry(read, e) {
				t.Fatalf("EntryRead(%q) returned %v, %v", text, read, ok)
			}
		}
	}
}

func TestPromise56RightEntriesAreMade(t *testing.T) {
	for _, e := range rightEntries() {
		if !impl.EntryRight(e) {
			t.Fatalf("EntryRight does not hold for %v", e)
		}
		if made, ok := impl.EntryMake(e.Creases, e.Start); !ok || !sameEntry(made, e) {
			t.Fatalf("EntryMake(%q, %v) returned %v, %v instead of %v", e.Creases, e.Start, made, ok, e)
		}
	}
	for _, e := range wrongEntries() {
		if impl.EntryRight(e) {
			t.Fatalf("EntryRight holds for %.60q, %v, %d", e.Creases, e.Start, e.Sum)
		}
	}
}

func TestEntryMakeFails(t *testing.T) {
	check := func(creases string, start complex64) {
		t.Helper()
		if e, ok := impl.EntryMake(creases, start); ok || e != (entry{}) {
			t.Fatalf("EntryMake(%.60q, %v) returned %v, %v", creases, start, e, ok)
		}
	}
	for _, creases := range append(noCreases(), "") {
		for _, start := range []complex64{0, 1 + 1i, complex(minusZero, infinite), complex(notNumber, 0)} {
			check(creases, start)
		}
	}
	for _, start := range noStarts() {
		for _, creases := range []string{"l", "r", "lrl", lefts(10), "", "x", lefts(11)} {
			check(creases, start)
		}
	}
}

func TestPromise57EntriesAreReadAsWritten(t *testing.T) {
	for _, e := range rightEntries() {
		text, ok := impl.EntryText(e)
		checkText(t, "EntryText", text, ok, wantedText(e), true)
		if read, ok := impl.EntryRead(text); !ok || !sameEntry(read, e) {
			t.Fatalf("EntryRead(%q) returned %v, %v instead of %v", text, read, ok, e)
		}
	}
	for _, e := range wrongEntries() {
		text, ok := impl.EntryText(e)
		checkText(t, "EntryText of an entry that is not right", text, ok, "", false)
	}
}

func TestEntryTextEnds(t *testing.T) {
	for _, c := range []struct {
		creases string
		start   complex64
		want    string
	}{
		{"l", 0, "l 00000000 00000000 a2f7879d"}, {"r", 0, "r 00000000 00000000 22f7879d"}, {"ll", 0, "ll 00000000 00000000 3b4ba46d"},
		{"ll", complex(minusZero, 0), "ll 80000000 00000000 3b4ba46d"}, {"ll", complex(0, minusZero), "ll 00000000 80000000 3b4ba46d"}, {"ll", complex(minusZero, minusZero), "ll 80000000 80000000 3b4ba46d"},
		{"l", 1 + 2i, "l 3f800000 40000000 75b7879d"}, {"rl", -1 + 0.5i, "rl bf800000 3f000000 43cba46d"}, {"lrl", 1 << 24, "lrl 4b800000 00000000 5179fd0d"},
		{"l", complex(infinite, -infinite), "l 7f800000 ff800000 9a77879d"}, {"r", complex(math.SmallestNonzeroFloat32, -math.SmallestNonzeroFloat32), "r 00000001 80000001 a662241c"},
		{"lrlrlrlrlr", 3 - 4i, "lrlrlrlrlr 40400000 c0800000 d48937cd"}, {"llllllllll", 0, "llllllllll 00000000 00000000 6e9937cd"}, {"rrl", complex(math.MaxFloat32, 0.1), "rrl 7f7fffff 3dcccccd a53ce15b"},
	} {
		e, ok := impl.EntryMake(c.creases, c.start)
		if text, fine := impl.EntryText(e); !ok || !fine || text != c.want {
			t.Errorf("EntryText of EntryMake(%q, %v) returned %q instead of %q", c.creases, c.start, text, c.want)
		}
		if read, ok := impl.EntryRead(c.want); !ok || !sameEntry(read, e) {
			t.Errorf("EntryRead(%q) returned %v, %v", c.want, read, ok)
		}
	}
}

// otherTexts has texts that differ a little from one: bytes inserted, left out, replaced and doubled at each place, and other words.
func otherTexts(text string) []string {
	list := []string{"", text + text, text + " " + text, strings.ToUpper(text), strings.ReplaceAll(text, " ", ""), strings.ReplaceAll(text, " ", "  "), strings.ReplaceAll(text, " ", "\t"), strings.ReplaceAll(text, " ", ","), text + "\n", "\ufeff" + text}
	for at := range len(text) + 1 {
		for _, more := range []string{" ", "0", "l", "r", "f", "\n", "\x00", "\xff", "é", "_", "+", "-", "0x"} {
			list = append(list, text[:at]+more+text[at:])
			if at < len(text) {
				list = append(list, text[:at]+more+text[at+1:])
			}
		}
		if at < len(text) {
			list = append(list, text[:at]+text[at+1:], text[:at]+strings.ToUpper(text[at:at+1])+text[at+1:], text[:at], text[at:])
			list = append(list, text[:at]+string(rune(text[at])+1)+text[at+1:], text[:at]+string(rune(text[at])^8)+text[at+1:])
		}
	}
	words := strings.Split(text, " ")
	for at := range words {
		for _, word := range []string{"", "0", "0000000", "000000000", "00000000", "80000000", "7fc00000", "ffc00000", "7f800001", "ffffffff", "7FC00000", "+0000000", "0x000000", "lr", "L", lefts(11), "1", "-1", "2166136261", strings.Repeat("f", 1000)} {
			other := slices.Clone(words)
			other[at] = word
			list = append(list, strings.Join(other, " "))
		}
		list = append(list, strings.Join(slices.Delete(slices.Clone(words), at, at+1), " "), strings.Join(slices.Insert(slices.Clone(words), at, words[at]), " "))
		other := slices.Clone(words)
		other[at], other[len(other)-1] = other[len(other)-1], other[at]
		list = append(list, strings.Join(other, " "))
	}
	return list
}

func checkRead(t *testing.T, s string) {
	t.Helper()
	want, fine := wantedRead(s)
	e, ok := impl.EntryRead(s)
	if ok != fine || !sameEntry(e, want) {
		t.Fatalf("EntryRead(%.80q) returned %v, %v instead of %v, %v", s, e, ok, want, fine)
	}
	if !ok {
		return
	}
	text, written := impl.EntryText(e)
	checkText(t, "EntryText of EntryRead", text, written, s, true)
	if !impl.EntryRight(e) {
		t.Fatalf("EntryRead(%q) returned %v, which is not right", s, e)
	}
}

func TestPromise58ReadEntriesAreRight(t *testing.T) {
	for _, e := range rightEntries() {
		checkRead(t, wantedText(e))
	}
	for _, e := range []entry{
		wantedEntry("l", 0), wantedEntry("rl", 1-2i), wantedEntry("llr", complex(minusZero, 0.1)), wantedEntry("lrlr", complex(infinite, -1e-40)),
		wantedEntry("rrlrlrlrrl", 1i), wantedEntry("lllllllll", complex(-math.MaxFloat32, 171)),
	} {
		for _, s := range otherTexts(wantedText(e)) {
			checkRead(t, s)
		}
	}
	for _, e := range wrongEntries() {
		checkRead(t, wantedText(e))
	}
}

func TestEntryReadFails(t *testing.T) {
	list := []string{
		" ", "   ", "    ", "l", "l ", "l  ", "l   ", "l 0 0 0", "l 00000000 00000000", "l 00000000 00000000 ", " 00000000 00000000 a2f7879d", "00000000 00000000 a2f7879d", "l 00000000 00000000 a2f7879d ", " l 00000000 00000000 a2f7879d",
		"l  00000000 00000000 a2f7879d", "l 00000000  00000000 a2f7879d", "l 00000000 00000000  a2f7879d", "l00000000 00000000 a2f7879d", "l 0000000000000000 a2f7879d", "l 00000000 00000000a2f7879d",
		"l 0000000 00000000 a2f7879d", "l 00000000 0000000 a2f7879d", "l 00000000 00000000 a2f7879", "l 000000000 00000000 a2f7879d", "l 00000000 000000000 a2f7879d", "l 00000000 00000000 0a2f7879d",
		"l 00000000 00000000 A2F7879D", "l 00000000 00000000 a2f7879D", "L 00000000 00000000 a2f7879d", "l 00000000 00000000 a2f7879c", "l 00000000 00000000 22f7879d", "l 00000000 00000000 00000000", "l 00000000 00000000 811c9dc5",
		"rl BF800000 3f000000 43cba46d", "rl bf800000 3F000000 43cba46d", "l 7fc00000 00000000 a2f7879d", "l 00000000 ffc00000 a2f7879d", "l 0 0 a2f7879d", "l -0 0 a2f7879d", "l gggggggg 00000000 a2f7879d", "l 00000000 0000000g a2f7879d",
		"\nl 00000000 00000000 a2f7879d", "l 00000000 00000000 a2f7879d\n", "l\t00000000 00000000 a2f7879d", "l 00000000 00000000 a2f7879d\x00", "l 00000000 00000000 a2f7879d a2f7879d", "l 00000000 00000000 a2f7879d x",
	}
	long := 1 << 20
	for _, piece := range []string{" ", "l", "l ", "0", "00000000 ", "x", "\xff", "l 00000000 00000000 a2f7879d ", "é "} {
		list = append(list, strings.Repeat(piece, long), "l 00000000 00000000 a2f7879d"+strings.Repeat(piece, long), "l 00000000 00000000 "+strings.Repeat(piece, long), "l "+strings.Repeat(piece, long)+" 00000000 a2f7879d", strings.Repeat(piece, long)+" 00000000 00000000 a2f7879d")
	}
	for _, s := range list {
		if e, ok := impl.EntryRead(s); ok || e != (entry{}) {
			t.Errorf("EntryRead(%.80q) returned %v, %v", s, e, ok)
		}
	}
}

func TestPromise59Alike(t *testing.T) {
	list := append(rightEntries(), entry{}, entry{Creases: "x"}, entry{Creases: "x", Sum: 1}, entry{Creases: "L"}, entry{Creases: lefts(11), Start: 1i}, entry{Creases: lefts(10), Start: 1i})
	for i, a := range list {
		if !impl.EntryAlike(a, a) {
			t.Fatalf("EntryAlike does not hold for %v and itself", a)
		}
		for _, b := range []entry{
			list[(i+1)%len(list)], list[(7*i+3)%len(list)], entryOf(a.Creases, a.Start, a.Sum+1), entryOf(a.Creases, a.Start, a.Sum^1<<31), entryOf(a.Creases+"l", a.Start, a.Sum), entryOf(strings.ToUpper(a.Creases), a.Start, a.Sum), entryOf("", a.Start, a.Sum),
			entryOf(a.Creases, complex(imag(a.Start), real(a.Start)), a.Sum), entryOf(a.Creases, complex(-real(a.Start), imag(a.Start)), a.Sum), entryOf(a.Creases, complex(real(a.Start), -imag(a.Start)), a.Sum), entryOf(a.Creases, complex(notNumber, imag(a.Start)), a.Sum),
		} {
			want := a.Creases == b.Creases && real(a.Start) == real(b.Start) && imag(a.Start) == imag(b.Start) && a.Sum == b.Sum
			if impl.EntryAlike(a, b) != want || impl.EntryAlike(b, a) != want {
				t.Fatalf("EntryAlike of %v and %v returned %v and %v", a, b, impl.EntryAlike(a, b), impl.EntryAlike(b, a))
			}
		}
	}
	for _, start := range noStarts() {
		for _, e := range []entry{entryOf("l", start, 5), entryOf("", start, 0), wantedEntry("lr", start)} {
			if impl.EntryAlike(e, e) || impl.EntryAlike(e, entryOf(e.Creases, 0, e.Sum)) {
				t.Fatalf("EntryAlike holds for %v", e)
			}
		}
	}
}

func TestAlikeButForTheSignOfAZero(t *testing.T) {
	zeros := []float32{0, minusZero}
	for _, part := range startParts {
		for _, a := range zeros {
			for _, b := range zeros {
				if !impl.EntryAlike(entryOf("rl", complex(a, part), 7), entryOf("rl", complex(b, part), 7)) || !impl.EntryAlike(entryOf("rl", complex(part, a), 7), entryOf("rl", complex(part, b), 7)) {
					t.Fatalf("EntryAlike does not hold for starts with %v and the zeros %v and %v", part, a, b)
				}
			}
		}
	}
}

// book has entries that are right and some that are not, with starts so near that curves cross.
func book(random *rand.Rand, count int) []entry {
	list := make([]entry, count)
	for i := range list {
		start := complex(float32(random.Intn(9)-4), float32(random.Intn(9)-4))
		list[i] = wantedEntry(randomLetters(random, 1+random.Intn(4)), start)
		switch random.Intn(6) {
		case 0:
			list[i].Sum++
		case 1:
			list[i] = wantedEntry("", start)
		case 2:
			list[i] = wantedEntry("l", complex(real(start), notNumber))
		}
	}
	return list
}

func checkFind(t *testing.T, list []entry, z complex64) int {
	t.Helper()
	index := impl.BookFind(list, z)
	if want := wantedFind(list, z); index != want {
		t.Fatalf("BookFind of %d entries and %v returned %d instead of %d: %.500v", len(list), z, index, want, list)
	}
	return index
}

func TestPromise60FirstOfABook(t *testing.T) {
	random := rand.New(rand.NewSource(10))
	for _, count := range []int{0, 1, 2, 3, 7, 8, 9, 15, 16, 17, 18, 31, 32, 33, 47, 48, 49, 64, 65, 100, 129, 257} {
		for range 12 {
			list := book(random, count)
			z := complex(float32(random.Intn(31)-15), float32(random.Intn(31)-15))
			index := checkFind(t, list, z)
			if index < 0 {
				continue
			}
			if !impl.EntryRight(list[index]) || impl.BookFind(list[:index+1], z) != index || impl.BookFind(list[:index:index], z) != -1 {
				t.Fatalf("BookFind of %d entries and %v returned %d", count, z, index)
			}
		}
	}
}

// The point is in the entry at each index alone, then in all from there on, behind entries that are not right.
func TestBookFindEachIndex(t *testing.T) {
	with, without := wantedEntry("lll", 100), wantedEntry("rr", -100i)
	wrong := with
	wrong.Sum ^= 1
	for _, count := range []int{1, 2, 5, 15, 16, 17, 33, 70} {
		alone, behind := make([]entry, count), make([]entry, count)
		for i := range count {
			alone[i], behind[i] = without, with
		}
		for at := range count {
			alone[at] = with
			if index := impl.BookFind(alone, 101); index != at {
				t.Fatalf("BookFind of %d entries, with the point at %d alone, returned %d", count, at, index)
			}
			alone[at] = without
			if index := impl.BookFind(behind, 101); index != at {
				t.Fatalf("BookFind of %d entries, with the point from %d on, returned %d", count, at, index)
			}
			behind[at] = wrong
			if at%3 == 1 {
				behind[at] = entry{Creases: lefts(11), Start: 100, Sum: wantedEntry(lefts(11), 100).Sum}
			}
		}
		if index := impl.BookFind(alone, 101); index != -1 {
			t.Fatalf("BookFind of %d entries without the point returned %d", count, index)
		}
		if index := impl.BookFind(behind, 101); index != -1 {
			t.Fatalf("BookFind of %d entries that are not right returned %d", count, index)
		}
	}
}

func TestBookFindEachPoint(t *testing.T) {
	for _, e := range []entry{wantedEntry("l", 0), wantedEntry("llr", 3-2i), wantedEntry("rlrlrl", complex(minusZero, 0.5)), wantedEntry("lllllllll", -300), wantedEntry("rllrrlrllr", 1i)} {
		list := []entry{wantedEntry("r", 5000), e, wantedEntry("l", -5000i)}
		points := wantedMoved(e.Creases, e.Start)
		for _, z := range []complex64{points[0], points[1], points[len(points)/2], points[len(points)-2], points[len(points)-1]} {
			if index := impl.BookFind(list, z); index != 1 {
				t.Fatalf("BookFind of %v and %v returned %d", list, z, index)
			}
		}
		for _, z := range []complex64{points[0] + 2000, points[len(points)-1] - 3000i, points[0] + 0.5, points[1] + 0.25i, complex(imag(points[0])+9000, real(points[0]))} {
			checkFind(t, list, z)
			checkFind(t, list[1:2], z)
		}
	}
}

func TestBookFindEnds(t *testing.T) {
	for _, z := range append(starts(), noStarts()...) {
		for _, list := range [][]entry{nil, {}, make([]entry, 0, 4), make([]entry, 1), make([]entry, 40)} {
			if index := impl.BookFind(list, z); index != -1 {
				t.Fatalf("BookFind of %d empty entries and %v returned %d", len(list), z, index)
			}
		}
		list := []entry{wantedEntry("l", z), wantedEntry("lr", 1i), wantedEntry("lr", complex(minusZero, 0)), wantedEntry("ll", complex(real(z), 1e30)), wantedEntry("rrr", z)}
		checkFind(t, list, z)
		checkFind(t, list, z+1)
		checkFind(t, list[1:], complex(imag(z), real(z)))
	}
	for _, e := range rightEntries() {
		for _, z := range append(noStarts()[:20], complex(notNumber, real(e.Start)), complex(real(e.Start), notNumber)) {
			if index := impl.BookFind([]entry{e}, z); index != -1 {
				t.Fatalf("BookFind of %v and %v returned %d", e, z, index)
			}
		}
	}
}

func TestBookFindSignsOfZeros(t *testing.T) {
	zeros := []complex64{0, complex(minusZero, 0), complex(0, minusZero), complex(minusZero, minusZero)}
	for _, start := range zeros {
		list := []entry{wantedEntry("l", 7), wantedEntry("ll", start)}
		for _, z := range zeros {
			for _, by := range []complex64{0, 1, 1 + 1i, 1i, 2i} {
				point := complex(real(z)+real(by), imag(z)+imag(by))
				if by == 0 {
					point = z
				}
				if index := impl.BookFind(list, point); index != 1 {
					t.Fatalf("BookFind with the start %v and the point %v returned %d", start, point, index)
				}
			}
		}
		if impl.BookFind(list, complex(1, minusZero)) != 1 || impl.BookFind(list, complex(minusZero, 1)) != 1 {
			t.Fatalf("BookFind with the start %v tells the signs of zeros apart", start)
		}
	}
}

// A step that is lost leaves the point where it is, and only that is found.
func TestBookFindLostSteps(t *testing.T) {
	list := []entry{wantedEntry("l", 1<<25), wantedEntry("l", complex(1e30, 1e-40)), wantedEntry("l", complex(infinite, -infinite)), wantedEntry("l", complex(1e-40, 1))}
	for _, c := range []struct {
		z    complex64
		want int
	}{
		{1 << 25, 0}, {1<<25 + 1i, 0}, {1<<25 + 4, -1}, {complex(1e30, 1e-40), 1}, {complex(1e30, 1), 1}, {complex(1e30, 0), -1}, {complex(infinite, -infinite), 2}, {complex(infinite, infinite), -1}, {complex(-infinite, -infinite), -1},
		{complex(1e-40, 1), 3}, {1 + 1i, 3}, {1 + 2i, 3}, {1i, -1},
	} {
		if index := impl.BookFind(list, c.z); index != c.want {
			t.Errorf("BookFind with the point %v returned %d instead of %d", c.z, index, c.want)
		}
	}
}

// Short and long creases are mixed, so that later workers are done before earlier ones.
func unevenBook() []entry {
	var list []entry
	for i := range 40 {
		list = append(list, wantedEntry(lefts(10-i%10), complex(float32(i), 0)))
	}
	return list
}

func TestBookIsTheSameEachTime(t *testing.T) {
	list := unevenBook()
	kept := slices.Clone(list)
	for _, z := range []complex64{0, 1, 5, 39, 20 + 1i, -2 + 4i, -10 + 10i, 39 + 1i, 100, 40 + 1i, -16} {
		want := wantedFind(kept, z)
		for range 60 {
			if index := impl.BookFind(list, z); index != want {
				t.Fatalf("BookFind of %v returned %d instead of %d", z, index, want)
			}
		}
	}
	if !slices.EqualFunc(list, kept, sameEntry) {
		t.Fatalf("BookFind writes into %v", kept)
	}
}

func TestBookIsSearchedAtTheSameTime(t *testing.T) {
	list := unevenBook()
	want := wantedFind(list, -2+4i)
	var all sync.WaitGroup
	for range 8 {
		all.Go(func() {
			for range 20 {
				if index := impl.BookFind(list, -2+4i); index != want {
					t.Errorf("BookFind returned %d instead of %d", index, want)
				}
			}
		})
	}
	all.Wait()
}

// A worker that is done may take a moment until it is counted no more: but not many of them with each call, as if a call did not wait for those that go on behind what it found.
func TestNoWorkerIsLeft(t *testing.T) {
	list := []entry{wantedEntry("l", 0)}
	for range 47 {
		list = append(list, wantedEntry(lefts(10), 50))
	}
	const calls = 300
	before, left := runtime.NumGoroutine(), 0
	for range calls {
		if index := impl.BookFind(list, 0); index != 0 {
			t.Fatalf("BookFind returned %d", index)
		}
		left += max(0, runtime.NumGoroutine()-before)
	}
	if left > 3*calls {
		t.Errorf("%d calls left %d workers that go on", calls, left)
	}
}

// A worker that waits for a receiver stays for ever.
func TestNoWorkerStays(t *testing.T) {
	list := unevenBook()
	before := runtime.NumGoroutine()
	for range 300 {
		for _, z := range []complex64{0, 3, 39 + 1i, -900} {
			impl.BookFind(list, z)
		}
	}
	for range 200 {
		if runtime.NumGoroutine() <= before {
			return
		}
		time.Sleep(10 * time.Millisecond)
	}
	t.Errorf("%d goroutines became %d", before, runtime.NumGoroutine())
}

func TestLongBooks(t *testing.T) {
	list := make([]entry, 200000)
	for i := range list {
		switch i % 4 {
		case 0:
			list[i] = entry{Creases: "l", Start: 1, Sum: 3}
		case 1:
			list[i] = wantedEntry("r", 8)
		case 2:
			list[i] = entry{Creases: strings.Repeat("l", 11+i%5)}
		}
	}
	if index := impl.BookFind(list, 1); index != -1 {
		t.Errorf("BookFind of a long list returned %d", index)
	}
	list[199998] = wantedEntry("l", 1)
	if index := impl.BookFind(list, 1); index != 199998 {
		t.Errorf("BookFind of a long list returned %d", index)
	}
	if index := impl.BookFind(list, 8); index != 1 {
		t.Errorf("BookFind of a long list returned %d", index)
	}
	long := strings.Repeat("l", 1<<22)
	if index := impl.BookFind([]entry{{Creases: long}, {Creases: long + "x", Sum: 5}, wantedEntry("l", 0)}, 1); index != 2 {
		t.Errorf("BookFind with long creases returned %d", index)
	}
	if impl.EntryRight(entry{Creases: long}) || !impl.EntryAlike(entry{Creases: long}, entry{Creases: strings.Repeat("l", 1<<22)}) {
		t.Errorf("entries with long creases are right or not alike")
	}
}
