package tests

import (
	"math"
	"math/rand"
	"slices"
	"strings"
	"testing"

	"loop.example/dragonnumbers/impl"
)

var (
	minusZero = float32(math.Copysign(0, -1))
	notNumber = float32(math.NaN())
	infinite  = float32(math.Inf(1))

	// badParts are no whole numbers of a size of at most 100000, or negative zeros.
	badParts = []float32{
		minusZero, notNumber, -notNumber, infinite, -infinite, 0.5, -0.5, 1.5, -1.5, 0.99999994, 1.0000001, -0.99999994, 99999.5, -99999.5, 100000.5, -100000.5,
		100001, -100001, 100002, 1000000, -1000000, 1000001, 1 << 24, -1 << 24, 1 << 31, -1 << 31, 1 << 32, 1 << 63, -1 << 63, 1 << 64,
		math.MaxFloat32, -math.MaxFloat32, math.SmallestNonzeroFloat32, -math.SmallestNonzeroFloat32, 1e-40, -1e-40,
	}
)

// The following ones calculate apart from the program: with whole numbers alone, which become points at the end.

func cornerOf(z gauss) complex64 { return complex(float32(z.Re), float32(z.Im)) }

// cornersOf never has a negative zero, because no int is one.
func cornersOf(list []gauss) []complex64 {
	var points []complex64
	for _, z := range list {
		points = append(points, cornerOf(z))
	}
	return points
}

// gaussOf is for points of paths.
func gaussOf(z complex64) gauss { return gauss{Re: int(real(z)), Im: int(imag(z))} }

func gaussList(points []complex64) []gauss {
	var list []gauss
	for _, z := range points {
		list = append(list, gaussOf(z))
	}
	return list
}

// walk goes one step with a heading, a number of quarters to the left, and one more for each letter: turned by l and r, straight on for s, back for b.
func walk(start gauss, heading int, letters string) []complex64 {
	list := []gauss{start}
	for _, letter := range "s" + letters {
		heading += map[rune]int{'s': 0, 'l': 1, 'b': 2, 'r': 3}[letter]
		start = plus(start, gaussUnits[heading%4])
		list = append(list, start)
	}
	return cornersOf(list)
}

func wantedCurve(word string) []complex64 { return walk(gauss{}, 0, word) }

func moved(list []complex64, by gauss) []complex64 {
	var points []gauss
	for _, z := range gaussList(list) {
		points = append(points, plus(z, by))
	}
	return cornersOf(points)
}

func mirroredList(list []complex64) []complex64 {
	var points []gauss
	for _, z := range gaussList(list) {
		points = append(points, mirrored(z))
	}
	return cornersOf(points)
}

func turnedRound(list []complex64) []complex64 {
	back := slices.Clone(list)
	slices.Reverse(back)
	return back
}

func isPathPart(x float32) bool {
	wide := float64(x)
	return wide == math.Trunc(wide) && math.Abs(wide) <= 100000 && (wide != 0 || !math.Signbit(wide))
}

func isPath(list []complex64) bool {
	if len(list) == 0 || len(list) > 1025 {
		return false
	}
	for i, z := range list {
		if !isPathPart(real(z)) || !isPathPart(imag(z)) {
			return false
		}
		if i > 0 && norm(plus(gaussOf(z), opposite(gaussOf(list[i-1])))) != 1 {
			return false
		}
	}
	return true
}

// edge holds both ends of an edge, the one further to the left or below first.
type edge struct{ a, b gauss }

func edgeOf(a, b gauss) edge {
	if a.Re > b.Re || a.Im > b.Im {
		a, b = b, a
	}
	return edge{a, b}
}

func wantedOnce(list []complex64) bool {
	seen := map[edge]bool{}
	points := gaussList(list)
	for i := 1; i < len(points); i++ {
		e := edgeOf(points[i-1], points[i])
		if seen[e] {
			return false
		}
		seen[e] = true
	}
	return true
}

func wantedCorners(list []complex64) (int, int) {
	counts, most := map[gauss]int{}, 0
	for _, z := range gaussList(list) {
		counts[z]++
		most = max(most, counts[z])
	}
	return len(counts), most
}

// wantedTwice takes the area apart into strips between the path and the real axis, apart from the products that the program adds.
func wantedTwice(list []complex64) int {
	points := gaussList(list)
	sum := 0
	for i, p := range points {
		q := points[(i+1)%len(points)]
		sum += (p.Re - q.Re) * (p.Im + q.Im)
	}
	return sum
}

// turnsOf has the letters of a walk, s and b among them.
func turnsOf(list []complex64) string {
	points, letters := gaussList(list), ""
	for i := 2; i < len(points); i++ {
		first := plus(points[i-1], opposite(points[i-2]))
		second := plus(points[i], opposite(points[i-1]))
		quarters := product(second, mirrored(first))
		letters += map[gauss]string{{Re: 1}: "s", {Im: 1}: "l", {Re: -1}: "b", {Im: -1}: "r"}[quarters]
	}
	return letters
}

func sameBits64(a, b complex64) bool {
	return math.Float32bits(real(a)) == math.Float32bits(real(b)) && math.Float32bits(imag(a)) == math.Float32bits(imag(b))
}

func samePoints(a, b []complex64) bool {
	return slices.EqualFunc(a, b, sameBits64)
}

func checkPoints(t *testing.T, what string, got []complex64, ok bool, want []complex64, fine bool) {
	t.Helper()
	if ok != fine || !samePoints(got, want) {
		t.Fatalf("%.80s returned %.300v, %v instead of %.300v, %v", what, got, ok, want, fine)
	}
}

// shortWalks has all walks of up to 6 points, with each heading, from several points.
func shortWalks() [][]complex64 {
	var list [][]complex64
	texts, starts := []string{""}, []gauss{{}, {Re: -2, Im: 1}, {Re: 1, Im: -1}, {Re: -100000, Im: 99990}, {Im: -7}}
	for n := 0; n < len(texts); n++ {
		for heading := range 4 {
			// A walk from the edge of the range may leave it.
			if walked := walk(starts[(n+heading)%len(starts)], heading, texts[n]); isPath(walked) {
				list = append(list, walked)
			}
		}
		if len(texts[n]) < 4 {
			texts = append(texts, texts[n]+"l", texts[n]+"r", texts[n]+"s", texts[n]+"b")
		}
	}
	return list
}

// longWalks has walks up to the ends of the range and up to 1025 points.
func longWalks() [][]complex64 {
	random := rand.New(rand.NewSource(7))
	straight, zigzag := strings.Repeat("s", 1023), strings.Repeat("lr", 512)[:1023]
	list := [][]complex64{
		walk(gauss{}, 0, straight), walk(gauss{Re: 98976}, 0, straight), walk(gauss{Re: -98976}, 2, straight), walk(gauss{Im: 98976}, 1, straight), walk(gauss{Im: -98976}, 3, straight),
		walk(gauss{Re: 100000, Im: -512}, 1, straight), walk(gauss{Re: -512, Im: -100000}, 0, straight), walk(gauss{Re: -100000, Im: 100000}, 0, straight), walk(gauss{Re: 100000, Im: 100000}, 3, straight),
		walk(gauss{Re: 99488, Im: 99488}, 0, zigzag), walk(gauss{Re: -99488, Im: -99488}, 2, zigzag),
		walk(gauss{Re: 100000, Im: -100000}, 2, strings.Repeat("b", 1023)), walk(gauss{Re: -3, Im: 2}, 1, strings.Repeat("l", 1023)),
		walk(gauss{Re: 5, Im: -99500}, 0, strings.Repeat("s", 255)+"l"+strings.Repeat("s", 255)+"l"+strings.Repeat("s", 255)+"l"+strings.Repeat("s", 255)),
	}
	for _, n := range []int{7, 20, 63, 150, 511, 512, 1000, 1022, 1023} {
		letters := make([]byte, n)
		for _, from := range []string{"lr", "lrs", "lrsb", "lls", "rrrs", "sssssl"} {
			for i := range letters {
				letters[i] = from[random.Intn(len(from))]
			}
			start := gauss{Re: random.Intn(197000) - 98500, Im: random.Intn(197000) - 98500}
			list = append(list, walk(start, random.Intn(4), string(letters)), walk(gauss{Re: random.Intn(9) - 4}, random.Intn(4), string(letters)))
		}
	}
	return list
}

// paths has paths of all kinds: of one point, with all turns, and curves, also moved and turned.
func paths() [][]complex64 {
	list := append(shortWalks(), longWalks()...)
	for _, z := range gaussGrid([]int{0, 1, -1, 7, 99999, 100000, -99999, -100000}) {
		list = append(list, cornersOf([]gauss{z}))
	}
	for i, creases := range append(allCreases(5), "rlrrlrl", "lllllllll", "llllllllll", "rllrlrrlrl") {
		list = append(list, wantedCurve(wantedWord(creases)), walk(gauss{Re: 31 * i, Im: -5 * i}, i%4, wantedWord(creases)))
	}
	return list
}

// put returns a list with another point at an index.
func put(list []complex64, index int, z complex64) []complex64 {
	other := slices.Clone(list)
	other[index] = z
	return other
}

// listsWithBadPoints has a bad part at the beginning, in the middle and at the end of lists, in either part.
func listsWithBadPoints() [][]complex64 {
	var list [][]complex64
	paths := [][]complex64{{0}, {1}, {0, 1}, {-1, 0}, wantedCurve("llrllrr"), walk(gauss{Re: 3}, 2, "sssss"), walk(gauss{Im: -3}, 1, "sssss"), walk(gauss{}, 0, strings.Repeat("s", 1023))}
	for _, path := range paths {
		for _, index := range []int{0, len(path) / 2, len(path) - 1} {
			z := path[index]
			for _, bad := range badParts {
				list = append(list, put(path, index, complex(bad, imag(z))), put(path, index, complex(real(z), bad)), put(path, index, complex(bad, bad)))
			}
		}
	}
	return list
}

// listsWithNegativeZeros would be paths if their negative zeros were none: each one has one in one part of one point.
func listsWithNegativeZeros() [][]complex64 {
	var list [][]complex64
	for _, path := range [][]complex64{{0}, {0, 1}, {1, 0}, {1i, 0}, wantedCurve("llrr"), wantedCurve("lll"), walk(gauss{Re: -4}, 0, "ssss"), walk(gauss{Im: 4}, 3, "ssss"), wantedCurve(wantedWord("llllllllll"))} {
		for i, z := range path {
			if real(z) == 0 {
				list = append(list, put(path, i, complex(minusZero, imag(z))))
			}
			if imag(z) == 0 {
				list = append(list, put(path, i, complex(real(z), minusZero)))
			}
			if z == 0 {
				list = append(list, put(path, i, complex(minusZero, minusZero)))
			}
		}
	}
	return list
}

// noPaths has lists of no point and of too many, with bad points, with wrong steps, and beyond the range.
func noPaths() [][]complex64 {
	straight := strings.Repeat("s", 1023)
	list := [][]complex64{
		nil, {}, make([]complex64, 0, 9), {0, 0}, {0, 1 + 1i}, {0, 2}, {0, -2i}, {0, 1, 1}, {0, 1, 3}, {0, 1, 2 + 1i}, {0, 1 + 5i}, {0, 100000}, {-100000, 100000},
		walk(gauss{}, 0, straight+"s"), walk(gauss{}, 0, straight+"l"), walk(gauss{}, 0, strings.Repeat("b", 1024)), walk(gauss{}, 0, strings.Repeat("llrr", 700)),
		walk(gauss{Re: 98977}, 0, straight), walk(gauss{Re: -98977}, 2, straight), walk(gauss{Im: 98977}, 1, straight), walk(gauss{Im: -98977}, 3, straight),
		walk(gauss{Re: 100001}, 2, ""), walk(gauss{Re: -100001}, 0, ""), walk(gauss{Re: 5, Im: 100001}, 3, "l"), walk(gauss{Re: 7, Im: -100001}, 1, "s"),
		walk(gauss{Re: 100000}, 0, ""), walk(gauss{Re: -100000}, 2, ""), walk(gauss{Im: 100000}, 1, ""), walk(gauss{Im: -100000}, 3, ""),
		walk(gauss{Re: 1 << 24}, 0, ""), walk(gauss{Re: 1 << 30, Im: 1}, 1, "lr"), walk(gauss{}, 0, strings.Repeat("b", 1<<20)),
		make([]complex64, 1025), make([]complex64, 1026), make([]complex64, 1<<20), {complex(notNumber, notNumber)}, {complex(infinite, -infinite), complex(infinite, -infinite)},
	}
	list = append(list, listsWithBadPoints()...)
	list = append(list, listsWithNegativeZeros()...)
	for _, path := range [][]complex64{wantedCurve("llr"), walk(gauss{Re: -9, Im: 4}, 3, "srsl"), walk(gauss{Re: 99999}, 1, straight)} {
		for _, index := range []int{1, len(path) / 2, len(path) - 1} {
			z := path[index-1]
			list = append(list, put(path, index, z), put(path, index, z+1+1i), put(path, index, z-1+1i), put(path, index, z+2), put(path, index, z-3i), put(path, index, z-50000))
		}
	}
	return list
}

// checkPathFails checks that no function takes a list as a path, and that zero values are told.
func checkPathFails(t *testing.T, list []complex64) {
	t.Helper()
	if impl.CurvePath(list) || impl.CurveOnce(list) {
		t.Fatalf("CurvePath or CurveOnce holds for %.300v", list)
	}
	word, ok := impl.CurveWord(list)
	checkText(t, "CurveWord of no path", word, ok, "", false)
	if corners, most, ok := impl.CurveCorners(list); ok || corners != 0 || most != 0 {
		t.Fatalf("CurveCorners of %.300v returned %d, %d, %v", list, corners, most, ok)
	}
	if low, high, ok := impl.CurveBox(list); ok || !sameBits64(low, 0) || !sameBits64(high, 0) {
		t.Fatalf("CurveBox of %.300v returned %v, %v, %v", list, low, high, ok)
	}
	for _, ends := range [][2]int{{0, len(list)}, {0, 1}, {0, 0}, {1, 2}, {len(list) - 1, len(list)}, {-1, 1}, {math.MinInt, math.MaxInt}} {
		window, ok := impl.CurveWindow(list, ends[0], ends[1])
		checkPoints(t, "CurveWindow of no path", window, ok, nil, false)
	}
	if twice, ok := impl.CurveTwice(list); ok || twice != 0 {
		t.Fatalf("CurveTwice of %.300v returned %d, %v", list, twice, ok)
	}
}

func TestCurvesOfNoPath(t *testing.T) {
	for _, list := range noPaths() {
		if isPath(list) {
			t.Fatalf("%.300v is a path", list)
		}
		checkPathFails(t, list)
	}
}

func TestPromise36CurveIsPathWithWord(t *testing.T) {
	for _, s := range words() {
		list, ok := impl.CurveOf(s)
		checkPoints(t, "CurveOf of "+s, list, ok, wantedCurve(s), true)
		if len(list) != len(s)+2 || !sameBits64(list[0], 0) || !sameBits64(list[1], 1) {
			t.Fatalf("CurveOf of %q has %d points and begins with %v", s, len(list), list[:2])
		}
		if !impl.CurvePath(list) {
			t.Fatalf("CurvePath does not hold for the curve of %q", s)
		}
		word, fine := impl.CurveWord(list)
		checkText(t, "CurveWord of the curve of "+s, word, fine, s, true)
	}
}

func TestCurveOfEnds(t *testing.T) {
	for s, want := range map[string][]complex64{
		"": {0, 1}, "l": {0, 1, 1 + 1i}, "r": {0, 1, 1 - 1i}, "ll": {0, 1, 1 + 1i, 1i}, "lr": {0, 1, 1 + 1i, 2 + 1i}, "rr": {0, 1, 1 - 1i, -1i}, "rl": {0, 1, 1 - 1i, 2 - 1i},
		"lll": {0, 1, 1 + 1i, 1i, 0}, "rrr": {0, 1, 1 - 1i, -1i, 0}, "llr": {0, 1, 1 + 1i, 1i, 2i}, "llll": {0, 1, 1 + 1i, 1i, 0, 1}, "llrr": {0, 1, 1 + 1i, 1i, 2i, 1 + 2i},
	} {
		list, ok := impl.CurveOf(s)
		checkPoints(t, "CurveOf of "+s, list, ok, want, true)
	}
	if list, ok := impl.CurveOf(lefts(1023)); !ok || len(list) != 1025 || !sameBits64(list[1024], 0) {
		t.Errorf("CurveOf of 1023 letters returned %d points, %v", len(list), ok)
	}
	if impl.PointsMax != 1025 {
		t.Errorf("PointsMax is %d", impl.PointsMax)
	}
	for _, s := range noWords() {
		list, ok := impl.CurveOf(s)
		checkPoints(t, "CurveOf of no word", list, ok, nil, false)
	}
	for first := range 256 {
		for _, s := range []string{string([]byte{byte(first)}), string([]byte{'l', byte(first)}), string([]byte{byte(first), 'r'})} {
			if !isWord(s) {
				list, ok := impl.CurveOf(s)
				checkPoints(t, "CurveOf of no word", list, ok, nil, false)
			}
		}
	}
}

func TestPromise37PathWithoutLastAndMirrored(t *testing.T) {
	for _, list := range paths() {
		if !isPath(list) || !impl.CurvePath(list) {
			t.Fatalf("CurvePath of %.300v returned %v, for a path %v", list, impl.CurvePath(list), isPath(list))
		}
		if len(list) >= 2 && !impl.CurvePath(list[:len(list)-1]) {
			t.Fatalf("CurvePath does not hold for %.300v without the last point", list)
		}
		if !impl.CurvePath(mirroredList(list)) {
			t.Fatalf("CurvePath does not hold for %.300v mirrored", list)
		}
	}
}

// TestCurvePathSteps has all steps from several points: just those of the size 1 along one part lead on.
func TestCurvePathSteps(t *testing.T) {
	steps := append(gaussSquare(4), gaussGrid([]int{0, 1, -1, 255, -256, 65535, 65536, -65537, 90000, -90000})...)
	for _, start := range []gauss{{}, {Re: 1}, {Im: -1}, {Re: -2, Im: 3}, {Re: 5000, Im: -9000}, {Re: 99996, Im: -99996}} {
		for _, step := range steps {
			next := plus(start, step)
			want := norm(step) == 1
			for _, list := range [][]gauss{{start, next}, {next, start}, {next, start, plus(start, gauss{Im: 1})}, {plus(start, gauss{Re: -1}), start, next}} {
				if got := impl.CurvePath(cornersOf(list)); got != want {
					t.Fatalf("CurvePath of %v returned %v", list, got)
				}
			}
		}
	}
}

func TestCurvePathParts(t *testing.T) {
	for _, bad := range badParts {
		for _, other := range []float32{0, 1, -1, 100000, bad} {
			for _, z := range []complex64{complex(bad, other), complex(other, bad)} {
				checkPathFails(t, []complex64{z})
				checkPathFails(t, []complex64{z, z + 1})
				checkPathFails(t, []complex64{z - 1i, z})
			}
		}
	}
	for _, z := range gaussGrid([]int{0, 1, -1, 2, 16384, 65537, 99998, 99999, 100000, -99999, -100000, 100001, -100001, 100002}) {
		if list := cornersOf([]gauss{z}); impl.CurvePath(list) != isPath(list) {
			t.Fatalf("CurvePath of %v returned %v", list, !isPath(list))
		}
	}
}

func TestCurvePathLengths(t *testing.T) {
	for _, c := range []struct {
		points int
		want   bool
	}{{0, false}, {1, true}, {2, true}, {3, true}, {1024, true}, {1025, true}, {1026, false}, {1027, false}, {2050, false}} {
		for _, letters := range []string{"s", "b", "l", "lr"} {
			list := walk(gauss{Re: -3}, 1, strings.Repeat(letters, 2100))[:c.points]
			if got := impl.CurvePath(list); got != c.want {
				t.Errorf("CurvePath of %d points returned %v", c.points, got)
			}
		}
	}
}

func TestPromise38EndIsLastPoint(t *testing.T) {
	for _, creases := range allCreases(10) {
		end, ok := impl.CurveEnd(creases)
		if !ok {
			t.Fatalf("CurveEnd of %q fails", creases)
		}
		word, _ := impl.TurnWord(creases)
		list, fine := impl.CurveOf(word)
		if !fine || !sameBits64(end, list[len(list)-1]) {
			t.Fatalf("CurveEnd of %q returned %v, but the last point is %v", creases, end, list[len(list)-1])
		}
		letters := []byte(creases)
		slices.Reverse(letters)
		if back, told := impl.CurveEnd(string(letters)); !told || !sameBits64(back, end) {
			t.Fatalf("CurveEnd of %q is %v, but in the opposite order %v", creases, end, back)
		}
		want := gauss{Re: 1}
		for _, crease := range creases {
			want = product(want, map[rune]gauss{'l': {Re: 1, Im: 1}, 'r': {Re: 1, Im: -1}}[crease])
		}
		if !sameBits64(end, cornerOf(want)) {
			t.Fatalf("CurveEnd of %q returned %v", creases, end)
		}
	}
}

func TestCurveEndEnds(t *testing.T) {
	for creases, want := range map[string]complex64{
		"": 1, "l": 1 + 1i, "r": 1 - 1i, "ll": 2i, "lr": 2, "rl": 2, "rr": -2i, "lll": -2 + 2i, "rrr": -2 - 2i, "llll": -4, "rrrr": -4, "llr": 2 + 2i,
		"llllllll": 16, "llllllllll": 32i, "rrrrrrrrrr": -32i, "lrlrlrlrlr": 32, "lllllllrrr": -32, "llllllllr": 16 - 16i,
	} {
		if end, ok := impl.CurveEnd(creases); !ok || !sameBits64(end, want) {
			t.Errorf("CurveEnd of %q returned %v, %v", creases, end, ok)
		}
	}
	for _, creases := range noCreases() {
		if end, ok := impl.CurveEnd(creases); ok || !sameBits64(end, 0) {
			t.Fatalf("CurveEnd of %.60q returned %v, %v", creases, end, ok)
		}
	}
}

func TestPromise39CurveOfWordIsPath(t *testing.T) {
	told, turned := 0, 0
	for _, list := range paths() {
		word, ok := impl.CurveWord(list)
		if letters := turnsOf(list); len(list) < 2 || strings.ContainsAny(letters, "sb") {
			checkText(t, "CurveWord of a path that is no curve", word, ok, "", false)
			continue
		} else {
			checkText(t, "CurveWord of a path", word, ok, letters, true)
		}
		told++
		curve, fine := impl.CurveOf(word)
		if !fine || len(curve) != len(list) {
			t.Fatalf("CurveOf of the word of %.300v has %d points", list, len(curve))
		}
		start := gaussOf(list[0])
		first := plus(gaussOf(list[1]), opposite(start))
		if first != (gauss{Re: 1}) {
			turned++
		}
		for i, z := range curve {
			if plus(product(gaussOf(z), first), start) != gaussOf(list[i]) {
				t.Fatalf("the point %d of the curve of the word of %.300v is %v", i, list, z)
			}
		}
	}
	if told < 100 || turned < 50 {
		t.Errorf("%d paths have a word, %d of them do not begin with the step 1", told, turned)
	}
}

func TestCurveWordEnds(t *testing.T) {
	for _, c := range []struct {
		list []complex64
		want string
		ok   bool
	}{
		{[]complex64{0}, "", false},
		{[]complex64{-5 + 2i}, "", false},
		{[]complex64{0, 1}, "", true},
		{[]complex64{0, -1}, "", true},
		{[]complex64{3 - 2i, 3 - 1i}, "", true},
		{[]complex64{0, 1, 1 + 1i}, "l", true},
		{[]complex64{0, 1, 1 - 1i}, "r", true},
		{[]complex64{0, 1, 2}, "", false},
		{[]complex64{0, 1, 0}, "", false},
		{[]complex64{0, 1i, 0}, "", false},
		{[]complex64{0, -1i, -2i}, "", false},
		{[]complex64{0, 1i, -1 + 1i}, "l", true},
		{[]complex64{0, -1, -1 + 1i}, "r", true},
		{[]complex64{0, -1, -1 - 1i}, "l", true},
		{[]complex64{4, 4 - 1i, 3 - 1i, 3}, "rr", true},
		{[]complex64{4, 4 - 1i, 3 - 1i, 2 - 1i}, "", false},
		{[]complex64{4, 4 - 1i, 3 - 1i, 4 - 1i}, "", false},
		{[]complex64{-1, -2, -1, -1 + 1i}, "", false},
		{[]complex64{0, 1, 2, 2 + 1i}, "", false},
		{[]complex64{0, 1, 1 + 2i}, "", false},
		{[]complex64{0, 1, complex(1, minusZero)}, "", false},
	} {
		word, ok := impl.CurveWord(c.list)
		checkText(t, "CurveWord", word, ok, c.want, c.ok)
	}
	letters := strings.Repeat("lrrl", 256)[:1023]
	word, ok := impl.CurveWord(walk(gauss{Re: -9, Im: 90000}, 3, letters))
	checkText(t, "CurveWord of 1025 points", word, ok, letters, true)
	for _, other := range []string{"s", "b"} {
		for _, at := range []int{0, 1, 511, 1021, 1022} {
			word, ok := impl.CurveWord(walk(gauss{Re: 1, Im: 1}, at%4, letters[:at]+other+letters[at+1:]))
			checkText(t, "CurveWord with one turn less", word, ok, "", false)
		}
	}
}

func TestPromise40CurvesOfCreasesGoOnce(t *testing.T) {
	for _, creases := range allCreases(10) {
		word, _ := impl.TurnWord(creases)
		if folded, ok := impl.TurnFold(word); !ok || folded != creases {
			t.Fatalf("TurnFold of the word of %q fails", creases)
		}
		list, _ := impl.CurveOf(word)
		if !impl.CurveOnce(list) {
			t.Fatalf("CurveOnce does not hold for the curve of %q", creases)
		}
		if corners, most, ok := impl.CurveCorners(list); !ok || most > 2 || corners < len(list)/2 {
			t.Fatalf("CurveCorners of the curve of %q returned %d, %d, %v", creases, corners, most, ok)
		}
	}
}

func TestPromise41OnceTurnedRoundAndBeginnings(t *testing.T) {
	once, twice := 0, 0
	for _, list := range paths() {
		if got := impl.CurveOnce(list); got != wantedOnce(list) {
			t.Fatalf("CurveOnce of %.300v returned %v", list, got)
		} else if !got {
			twice++
			continue
		}
		once++
		if !impl.CurveOnce(turnedRound(list)) {
			t.Fatalf("CurveOnce does not hold for %.300v turned round", list)
		}
		for n := 1; n < len(list); n += 1 + n/40 {
			if !impl.CurveOnce(list[:n]) {
				t.Fatalf("CurveOnce does not hold for the first %d points of %.300v", n, list)
			}
		}
	}
	if once < 100 || twice < 100 {
		t.Errorf("%d paths go once along each edge, %d do not", once, twice)
	}
}

func TestCurveOnceEnds(t *testing.T) {
	for _, c := range []struct {
		start   gauss
		heading int
		letters string
		want    bool
	}{
		{gauss{}, 0, "", true},
		{gauss{}, 0, "b", false},
		{gauss{Re: 4, Im: -2}, 3, "b", false},
		{gauss{}, 0, "sb", false},
		{gauss{}, 0, "lll", true},
		{gauss{}, 0, "llll", false},
		{gauss{Re: -1}, 2, "rrrr", false},
		{gauss{}, 0, "lllr", true},
		{gauss{}, 0, "llls", true},
		{gauss{}, 1, "lllb", false},
		{gauss{}, 0, "lllrrr", true},
		{gauss{}, 0, "lllrrrr", false},
		{gauss{}, 0, "sslsslsslss", true},
		{gauss{}, 0, "sslsslsslssl", false},
		{gauss{Re: -1}, 0, "slllsr", true},
		{gauss{Re: -1}, 0, "sllls", true},
		{gauss{Re: -1}, 0, "slllr", false},
		{gauss{Re: -1}, 0, "slllrrr", false},
		{gauss{Re: -1}, 0, "slllb", false},
		{gauss{Re: -2}, 0, "ssllls", true},
		{gauss{Re: -2}, 0, "slllrl", false},
	} {
		list := walk(c.start, c.heading, c.letters)
		if wantedOnce(list) != c.want {
			t.Errorf("the test is wrong about %q", c.letters)
		}
		if got := impl.CurveOnce(list); got != c.want {
			t.Errorf("CurveOnce of %v returned %v", list, got)
		}
	}
	for _, z := range []complex64{0, -1, 100000 - 100000i} {
		if !impl.CurveOnce([]complex64{z}) {
			t.Errorf("CurveOnce does not hold for the point %v", z)
		}
	}
	long := strings.Repeat("s", 1022)
	if !impl.CurveOnce(walk(gauss{Re: 100000, Im: 100000}, 2, long+"l")) || impl.CurveOnce(walk(gauss{Re: 100000, Im: 100000}, 2, long+"b")) {
		t.Errorf("CurveOnce does not tell the last edge of 1025 points")
	}
	if impl.CurveOnce(walk(gauss{Re: -100000, Im: 1}, 0, "b"+long)) {
		t.Errorf("CurveOnce does not tell the first edges of 1025 points")
	}
}

func TestPromise42Corners(t *testing.T) {
	for _, list := range paths() {
		corners, most, ok := impl.CurveCorners(list)
		wantCorners, wantMost := wantedCorners(list)
		if !ok || corners != wantCorners || most != wantMost {
			t.Fatalf("CurveCorners of %.300v returned %d, %d, %v", list, corners, most, ok)
		}
		if corners < 1 || corners > len(list) || corners*most < len(list) {
			t.Fatalf("CurveCorners of %d points returned %d and %d", len(list), corners, most)
		}
		again, mostAgain, fine := impl.CurveCorners(turnedRound(list))
		if !fine || again != corners || mostAgain != most {
			t.Fatalf("CurveCorners of %.300v turned round returned %d, %d, %v", list, again, mostAgain, fine)
		}
	}
}

func TestCurveCornersEnds(t *testing.T) {
	for _, c := range []struct {
		letters       string
		corners, most int
	}{
		{"", 2, 1}, {"b", 2, 2}, {"bb", 2, 2}, {"bbb", 2, 3}, {"s", 3, 1}, {"lll", 4, 2}, {"llll", 4, 2}, {"lllllll", 4, 3}, {"sbs", 3, 2}, {"bs", 3, 2},
		{strings.Repeat("s", 1023), 1025, 1}, {strings.Repeat("b", 1023), 2, 513}, {strings.Repeat("b", 1022), 2, 512}, {lefts(1023), 4, 257},
	} {
		for heading := range 4 {
			corners, most, ok := impl.CurveCorners(walk(gauss{Re: -heading, Im: 1}, heading, c.letters))
			if !ok || corners != c.corners || most != c.most {
				t.Errorf("CurveCorners of the walk %.60q returned %d, %d, %v", c.letters, corners, most, ok)
			}
		}
	}
	if corners, most, ok := impl.CurveCorners([]complex64{0}); !ok || corners != 1 || most != 1 {
		t.Errorf("CurveCorners of one point returned %d, %d, %v", corners, most, ok)
	}
}

func TestPromise43BoxHasAll(t *testing.T) {
	for _, list := range paths() {
		low, high, ok := impl.CurveBox(list)
		if !ok {
			t.Fatalf("CurveBox of %.300v fails", list)
		}
		var res, ims []int
		for _, z := range gaussList(list) {
			res, ims = append(res, z.Re), append(ims, z.Im)
		}
		least, greatest := gauss{Re: slices.Min(res), Im: slices.Min(ims)}, gauss{Re: slices.Max(res), Im: slices.Max(ims)}
		if !sameBits64(low, cornerOf(least)) || !sameBits64(high, cornerOf(greatest)) {
			t.Fatalf("CurveBox of %.300v returned %v and %v", list, low, high)
		}
		for _, z := range list {
			if real(z) < real(low) || real(z) > real(high) || imag(z) < imag(low) || imag(z) > imag(high) {
				t.Fatalf("%v is beyond CurveBox %v and %v", z, low, high)
			}
		}
		if greatest.Re-least.Re+greatest.Im-least.Im >= len(list) {
			t.Fatalf("CurveBox of %d points returned %v and %v", len(list), low, high)
		}
	}
}

func TestCurveBoxEnds(t *testing.T) {
	for _, c := range []struct {
		list      []complex64
		low, high complex64
	}{
		{[]complex64{0}, 0, 0},
		{[]complex64{-7 + 100000i}, -7 + 100000i, -7 + 100000i},
		{[]complex64{0, 1}, 0, 1},
		{[]complex64{1i, 0}, 0, 1i},
		{[]complex64{-1, 0}, -1, 0},
		{[]complex64{0, -1i}, -1i, 0},
		{[]complex64{5 + 5i, 4 + 5i, 4 + 6i}, 4 + 5i, 5 + 6i},
		{[]complex64{-5 - 5i, -5 - 6i, -4 - 6i, -3 - 6i}, -5 - 6i, -3 - 5i},
		{[]complex64{100000 - 100000i, 99999 - 100000i, 99999 - 99999i}, 99999 - 100000i, 100000 - 99999i},
		{wantedCurve(wantedWord("llll")), -4 - 1i, 1 + 2i},
	} {
		if low, high, ok := impl.CurveBox(c.list); !ok || !sameBits64(low, c.low) || !sameBits64(high, c.high) {
			t.Errorf("CurveBox of %v returned %v, %v, %v", c.list, low, high, ok)
		}
	}
}

// windowEnds has all indexes for short lists, and some for long ones.
func windowEnds(n int) []int {
	if n <= 8 {
		var all []int
		for k := -2; k <= n+2; k++ {
			all = append(all, k)
		}
		return all
	}
	return []int{-n, -1, 0, 1, 2, n / 3, n / 2, n - 2, n - 1, n, n + 1, 2 * n}
}

func TestPromise44WindowIsPathFrom0(t *testing.T) {
	for _, list := range paths() {
		for _, from := range windowEnds(len(list)) {
			for _, to := range windowEnds(len(list)) {
				window, ok := impl.CurveWindow(list, from, to)
				if from < 0 || from >= to || to > len(list) {
					checkPoints(t, "CurveWindow with wrong indexes", window, ok, nil, false)
					continue
				}
				want := moved(list[from:to], opposite(gaussOf(list[from])))
				checkPoints(t, "CurveWindow", window, ok, want, true)
				if !impl.CurvePath(window) || !sameBits64(window[0], 0) {
					t.Fatalf("CurveWindow of %.300v from %d to %d is no path from 0", list, from, to)
				}
				for i := 1; i < len(window); i++ {
					if window[i]-window[i-1] != list[from+i]-list[from+i-1] {
						t.Fatalf("the points of CurveWindow of %.300v from %d to %d differ otherwise", list, from, to)
					}
				}
			}
		}
		all, ok := impl.CurveWindow(list, 0, len(list))
		checkPoints(t, "CurveWindow of all", all, ok, moved(list, opposite(gaussOf(list[0]))), true)
	}
}

func TestCurveWindowEnds(t *testing.T) {
	list := []complex64{2 - 1i, 1 - 1i, 1, 0, 0 + 1i, 1i - 1}
	for _, c := range []struct {
		from, to int
		want     []complex64
	}{
		{0, 6, []complex64{0, -1, -1 + 1i, -2 + 1i, -2 + 2i, -3 + 2i}},
		{0, 1, []complex64{0}},
		{5, 6, []complex64{0}},
		{3, 4, []complex64{0}},
		{1, 3, []complex64{0, 1i}},
		{2, 6, []complex64{0, -1, -1 + 1i, -2 + 1i}},
		{0, 0, nil}, {3, 3, nil}, {6, 6, nil}, {3, 1, nil}, {6, 0, nil}, {1, 0, nil}, {0, -1, nil}, {-1, 0, nil}, {-1, 1, nil}, {-1, 6, nil}, {-2, -1, nil}, {0, 7, nil}, {5, 7, nil}, {6, 7, nil}, {7, 6, nil}, {7, 8, nil},
		{math.MinInt, math.MinInt + 1, nil}, {math.MinInt, 6, nil}, {math.MinInt, math.MaxInt, nil}, {math.MaxInt, math.MinInt, nil}, {0, math.MaxInt, nil}, {3, math.MinInt, nil}, {math.MaxInt - 1, math.MaxInt, nil}, {math.MaxInt, math.MaxInt, nil}, {1 << 32, 1<<32 + 2, nil}, {0, 1<<32 + 2, nil},
	} {
		window, ok := impl.CurveWindow(list, c.from, c.to)
		checkPoints(t, "CurveWindow", window, ok, c.want, c.want != nil)
	}
	// What is beyond the length is no part of the list, even where there is room for it.
	window, ok := impl.CurveWindow(list[:3], 0, 4)
	checkPoints(t, "CurveWindow beyond the length", window, ok, nil, false)
	// A window of no path fails, even where the window alone would be one.
	window, ok = impl.CurveWindow(append(slices.Clone(list), 9), 0, 3)
	checkPoints(t, "CurveWindow of no path", window, ok, nil, false)
}

func TestPromise45TwiceTurnedRoundAndMirrored(t *testing.T) {
	for _, list := range paths() {
		twice, ok := impl.CurveTwice(list)
		if !ok || twice != wantedTwice(list) {
			t.Fatalf("CurveTwice of %.300v returned %d, %v", list, twice, ok)
		}
		if back, fine := impl.CurveTwice(turnedRound(list)); !fine || back != -twice {
			t.Fatalf("CurveTwice of %.300v is %d, but turned round %d", list, twice, back)
		}
		if other, fine := impl.CurveTwice(mirroredList(list)); !fine || other != -twice {
			t.Fatalf("CurveTwice of %.300v is %d, but mirrored %d", list, twice, other)
		}
	}
}

func TestCurveTwiceEnds(t *testing.T) {
	side := strings.Repeat("s", 255)
	square := side + "l" + side + "l" + side + "l" + side
	for _, c := range []struct {
		start   gauss
		heading int
		letters string
		want    int
	}{
		{gauss{}, 0, "", 0}, {gauss{Re: 9, Im: -4}, 1, "", 0}, {gauss{}, 0, "s", 0}, {gauss{Re: 3, Im: 5}, 2, "b", 0},
		{gauss{}, 0, "l", 1}, {gauss{}, 0, "r", -1}, {gauss{Re: -6, Im: 8}, 3, "l", 1}, {gauss{}, 0, "ll", 2}, {gauss{}, 0, "lll", 2}, {gauss{}, 2, "rrr", -2},
		{gauss{}, 0, "lllllll", 4}, {gauss{}, 0, "llllllllb", 4}, {gauss{}, 0, "llr", 2}, {gauss{}, 0, "lr", 0},
		{gauss{Re: 99999, Im: 99999}, 0, "lll", 2}, {gauss{Re: 99999, Im: -99999}, 0, "rrr", -2}, {gauss{Re: -100000, Im: -100000}, 0, "ll", 2}, {gauss{Re: 99999, Im: 99999}, 0, "l", 1},
		{gauss{}, 0, square, 2 * 256 * 256}, {gauss{Re: 99744, Im: 99744}, 0, square, 2 * 256 * 256}, {gauss{Re: -99744, Im: 99744}, 1, square, 2 * 256 * 256},
	} {
		if twice, ok := impl.CurveTwice(walk(c.start, c.heading, c.letters)); !ok || twice != c.want {
			t.Errorf("CurveTwice of the walk %.60q from %v returned %d, %v", c.letters, c.start, twice, ok)
		}
	}
	for _, z := range []complex64{0, 7 - 3i, 100000 + 100000i, -100000 + 99999i} {
		if twice, ok := impl.CurveTwice([]complex64{z}); !ok || twice != 0 {
			t.Errorf("CurveTwice of the point %v returned %d, %v", z, twice, ok)
		}
	}
}

// callAllWith calls all functions that take a list.
func callAllWith(list []complex64) {
	impl.CurvePath(list)
	impl.CurveWord(list)
	impl.CurveOnce(list)
	impl.CurveCorners(list)
	impl.CurveBox(list)
	impl.CurveTwice(list)
	for _, ends := range [][2]int{{0, len(list)}, {0, 1}, {0, len(list) / 2}, {len(list) / 2, len(list)}, {len(list) - 1, len(list)}, {0, len(list) + 1}, {1, 0}, {math.MinInt, math.MaxInt}} {
		impl.CurveWindow(list, ends[0], ends[1])
	}
}

func TestCurvesLeaveTheirListsAlone(t *testing.T) {
	for _, list := range append(paths(), noPaths()...) {
		// What stands in the room behind the list is not to be written, either.
		room := append(slices.Clone(list), 77-7i, -77+7i, 5)
		before := slices.Clone(room)
		callAllWith(room[:len(list)])
		if !samePoints(room, before) {
			t.Fatalf("a function writes into %.300v", before)
		}
	}
}

func TestCurveResultsShareNoMemory(t *testing.T) {
	for _, path := range [][]complex64{{0}, {3i}, {0, 1}, wantedCurve("llr"), walk(gauss{}, 0, strings.Repeat("lrs", 341))} {
		room := append(slices.Clone(path), 77, 78)
		list, before := room[:len(path)], slices.Clone(room)
		for from := 0; from < len(list); from += 1 + len(list)/5 {
			window, _ := impl.CurveWindow(list, from, len(list))
			other, _ := impl.CurveWindow(list, from, len(list))
			kept := slices.Clone(other)
			for i := range window[:cap(window)] {
				window[:cap(window)][i] = -9 - 9i
			}
			window = append(window, -8)
			if !samePoints(room, before) || !samePoints(other, kept) {
				t.Fatalf("CurveWindow of %.300v from %d shares memory", before, from)
			}
			for i := range room {
				room[i] = 6 - 6i
			}
			if !samePoints(other, kept) {
				t.Fatalf("CurveWindow of %.300v from %d keeps the list", before, from)
			}
			copy(room, before)
		}
	}
	for _, s := range []string{"", "l", "llr", lefts(1023)} {
		first, _ := impl.CurveOf(s)
		for i := range first[:cap(first)] {
			first[:cap(first)][i] = -9 - 9i
		}
		second, ok := impl.CurveOf(s)
		checkPoints(t, "CurveOf behind a changed result", second, ok, wantedCurve(s), true)
	}
}
