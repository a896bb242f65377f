package tests

import (
	"math"
	"math/rand"
	"slices"
	"strings"
	"testing"

	"loop.example/dragonnumbers/impl"
)

var (
	// noLevels are in no range of levels.
	noLevels = []int{-1, -2, -8, -12, 13, 14, 31, 32, 50, 51, 63, 64, 65, 1000000, math.MaxInt32, math.MinInt32, 1 << 32, 1<<32 + 3, math.MaxInt - 1, math.MaxInt, math.MinInt, math.MinInt + 1, math.MinInt + 8}

	// noMadeLevels are in no range of levels of tiles that are made.
	noMadeLevels = append([]int{9, 10, 11, 12}, noLevels...)
)

// The following ones calculate apart from the program, by sums of powers of the base and not by digits.

func powerOf(level int) gauss {
	power := gauss{Re: 1}
	for range level {
		power = product(power, base)
	}
	return power
}

// wantedTile returns a tile in the order of its binary numbers: each further digit, 0 or 1, stands ahead of all.
func wantedTile(level int) []gauss {
	tile := []gauss{{}}
	for place := range level {
		for _, z := range tile[:len(tile):len(tile)] {
			tile = append(tile, plus(z, powerOf(place)))
		}
	}
	return tile
}

func gaussSet(list []gauss) map[gauss]bool {
	set := map[gauss]bool{}
	for _, z := range list {
		set[z] = true
	}
	return set
}

func wantedSplit(level int, z gauss) (gauss, gauss) {
	q := z
	for range level {
		_, q = split(q)
	}
	return q, plus(z, opposite(product(q, powerOf(level))))
}

func wantedEdges(level int) int {
	tile, count := wantedTile(level), 0
	set := gaussSet(tile)
	for _, z := range tile {
		for _, unit := range gaussUnits {
			if !set[plus(z, unit)] {
				count++
			}
		}
	}
	return count
}

// wantedNear tries all tiles so far around that none beyond is near: no tile reaches further from its corner than 2.5 times the size of b to the power of the level.
func wantedNear(level int) []gauss {
	tile := wantedTile(level)
	set := gaussSet(tile)
	var list []gauss
	for _, q := range gaussSquare(6) {
		if q != (gauss{}) && touches(set, tile, product(q, powerOf(level))) {
			list = append(list, q)
		}
	}
	slices.SortFunc(list, func(a, b gauss) int { return (a.Re-b.Re)*1000 + a.Im - b.Im })
	return list
}

func touches(set map[gauss]bool, tile []gauss, by gauss) bool {
	for _, z := range tile {
		for _, unit := range gaussUnits {
			if set[plus(plus(z, by), unit)] {
				return true
			}
		}
	}
	return false
}

func wantedBox(level int) (gauss, gauss) {
	low, high := gauss{}, gauss{}
	for _, z := range wantedTile(level) {
		low = gauss{Re: min(low.Re, z.Re), Im: min(low.Im, z.Im)}
		high = gauss{Re: max(high.Re, z.Re), Im: max(high.Im, z.Im)}
	}
	return low, high
}

// wantedShape writes the signs of the tile over an area of points alone.
func wantedShape(level int) []string {
	low, high := wantedBox(level)
	area := make([][]byte, high.Im-low.Im+1)
	for i := range area {
		area[i] = []byte(strings.Repeat(".", high.Re-low.Re+1))
	}
	for _, z := range wantedTile(level) {
		area[high.Im-z.Im][z.Re-low.Re] = '#'
	}
	var rows []string
	for _, row := range area {
		rows = append(rows, string(row))
	}
	return rows
}

// splitOnes has the ends of the range and what is next to them, numbers at random, and those with as many digits as a level, one more and one less.
func splitOnes() []gauss {
	random := rand.New(rand.NewSource(46))
	list := append(smallOnes(), gaussGrid([]int{-1000000, -999999, -999998, 999998, 999999, 1000000})...)
	for range 300 {
		list = append(list, gauss{Re: random.Intn(2000001) - 1000000, Im: random.Intn(2000001) - 1000000})
	}
	for n := 1; n <= 14; n++ {
		for _, s := range []string{"1" + zeros(n-1), ones(n), "1" + randomDigits(random, n-1), "1" + randomDigits(random, n-1)} {
			list = append(list, valueOf(s))
		}
	}
	return list
}

func TestPromise46HasShortExpansions(t *testing.T) {
	for _, z := range append(splitOnes(), gaussSquare(12)...) {
		for level := 0; level <= 12; level++ {
			s, ok := impl.DigitsOf(z)
			want := z == gauss{} || len(expansionOf(z)) <= level
			has := impl.TileHas(level, z)
			if has != want {
				t.Fatalf("TileHas(%d, %v) returned %v", level, z, has)
			}
			if has && !(ok && len(s) <= level || z == gauss{}) {
				t.Fatalf("TileHas(%d, %v) holds, with the expansion %q", level, z, s)
			}
			if has && level < 12 && !impl.TileHas(level+1, z) {
				t.Fatalf("TileHas(%d, %v) holds, but not for the next level", level, z)
			}
		}
	}
}

func TestTileHasAllSumsOfPowers(t *testing.T) {
	square := gaussSquare(65)
	for level := 0; level <= 12; level++ {
		tile, count := gaussSet(wantedTile(level)), 0
		for _, z := range square {
			has := impl.TileHas(level, z)
			if has != tile[z] {
				t.Fatalf("TileHas(%d, %v) returned %v", level, z, has)
			}
			if has {
				count++
			}
		}
		if count != 1<<level {
			t.Fatalf("the tile of the level %d has %d numbers", level, count)
		}
	}
}

func TestTileHasEnds(t *testing.T) {
	for level := 0; level <= 12; level++ {
		if !impl.TileHas(level, gauss{}) {
			t.Errorf("the tile of the level %d has no 0", level)
		}
		for _, s := range []string{"1" + zeros(level), ones(level + 1), "1" + zeros(level+1), ones(13), ones(14)} {
			z := valueOf(s)
			if impl.TileHas(level, z) {
				t.Errorf("TileHas(%d, %v) holds, with the expansion %s", level, z, s)
			}
			if n := len(s); n <= 12 && !impl.TileHas(n, z) {
				t.Errorf("TileHas(%d, %v) does not hold, with the expansion %s", n, z, s)
			}
		}
		for _, z := range append(notSmallOnes(), gaussGrid([]int{-1000000, 1000000, -1000001, 1000001})...) {
			if impl.TileHas(level, z) {
				t.Errorf("TileHas(%d, %v) holds", level, z)
			}
		}
	}
	for _, level := range noLevels {
		for _, z := range append(gaussSquare(2), notSmallOnes()...) {
			if impl.TileHas(level, z) {
				t.Errorf("TileHas(%d, %v) holds", level, z)
			}
		}
	}
}

func TestPromise47SplitDigits(t *testing.T) {
	for _, z := range splitOnes() {
		for level := 0; level <= 12; level++ {
			q, r, ok := impl.TileSplit(level, z)
			wantQ, wantR := wantedSplit(level, z)
			if !ok || q != wantQ || r != wantR {
				t.Fatalf("TileSplit(%d, %v) returned %v, %v, %v, not %v, %v", level, z, q, r, ok, wantQ, wantR)
			}
			if !impl.TileHas(level, r) || !isSmall(q) {
				t.Fatalf("TileSplit(%d, %v) returned %v, %v", level, z, q, r)
			}
			checkSplitDigits(t, level, z, q, r)
		}
	}
}

func checkSplitDigits(t *testing.T, level int, z, q, r gauss) {
	t.Helper()
	ahead, _ := impl.DigitsOf(q)
	behind, _ := impl.DigitsOf(r)
	whole, _ := impl.DigitsOf(z)
	if r == (gauss{}) {
		behind = ""
	}
	joined := strings.TrimLeft(ahead+zeros(level-len(behind))+behind, "0")
	if joined == "" {
		joined = "0"
	}
	if joined != whole {
		t.Fatalf("TileSplit(%d, %v) leads to %s, not to %s", level, z, joined, whole)
	}
}

func TestTileSplitFillsThePlane(t *testing.T) {
	for level := 0; level <= 12; level++ {
		for _, z := range append(gaussSquare(2), gauss{Re: -17, Im: 40}, gauss{Re: 900, Im: -2}) {
			for _, r := range wantedTile(level) {
				sum := plus(product(z, powerOf(level)), r)
				if gotQ, gotR, ok := impl.TileSplit(level, sum); !ok || gotQ != z || gotR != r {
					t.Fatalf("TileSplit(%d, %v) returned %v, %v, %v, not %v, %v", level, sum, gotQ, gotR, ok, z, r)
				}
			}
		}
	}
}

// No quotient of a small number is greater than its greatest part: even next to the ends of the range none fails.
func TestTileSplitQuotientsAtTheEnds(t *testing.T) {
	var list []gauss
	for _, end := range []int{-1000000, -999999, 999999, 1000000} {
		for part := -1000000; part <= 1000000; part += 997 {
			list = append(list, gauss{Re: end, Im: part}, gauss{Re: part, Im: end})
		}
	}
	for _, z := range list {
		for level := 0; level <= 12; level++ {
			wantQ, wantR := wantedSplit(level, z)
			if q, r, ok := impl.TileSplit(level, z); !ok || q != wantQ || r != wantR || !isSmall(q) {
				t.Fatalf("TileSplit(%d, %v) returned %v, %v, %v", level, z, q, r, ok)
			}
		}
	}
}

func TestTileSplitEnds(t *testing.T) {
	for _, c := range []struct {
		level   int
		z, q, r gauss
	}{
		{0, gauss{}, gauss{}, gauss{}}, {12, gauss{}, gauss{}, gauss{}},
		{0, gauss{Re: -3, Im: 8}, gauss{Re: -3, Im: 8}, gauss{}},
		{0, gauss{Re: 1000000, Im: -1000000}, gauss{Re: 1000000, Im: -1000000}, gauss{}},
		{1, gauss{Re: 1}, gauss{}, gauss{Re: 1}}, {1, gauss{Re: -1, Im: 1}, gauss{Re: 1}, gauss{}},
		{1, gauss{Re: -1000000, Im: 1000000}, gauss{Re: 1000000}, gauss{}},
		{1, gauss{Re: 1000000, Im: 1000000}, gauss{Im: -1000000}, gauss{}},
		{1, gauss{Re: -1000000, Im: 999999}, gauss{Re: 1000000, Im: 1}, gauss{Re: 1}},
		// -1 is 11101: 111 is -i, 01 is 1, and 1101 is 3.
		{2, gauss{Re: -1}, gauss{Im: -1}, gauss{Re: 1}}, {4, gauss{Re: -1}, gauss{Re: 1}, gauss{Re: 3}}, {5, gauss{Re: -1}, gauss{}, gauss{Re: -1}},
	} {
		if q, r, ok := impl.TileSplit(c.level, c.z); !ok || q != c.q || r != c.r {
			t.Errorf("TileSplit(%d, %v) returned %v, %v, %v", c.level, c.z, q, r, ok)
		}
	}
	for level := 0; level <= 12; level++ {
		for _, z := range notSmallOnes() {
			q, r, ok := impl.TileSplit(level, z)
			mustFail(t, "TileSplit", ok, q, r)
		}
		q, r, ok := impl.TileSplit(level, powerOf(level))
		if !ok || q != (gauss{Re: 1}) || r != (gauss{}) {
			t.Errorf("TileSplit(%d) of the power returned %v, %v, %v", level, q, r, ok)
		}
	}
	for _, level := range noLevels {
		for _, z := range append(smallOnes(), notSmallOnes()...) {
			q, r, ok := impl.TileSplit(level, z)
			mustFail(t, "TileSplit", ok, q, r)
		}
	}
}

func TestPromise48PointsByIndex(t *testing.T) {
	for level := 0; level <= 8; level++ {
		points, ok := impl.TilePoints(level)
		if !ok || len(points) != 1<<level || !slices.Equal(points, wantedTile(level)) {
			t.Fatalf("TilePoints(%d) returned %v, %v", level, points, ok)
		}
		for i, z := range points {
			s, _ := impl.DigitsOf(z)
			if index, ok := impl.DigitsIndex(s); !ok || index != i {
				t.Fatalf("the number %v of the level %d has the index %d, not %d", z, level, index, i)
			}
			if !impl.TileHas(level, z) {
				t.Fatalf("the tile of the level %d has no %v", level, z)
			}
		}
	}
}

func TestTilePointsEnds(t *testing.T) {
	for level, want := range [][]gauss{
		{{}},
		{{}, {Re: 1}},
		{{}, {Re: 1}, {Re: -1, Im: 1}, {Im: 1}},
		{{}, {Re: 1}, {Re: -1, Im: 1}, {Im: 1}, {Im: -2}, {Re: 1, Im: -2}, {Re: -1, Im: -1}, {Im: -1}},
	} {
		if points, ok := impl.TilePoints(level); !ok || !slices.Equal(points, want) {
			t.Errorf("TilePoints(%d) returned %v, %v", level, points, ok)
		}
	}
}

func TestPromise49EdgesEven(t *testing.T) {
	for level := 0; level <= 8; level++ {
		edges, ok := impl.TileEdges(level)
		if !ok || edges != wantedEdges(level) {
			t.Fatalf("TileEdges(%d) returned %d, %v", level, edges, ok)
		}
		if edges%2 != 0 || edges > 4<<level || edges < 4 {
			t.Fatalf("TileEdges(%d) returned %d", level, edges)
		}
	}
}

func TestTileEdgesEnds(t *testing.T) {
	for level, want := range []int{4, 6, 10, 18, 30, 50, 86, 146, 246} {
		if edges, ok := impl.TileEdges(level); !ok || edges != want {
			t.Errorf("TileEdges(%d) returned %d, %v", level, edges, ok)
		}
	}
}

func TestPromise50NearOnes(t *testing.T) {
	for level := 0; level <= 8; level++ {
		near, ok := impl.TileNear(level)
		if !ok || !slices.Equal(near, wantedNear(level)) {
			t.Fatalf("TileNear(%d) returned %v, %v", level, near, ok)
		}
		for _, q := range near {
			if q == (gauss{}) || !slices.Contains(near, opposite(q)) {
				t.Fatalf("TileNear(%d) returned %v", level, near)
			}
		}
		if level == 0 && len(near) != 4 || level > 0 && len(near) != 6 {
			t.Fatalf("TileNear(%d) returned %v", level, near)
		}
	}
}

func TestTileNearEnds(t *testing.T) {
	four := []gauss{{Re: -1}, {Im: -1}, {Im: 1}, {Re: 1}}
	six := []gauss{{Re: -1, Im: -1}, {Re: -1}, {Im: -1}, {Im: 1}, {Re: 1}, {Re: 1, Im: 1}}
	for level := 0; level <= 8; level++ {
		want := six
		if level == 0 {
			want = four
		}
		if near, ok := impl.TileNear(level); !ok || !slices.Equal(near, want) {
			t.Errorf("TileNear(%d) returned %v, %v", level, near, ok)
		}
	}
}

func TestPromise51ShapeInItsBox(t *testing.T) {
	for level := 0; level <= 8; level++ {
		rows, ok := impl.TileShape(level)
		if !ok || !slices.Equal(rows, wantedShape(level)) {
			t.Fatalf("TileShape(%d) returned %q, %v", level, rows, ok)
		}
		low, high, _ := impl.TileBox(level)
		if len(rows) != high.Im-low.Im+1 {
			t.Fatalf("TileShape(%d) returned %d rows", level, len(rows))
		}
		signs := 0
		for _, row := range rows {
			if len(row) != high.Re-low.Re+1 || strings.Trim(row, "#.") != "" {
				t.Fatalf("TileShape(%d) returned the row %q", level, row)
			}
			signs += strings.Count(row, "#")
		}
		if signs != 1<<level {
			t.Fatalf("TileShape(%d) returned %d signs #", level, signs)
		}
	}
}

func TestTileShapeEnds(t *testing.T) {
	for level, want := range []string{
		"#", "##", "##. .##", "##. .## ##. .##", "..##. ...## ####. .#### ##... .##..",
	} {
		if rows, ok := impl.TileShape(level); !ok || strings.Join(rows, " ") != want {
			t.Errorf("TileShape(%d) returned %q, %v", level, rows, ok)
		}
	}
}

func TestPromise52BoxReached(t *testing.T) {
	for level := 0; level <= 8; level++ {
		low, high, ok := impl.TileBox(level)
		points, _ := impl.TilePoints(level)
		if !ok || len(points) == 0 {
			t.Fatalf("TileBox(%d) returned %v, %v, %v", level, low, high, ok)
		}
		var reached [4]bool
		for _, z := range points {
			if z.Re < low.Re || z.Im < low.Im || z.Re > high.Re || z.Im > high.Im {
				t.Fatalf("TileBox(%d) returned %v and %v, but %v is beyond", level, low, high, z)
			}
			for side, reaches := range [4]bool{z.Re == low.Re, z.Im == low.Im, z.Re == high.Re, z.Im == high.Im} {
				reached[side] = reached[side] || reaches
			}
		}
		if reached != [4]bool{true, true, true, true} {
			t.Fatalf("TileBox(%d) returned %v and %v, but sides are reached as %v", level, low, high, reached)
		}
	}
}

func TestTileBoxEnds(t *testing.T) {
	for level, want := range [][4]int{
		{0, 0, 0, 0}, {0, 0, 1, 0}, {-1, 0, 1, 1}, {-1, -2, 1, 1}, {-1, -2, 3, 3}, {-5, -2, 3, 3}, {-5, -6, 7, 3}, {-5, -6, 7, 11}, {-13, -14, 7, 11},
		{-13, -14, 23, 11}, {-29, -14, 23, 27}, {-29, -46, 23, 27}, {-29, -46, 55, 59},
	} {
		low, high, ok := impl.TileBox(level)
		if !ok || low != (gauss{Re: want[0], Im: want[1]}) || high != (gauss{Re: want[2], Im: want[3]}) {
			t.Errorf("TileBox(%d) returned %v, %v, %v", level, low, high, ok)
		}
		if wantLow, wantHigh := wantedBox(level); low != wantLow || high != wantHigh {
			t.Errorf("TileBox(%d) returned %v and %v, but the tile has %v and %v", level, low, high, wantLow, wantHigh)
		}
	}
	for _, level := range noLevels {
		low, high, ok := impl.TileBox(level)
		mustFail(t, "TileBox", ok, low, high)
	}
}

func TestNoTileIsMadeBeyondTheLevels(t *testing.T) {
	for _, level := range noMadeLevels {
		if points, ok := impl.TilePoints(level); ok || len(points) != 0 {
			t.Errorf("TilePoints(%d) returned %v, %v", level, points, ok)
		}
		if edges, ok := impl.TileEdges(level); ok || edges != 0 {
			t.Errorf("TileEdges(%d) returned %d, %v", level, edges, ok)
		}
		if near, ok := impl.TileNear(level); ok || len(near) != 0 {
			t.Errorf("TileNear(%d) returned %v, %v", level, near, ok)
		}
		if rows, ok := impl.TileShape(level); ok || len(rows) != 0 {
			t.Errorf("TileShape(%d) returned %q, %v", level, rows, ok)
		}
	}
}

// Maps are ranged over in another order each time.
func TestTilesAreTheSameEachTime(t *testing.T) {
	for level := 0; level <= 8; level++ {
		points, near, rows, edges := wantedTile(level), wantedNear(level), wantedShape(level), wantedEdges(level)
		for range 30 {
			gotPoints, _ := impl.TilePoints(level)
			gotNear, _ := impl.TileNear(level)
			gotRows, _ := impl.TileShape(level)
			gotEdges, _ := impl.TileEdges(level)
			if !slices.Equal(gotPoints, points) || !slices.Equal(gotNear, near) || !slices.Equal(gotRows, rows) || gotEdges != edges {
				t.Fatalf("the tile of the level %d becomes %v, %v, %q, %d", level, gotPoints, gotNear, gotRows, gotEdges)
			}
		}
	}
}

func TestTileResultsShareNoMemory(t *testing.T) {
	for level := 0; level <= 8; level++ {
		for name, f := range map[string]func(int) ([]gauss, bool){"TilePoints": impl.TilePoints, "TileNear": impl.TileNear} {
			first, _ := f(level)
			second, _ := f(level)
			kept := slices.Clone(second)
			for i := range first[:cap(first)] {
				first[:cap(first)][i] = gauss{Re: -9, Im: 9}
			}
			third, ok := f(level)
			if !ok || !slices.Equal(second, kept) || !slices.Equal(third, kept) {
				t.Fatalf("%s(%d) shares memory", name, level)
			}
		}
		first, _ := impl.TileShape(level)
		second, _ := impl.TileShape(level)
		for i := range first[:cap(first)] {
			first[:cap(first)][i] = "-"
		}
		if third, ok := impl.TileShape(level); !ok || !slices.Equal(second, wantedShape(level)) || !slices.Equal(third, second) {
			t.Fatalf("TileShape(%d) shares memory", level)
		}
	}
}
