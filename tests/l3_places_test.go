package tests

import (
	"math"
	"math/big"
	"math/rand"
	"strings"
	"testing"

	"loop.example/dragonnumbers/impl"
)

var (
	// smallHeads are expansions with small values, the greatest ones among them.
	smallHeads = []string{"0", "1", "10", "11", "111", "1100", "1111", "11101", expansionOf(gauss{Re: 1000000, Im: -1000000}), expansionOf(gauss{Re: -999999, Im: 1000000})}
	// greatHeads are expansions with values that are not small.
	greatHeads = []string{expansionOf(gauss{Re: 1000001}), expansionOf(gauss{Re: 1, Im: -1000001}), "1" + zeros(40), "1" + zeros(49), ones(50)}
)

// placesOf has places of many numbers, with one 1 where single numbers become subnormal and where they end.
func placesOf() []string {
	random := rand.New(rand.NewSource(3))
	list := []string{"", "0", "1", "01", "10", "11", "1000", "0110"}
	for _, n := range []int{24, 30, 40, 41, 48, 49, 52, 126, 251, 252, 253, 254, 296, 297, 298, 299, 300, 319, 320} {
		list = append(list, zeros(n), ones(n), zeros(n-1)+"1", strings.Repeat("01", n)[:n], randomDigits(random, n))
	}
	for _, n := range []int{5, 20, 60} {
		list = append(list, zeros(250)+randomDigits(random, n), zeros(280)+randomDigits(random, min(n, 40)), randomDigits(random, n))
	}
	return list
}

func textsWith(heads []string) []string {
	var list []string
	for _, head := range heads {
		for _, places := range placesOf() {
			list = append(list, head+"."+places)
		}
	}
	return list
}

func numberTexts() []string {
	return textsWith(append(smallHeads, greatHeads...))
}

// shortTexts has all number texts of up to 4 digits and 5 places, and longer ones of up to 40 places.
func shortTexts() []string {
	random := rand.New(rand.NewSource(4))
	var list []string
	for _, head := range shortOnes(4) {
		for n := range 6 {
			for _, digits := range shortOnes(n) {
				if len(digits) <= n {
					list = append(list, head+"."+zeros(n-len(digits))+digits)
				}
			}
		}
		for n := 6; n <= 40; n++ {
			list = append(list, head+"."+ones(n), head+"."+zeros(n-1)+"1", head+"."+randomDigits(random, n))
		}
	}
	return list
}

// noNumberTexts has texts without a point, with more than one, with nothing ahead of it, with too many places, and with other bytes.
func noNumberTexts() []string {
	list := []string{"", ".", "..", "0", "1", "101", ".1", ".0", ".01", "0..", "0.0.", "1.0.1", "1..0", ".1.", "1.\n", "1.0\n", " 1.0", "1 .0", "1. 0", "1.0 "}
	list = append(list, "1,0", "1.2", "2.1", "1.a", "a.1", "-1.0", "+1.0", "1.-0", "1.0x", "1.\x00", "\x00.1", "1.é", "é.1", "1.\xff", "1\xff.1", "1.\xc0\xb0", "1\uff0e0", "1.\u0661", "1.1e1", "0x1.1")
	list = append(list, "1."+zeros(321), "0."+ones(321), "1."+zeros(320)+"\n", "1."+zeros(319)+"2", "1."+zeros(319)+".", "1.2"+zeros(319))
	for _, s := range noExpansions() {
		list = append(list, s+".", s+".1", "."+s)
	}
	long := 1 << 20
	return append(list, "0."+zeros(long), zeros(long)+".0", zeros(long)+"."+zeros(long), "1"+strings.Repeat(".", long), strings.Repeat("1.", long), "1."+strings.Repeat("\xff", long))
}

// The following ones calculate apart from the program.

func isNumberText(s string) bool {
	head, places, _ := strings.Cut(s, ".")
	return strings.Count(s, ".") == 1 && isExpansion(head) && len(places) <= 320 && strings.Count(places, "0")+strings.Count(places, "1") == len(places)
}

// rounding makes an exact number one of a width.
type rounding func(x *big.Float) float64

func toWide(x *big.Float) float64 {
	y, _ := x.Float64()
	return y
}

func toSingle(x *big.Float) float64 {
	y, _ := x.Float32()
	return float64(y)
}

func exactly(x float64) *big.Float {
	return new(big.Float).SetPrec(600).SetFloat64(x)
}

func (round rounding) sum(x, y float64) float64 {
	return round(exactly(0).Add(exactly(x), exactly(y)))
}

func (round rounding) less(x, y float64) float64 {
	return round(exactly(0).Sub(exactly(x), exactly(y)))
}

func (round rounding) half(x float64) float64 {
	return round(exactly(0).Quo(exactly(x), exactly(2)))
}

func (round rounding) divided(z complex128) complex128 {
	x, y := real(z), imag(z)
	return complex(round.half(round.less(y, x)), round.half(round.less(round.less(0, x), y)))
}

func (round rounding) added(z, w complex128) complex128 {
	return complex(round.sum(real(z), real(w)), round.sum(imag(z), imag(w)))
}

func (round rounding) point(s string) complex128 {
	head, places, _ := strings.Cut(s, ".")
	z := complex128(0)
	for i := len(places) - 1; i >= 0; i-- {
		z = round.divided(round.added(z, complex(float64(places[i]-'0'), 0)))
	}
	return round.added(z, wideOf(valueOf(head)))
}

// wantedPower returns 1 over the base to the power of k exactly: the power 8 of the base is 16.
func wantedPower(k int) complex128 {
	first := []complex128{1, -0.5 - 0.5i, 0.5i, 0.25 - 0.25i, -0.25, 0.125 + 0.125i, -0.125i, -0.0625 + 0.0625i}[k%8]
	return complex(math.Ldexp(real(first), k/8*-4), math.Ldexp(imag(first), k/8*-4))
}

func timesBase(z complex128) complex128 {
	return complex(-real(z)-imag(z), real(z)-imag(z))
}

func timesPower(z complex128, k int) complex128 {
	for range k {
		z = timesBase(z)
	}
	return z
}

// sameBits tells zeros of both signs apart, too.
func sameBits(z, w complex128) bool {
	return math.Float64bits(real(z)) == math.Float64bits(real(w)) && math.Float64bits(imag(z)) == math.Float64bits(imag(w))
}

func pointOf(t *testing.T, s string) (complex128, complex64) {
	t.Helper()
	wide, ok := impl.PointWide(s)
	single, fine := impl.PointSingle(s)
	if !ok || !fine {
		t.Fatalf("the points of %q returned %v, %v and %v, %v", s, wide, ok, single, fine)
	}
	return wide, single
}

// checkNoPoint checks that no function that needs the point of a text succeeds.
func checkNoPoint(t *testing.T, s string) {
	t.Helper()
	if z, ok := impl.PointWide(s); ok || !sameBits(z, 0) {
		t.Fatalf("PointWide of %.400q returned %v, %v", s, z, ok)
	}
	if z, ok := impl.PointSingle(s); ok || !sameBits(complex128(z), 0) {
		t.Fatalf("PointSingle of %.400q returned %v, %v", s, z, ok)
	}
	if n, ok := impl.PlacesLost(s); ok || n != 0 {
		t.Fatalf("PlacesLost of %.400q returned %v, %v", s, n, ok)
	}
	if z, k, ok := impl.PlacesExact(s); ok || z != (gauss{}) || k != 0 {
		t.Fatalf("PlacesExact of %.400q returned %v, %d, %v", s, z, k, ok)
	}
}

func TestPlacesValidEnds(t *testing.T) {
	if impl.PlacesMax != 320 {
		t.Errorf("PlacesMax is %d", impl.PlacesMax)
	}
	for _, s := range append(append(numberTexts(), shortTexts()...), "0.", "1.", "0.0", "10.", ones(50)+".", ones(50)+"."+ones(320), "0."+zeros(320)) {
		if !impl.PlacesValid(s) || !isNumberText(s) {
			t.Fatalf("PlacesValid does not hold for %q", s)
		}
	}
	for _, s := range noNumberTexts() {
		if impl.PlacesValid(s) || isNumberText(s) {
			t.Fatalf("PlacesValid holds for %.400q", s)
		}
	}
}

func TestPlacesValidAnyBytes(t *testing.T) {
	for first := range 256 {
		for second := range 256 {
			two := string([]byte{byte(first), byte(second)})
			for _, s := range []string{two, two + "1", "1" + two, two + ".", "1." + two, two[:1] + "." + two[1:], "1" + two + "0", "." + two} {
				if impl.PlacesValid(s) != isNumberText(s) {
					t.Fatalf("PlacesValid of %q is %v", s, impl.PlacesValid(s))
				}
			}
		}
	}
}

func TestPromise20ZeroBehind(t *testing.T) {
	full := 0
	for _, s := range append(numberTexts(), shortTexts()...) {
		_, places, _ := strings.Cut(s, ".")
		room := len(places) < 320
		if !room {
			full++
		}
		if !impl.PlacesValid(s) || impl.PlacesValid(s+"0") != room {
			t.Fatalf("PlacesValid of %q, or with a 0 behind, is wrong", s)
		}
		if !room {
			checkNoPoint(t, s+"0")
			continue
		}
		wide, ok := impl.PointWide(s)
		behind, fine := impl.PointWide(s + "0")
		if ok != fine || wide != behind {
			t.Fatalf("PointWide of %q is %v, but with a 0 behind %v", s, wide, behind)
		}
		single, ok := impl.PointSingle(s)
		after, fine := impl.PointSingle(s + "0")
		if ok != fine || single != after {
			t.Fatalf("PointSingle of %q is %v, but with a 0 behind %v", s, single, after)
		}
	}
	if full == 0 {
		t.Errorf("no text was full")
	}
}

func TestPromise21ExactTimesPower(t *testing.T) {
	told := 0
	for _, s := range append(numberTexts(), shortTexts()...) {
		head, places, _ := strings.Cut(s, ".")
		z, k, ok := impl.PlacesExact(s)
		if ok != (len(head)+len(places) <= 30) {
			t.Fatalf("PlacesExact of %q returned %v, %d, %v", s, z, k, ok)
		}
		if !ok {
			failed(t, "PlacesExact", z, gauss{Re: k})
			continue
		}
		told++
		if k != len(places) || z != valueOf(head+places) || !isSmall(z) {
			t.Fatalf("PlacesExact of %q returned %v, %d", s, z, k)
		}
		wide, fine := impl.PointWide(s)
		if !fine || timesPower(wide, k) != wideOf(z) {
			t.Fatalf("PointWide of %q is %v, but PlacesExact %v, %d", s, wide, z, k)
		}
	}
	if told == 0 {
		t.Errorf("PlacesExact never succeeded")
	}
}

func TestPlacesExactEnds(t *testing.T) {
	for _, c := range []struct {
		s  string
		z  gauss
		k  int
		ok bool
	}{
		{"0.", gauss{}, 0, true},
		{"0.0", gauss{}, 1, true},
		{"1.", gauss{Re: 1}, 0, true},
		{"0.1", gauss{Re: 1}, 1, true},
		{"1.01", gauss{Re: 1, Im: -2}, 2, true},
		{"11101.00", gauss{Im: 2}, 2, true},
		{"0.001", gauss{Re: 1}, 3, true},
		{"0." + zeros(29), gauss{}, 29, true},
		{"0." + zeros(30), gauss{}, 0, false},
		{"0." + zeros(28) + "1", gauss{Re: 1}, 29, true},
		{"0." + zeros(29) + "1", gauss{}, 0, false},
		{"1" + zeros(14) + "." + zeros(15), valueOf("1" + zeros(29)), 15, true},
		{"1" + zeros(14) + "." + zeros(16), gauss{}, 0, false},
		{ones(29) + ".1", valueOf(ones(30)), 1, true},
		{ones(30) + ".1", gauss{}, 0, false},
		{ones(30) + ".", valueOf(ones(30)), 0, true},
		{ones(31) + ".", gauss{}, 0, false},
		{"1" + zeros(49) + ".", gauss{}, 0, false},
		{"0." + zeros(320), gauss{}, 0, false},
		{"1", gauss{}, 0, false},
		{".1", gauss{}, 0, false},
		{"01.1", gauss{}, 0, false},
		{"1.0.1", gauss{}, 0, false},
		{"1.2", gauss{}, 0, false},
		{"", gauss{}, 0, false},
	} {
		if z, k, ok := impl.PlacesExact(c.s); z != c.z || k != c.k || ok != c.ok {
			t.Errorf("PlacesExact of %q returned %v, %d, %v", c.s, z, k, ok)
		}
	}
}

func TestPromise22TextLeadsBack(t *testing.T) {
	for _, z := range append(smallOnes(), gauss{Re: -31, Im: 999983}, gauss{Re: 123456, Im: -654321}) {
		for k := range 31 {
			s, ok := impl.PlacesText(z, k)
			head, places, _ := strings.Cut(s, ".")
			if !ok || !isNumberText(s) || len(places) != k || valueOf(head+places) != z {
				t.Fatalf("PlacesText of %v and %d returned %q, %v", z, k, s, ok)
			}
			got, n, told := impl.PlacesExact(s)
			if told != (len(head)+k <= 30) || told && (got != z || n != k) {
				t.Fatalf("PlacesExact of %q, which is PlacesText of %v and %d, returned %v, %d, %v", s, z, k, got, n, told)
			}
			wide, fine := impl.PointWide(s)
			if fine != isSmall(valueOf(head)) || fine && timesPower(wide, k) != wideOf(z) {
				t.Fatalf("PointWide of %q, which is PlacesText of %v and %d, returned %v, %v", s, z, k, wide, fine)
			}
		}
	}
}

func TestPlacesTextEnds(t *testing.T) {
	greatest := gauss{Re: 1000000, Im: -1000000}
	digits := expansionOf(greatest)
	for _, c := range []struct {
		z    gauss
		k    int
		want string
		ok   bool
	}{
		{gauss{}, 0, "0.", true},
		{gauss{}, 1, "0.0", true},
		{gauss{}, 30, "0." + zeros(30), true},
		{gauss{Re: 1}, 0, "1.", true},
		{gauss{Re: 1}, 1, "0.1", true},
		{gauss{Re: 1}, 30, "0." + zeros(29) + "1", true},
		{gauss{Re: 1, Im: -2}, 2, "1.01", true},
		{gauss{Re: 1, Im: -2}, 3, "0.101", true},
		{gauss{Re: -1}, 4, "1.1101", true},
		{gauss{Re: -1}, 5, "0.11101", true},
		{gauss{Re: -1}, 6, "0.011101", true},
		{greatest, 0, digits + ".", true},
		{greatest, 30, digits[:len(digits)-30] + "." + digits[len(digits)-30:], true},
		{greatest, 31, "", false},
		{greatest, -1, "", false},
		{gauss{}, 31, "", false},
		{gauss{}, -1, "", false},
		{gauss{Re: 1}, 320, "", false},
		{gauss{Re: 1}, math.MaxInt, "", false},
		{gauss{Re: 1}, math.MinInt, "", false},
		{gauss{Re: 1000001}, 0, "", false},
		{gauss{Im: -1000001}, 30, "", false},
		{gauss{Re: math.MinInt, Im: math.MaxInt}, 1, "", false},
	} {
		s, ok := impl.PlacesText(c.z, c.k)
		checkText(t, "PlacesText", s, ok, c.want, c.ok)
	}
}

func TestPromise23PointMoved(t *testing.T) {
	moved := 0
	for _, s := range append(textsWith([]string{"0", "1", "10", "111", "1001", "1110", "1111"}), shortTexts()...) {
		head, places, _ := strings.Cut(s, ".")
		if len(places) == 0 || len(places) > 40 {
			continue
		}
		further := head + places[:1] + "." + places[1:]
		if head == "0" {
			checkNoPoint(t, further)
			further = places[:1] + "." + places[1:]
		}
		wide, _ := pointOf(t, s)
		next, _ := pointOf(t, further)
		if next != timesBase(wide) {
			t.Fatalf("PointWide of %q is %v, but of %q %v", s, wide, further, next)
		}
		moved++
	}
	if moved == 0 {
		t.Errorf("no point was moved")
	}
}

func TestPromise24SingleAsWide(t *testing.T) {
	for _, s := range append(textsWith(smallHeads), shortTexts()...) {
		head, places, _ := strings.Cut(s, ".")
		wide, single := pointOf(t, s)
		apart := wide - complex128(single)
		if len(head) <= 4 && len(places) <= 40 && apart != 0 {
			t.Fatalf("the points of %q are %v and %v", s, wide, single)
		}
		if !(math.Abs(real(apart)) < 1 && math.Abs(imag(apart)) < 1) {
			t.Fatalf("the points of %q are %v and %v", s, wide, single)
		}
	}
}

// TestPointsAsTold compares the points with those of exact numbers, each operation rounded to the width by itself.
func TestPointsAsTold(t *testing.T) {
	differ := 0
	for _, s := range append(textsWith(smallHeads), shortTexts()...) {
		wide, single := pointOf(t, s)
		if want := rounding(toWide).point(s); !sameBits(wide, want) {
			t.Fatalf("PointWide of %q is %v instead of %v", s, wide, want)
		}
		if want := rounding(toSingle).point(s); !sameBits(complex128(single), want) {
			t.Fatalf("PointSingle of %q is %v instead of %v", s, single, want)
		}
		if complex128(single) != wide {
			differ++
		}
	}
	if differ == 0 {
		t.Errorf("the points of both widths are equal for all texts")
	}
}

func TestPointEnds(t *testing.T) {
	for s, want := range map[string]complex128{
		"0.": 0, "0.0": 0, "0." + zeros(320): 0, "1.": 1, "10.": -1 + 1i, "11101.": -1, "0.1": -0.5 - 0.5i, "0.01": 0.5i,
		"1.01": 1 + 0.5i, "0.11": -0.5, "11.1": -0.5 + 0.5i, "1." + zeros(319) + "0": 1,
		expansionOf(gauss{Re: 1000000, Im: -1000000}) + ".": 1000000 - 1000000i,
		expansionOf(gauss{Re: -1000000, Im: 999999}) + ".0": -1000000 + 999999i,
	} {
		wide, single := pointOf(t, s)
		if !sameBits(wide, want) || !sameBits(complex128(single), want) {
			t.Errorf("the points of %q are %v and %v", s, wide, single)
		}
	}
	for _, head := range greatHeads {
		for _, places := range []string{"", "0", "1", zeros(320), ones(320)} {
			checkNoPoint(t, head+"."+places)
		}
	}
}

// TestPointSmallest has points of single numbers with subnormal parts, told by their bits.
func TestPointSmallest(t *testing.T) {
	part := func(bits uint32) float32 { return math.Float32frombits(bits) }
	minus := uint32(1 << 31)
	for _, c := range []struct {
		places string
		re, im uint32
		small  int
	}{
		{zeros(251) + "1", minus | 1<<23, 0, 0},
		{zeros(252) + "1", 1 << 22, 1 << 22, 2},
		{zeros(253) + "1", 0, minus | 1<<22, 1},
		{zeros(295) + "1", 2, 0, 1},
		{zeros(296) + "1", minus | 1, minus | 1, 2},
		{zeros(297) + "1", 0, 1, 1},
		{zeros(298) + "1", 0, 0, 0},
		{zeros(319) + "1", 0, 0, 0},
		{zeros(251) + "11", minus | 1<<22, 1 << 22, 2},
		{zeros(295) + "101", 2, 1, 2},
	} {
		wide, single := pointOf(t, "0."+c.places)
		if want := complex(part(c.re), part(c.im)); !sameBits(complex128(single), complex128(want)) {
			t.Errorf("PointSingle of 0 and the places %q is %v instead of %v", c.places, single, want)
		}
		if impl.PartsSmall(single) != c.small {
			t.Errorf("PartsSmall of the point with the places %q is %d", c.places, impl.PartsSmall(single))
		}
		if wide == 0 {
			t.Errorf("PointWide of 0 and the places %q is 0", c.places)
		}
	}
}

func TestPromise25PowerWideExact(t *testing.T) {
	for k := range 321 {
		z, ok := impl.PowerWide(k)
		if !ok || timesPower(z, k) != 1 || z != wantedPower(k) {
			t.Fatalf("PowerWide of %d returned %v, %v", k, z, ok)
		}
	}
}

func TestPromise26PowerSingleUntilNothing(t *testing.T) {
	for k := range 321 {
		z, ok := impl.PowerSingle(k)
		wide, fine := impl.PowerWide(k)
		want := wide
		if k >= 299 {
			want = 0
		}
		if !ok || !fine || complex128(z) != want {
			t.Fatalf("PowerSingle of %d returned %v, %v", k, z, ok)
		}
	}
}

// TestPowersAsTold compares the powers with those of exact numbers, the signs of zeros among what is told.
func TestPowersAsTold(t *testing.T) {
	wide, single := complex128(1), complex128(1)
	for k := range 321 {
		if z, _ := impl.PowerWide(k); !sameBits(z, wide) {
			t.Fatalf("PowerWide of %d is %v instead of %v", k, z, wide)
		}
		if z, _ := impl.PowerSingle(k); !sameBits(complex128(z), single) {
			t.Fatalf("PowerSingle of %d is %v instead of %v", k, z, single)
		}
		wide, single = rounding(toWide).divided(wide), rounding(toSingle).divided(single)
	}
}

func TestPowerEnds(t *testing.T) {
	smallest := complex64(complex(0, math.SmallestNonzeroFloat32))
	for k, want := range map[int]complex64{0: 1, 1: -0.5 - 0.5i, 2: 0.5i, 3: 0.25 - 0.25i, 8: 0.0625, 252: complex(-0x1p-126, 0), 253: complex(0x1p-127, 0x1p-127), 298: smallest, 299: 0, 320: 0} {
		if z, ok := impl.PowerSingle(k); !ok || z != want {
			t.Errorf("PowerSingle of %d returned %v, %v", k, z, ok)
		}
	}
	for k, want := range map[int]complex128{0: 1, 1: -0.5 - 0.5i, 2: 0.5i, 298: complex(0, 0x1p-149), 299: complex(0x1p-150, -0x1p-150), 320: complex(0x1p-160, 0)} {
		if z, ok := impl.PowerWide(k); !ok || z != want {
			t.Errorf("PowerWide of %d returned %v, %v", k, z, ok)
		}
	}
	for _, k := range []int{-1, 321, -2, 322, -320, 1 << 31, -1 << 31, 1 << 62, math.MaxInt, math.MinInt, math.MinInt + 1} {
		if z, ok := impl.PowerSingle(k); ok || !sameBits(complex128(z), 0) {
			t.Errorf("PowerSingle of %d returned %v, %v", k, z, ok)
		}
		if z, ok := impl.PowerWide(k); ok || !sameBits(z, 0) {
			t.Errorf("PowerWide of %d returned %v, %v", k, z, ok)
		}
	}
}

func TestPromise27PartsSmallOfPowers(t *testing.T) {
	for k := range 321 {
		z, ok := impl.PowerSingle(k)
		want := 0
		if k > 252 && k < 299 {
			want = 1 + k%2
		}
		if n := impl.PartsSmall(z); !ok || n != want {
			t.Fatalf("PartsSmall of PowerSingle of %d is %d", k, n)
		}
	}
}

// singleParts has parts that are subnormal, and behind them parts that are not.
func singleParts() ([]float32, []float32) {
	var subnormals, others []float32
	for _, bits := range []uint32{1, 2, 3, 1 << 10, 1 << 22, 1<<22 + 1, 1<<23 - 2, 1<<23 - 1} {
		subnormals = append(subnormals, math.Float32frombits(bits), math.Float32frombits(1<<31|bits))
	}
	// A NaN may have the fraction of any subnormal number.
	for _, bits := range []uint32{0, 1 << 23, 1<<23 + 1, 1 << 24, 0x3f800000, 0x3f800001, 0x7f000000, 0x7f7fffff, 0x7f800000, 0x7f800001, 0x7fbfffff, 0x7fc00000, 0x7fffffff} {
		others = append(others, math.Float32frombits(bits), math.Float32frombits(1<<31|bits))
	}
	return subnormals, others
}

func TestPromise28PartsSmallOfBoth(t *testing.T) {
	subnormals, others := singleParts()
	parts := append(append([]float32{}, subnormals...), others...)
	count := func(i int) int {
		if i < len(subnormals) {
			return 1
		}
		return 0
	}
	for i, re := range parts {
		for j, im := range parts {
			n := impl.PartsSmall(complex(re, im))
			if n != count(i)+count(j) || n < 0 || n > 2 {
				t.Fatalf("PartsSmall of %v and %v is %d", re, im, n)
			}
			if impl.PartsSmall(-complex(re, im)) != n || impl.PartsSmall(complex(im, re)) != n {
				t.Fatalf("PartsSmall of %v and %v is %d, but another for the opposite, or for exchanged parts", re, im, n)
			}
		}
	}
}

func TestPartsSmallEnds(t *testing.T) {
	minus := float32(math.Copysign(0, -1))
	nan, infinite := float32(math.NaN()), float32(math.Inf(1))
	normal, smallest := float32(0x1p-126), float32(math.SmallestNonzeroFloat32)
	greatest := math.Nextafter32(normal, 0)
	for _, c := range []struct {
		re, im float32
		want   int
	}{
		{0, 0, 0}, {minus, minus, 0}, {0, minus, 0}, {1, -1, 0}, {infinite, -infinite, 0}, {nan, nan, 0}, {nan, 0, 0},
		{normal, 0, 0}, {-normal, normal, 0}, {math.Nextafter32(normal, 1), 0, 0},
		{greatest, 0, 1}, {0, -greatest, 1}, {normal, greatest, 1}, {greatest, -greatest, 2},
		{smallest, 0, 1}, {minus, -smallest, 1}, {smallest, smallest, 2}, {smallest, nan, 1}, {nan, -smallest, 1}, {-infinite, smallest, 1},
		{math.MaxFloat32, smallest, 1}, {0x1p-127, 0x1p-149, 2}, {0x1p-127, 1, 1},
	} {
		if n := impl.PartsSmall(complex(c.re, c.im)); n != c.want {
			t.Errorf("PartsSmall of %v and %v is %d", c.re, c.im, n)
		}
	}
}

func TestPromise29LostPlacesChangeNothing(t *testing.T) {
	random := rand.New(rand.NewSource(5))
	texts := append(shortTexts(), textsWith([]string{"0", "1", "11101", expansionOf(gauss{Re: 1000000, Im: -1000000})})...)
	for range 200 {
		texts = append(texts, []string{"0.", "1.", "11.", "1101."}[random.Intn(4)]+zeros(random.Intn(2)*250)+randomDigits(random, random.Intn(70)))
	}
	gaps := 0
	for _, s := range texts {
		_, places, _ := strings.Cut(s, ".")
		_, z := pointOf(t, s)
		lost, ok := impl.PlacesLost(s)
		if !ok || lost < 0 || lost > len(places) {
			t.Fatalf("PlacesLost of %q returned %d, %v", s, lost, ok)
		}
		gap := false
		for n := range len(places) + 1 {
			_, cleared := pointOf(t, s[:len(s)-n]+zeros(n))
			if n == lost && cleared != z || n > lost && cleared == z {
				t.Fatalf("PlacesLost of %q is %d, but with %d cleared places the point %v is %v", s, lost, n, z, cleared)
			}
			gap = gap || n < lost && cleared != z
		}
		if gap {
			gaps++
		}
	}
	if gaps == 0 {
		t.Errorf("no text had a smaller number of places that changes something")
	}
}

func TestPlacesLostEnds(t *testing.T) {
	for _, c := range []struct {
		s    string
		lost int
	}{
		{"0.", 0}, {"1.", 0}, {"0.0", 1}, {"0.1", 0}, {"0.1000", 3}, {"1.01", 0}, {"1.010", 1}, {"0." + zeros(320), 320}, {"0.1" + zeros(319), 319},
		{"0." + ones(20), 0},
		{"0." + zeros(251) + "1", 0}, {"0." + zeros(252) + "1", 0}, {"0." + zeros(297) + "1", 0}, {"0." + zeros(296) + "11", 0},
		// Nothing is left of what is behind 298 places.
		{"0." + zeros(298) + "1", 299}, {"0." + zeros(319) + "1", 320},
		// Beside 1, a real part of the size 1 over 2 to the power of 22 counts, 1 over 2 to the power of 24 does not, but each imaginary part does.
		{"1." + zeros(43) + "1", 0}, {"1." + zeros(47) + "1", 48}, {"1." + zeros(49) + "1", 0}, {"1." + zeros(51) + "1", 52}, {"1." + zeros(251) + "1", 252},
		// With 3 places cleared the point is another one, but with 5 it is the same again.
		{"1." + zeros(250) + "101100", 5},
	} {
		if n, ok := impl.PlacesLost(c.s); !ok || n != c.lost {
			t.Errorf("PlacesLost of %q returned %d, %v instead of %d", c.s, n, ok, c.lost)
		}
	}
}

func TestPlacesOfAnyArguments(t *testing.T) {
	for _, s := range noNumberTexts() {
		checkNoPoint(t, s)
	}
	for _, z := range append(notSmallOnes(), gauss{}, gauss{Re: 1000000, Im: -1000000}) {
		for _, k := range []int{math.MinInt, math.MinInt + 1, -31, -1, 0, 1, 30, 31, 320, 321, 1 << 32, math.MaxInt - 1, math.MaxInt} {
			s, ok := impl.PlacesText(z, k)
			if fine := isSmall(z) && k >= 0 && k <= 30; ok != fine || !ok && s != "" {
				t.Fatalf("PlacesText of %v and %d returned %q, %v", z, k, s, ok)
			}
		}
	}
}
