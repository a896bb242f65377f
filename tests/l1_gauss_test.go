package tests

import (
	"math"
	"testing"

	"loop.example/dragonnumbers/impl"
)

type gauss = impl.Gauss

var (
	gaussUnits = []gauss{{Re: 1}, {Im: 1}, {Re: -1}, {Im: -1}}

	// smallParts has the ends of the range, what is next to them, and what makes halves.
	smallParts = []int{0, 1, -1, 2, -2, 3, -5, 8, 707, -999, 1000, 1001, -65536, 999999, 1000000, -999999, -1000000}
	wideParts  = []int{1000001, -1000001, 1 << 31, -1 << 31, 3037000500, math.MaxInt, math.MaxInt - 1, math.MinInt, math.MinInt + 1}
)

func gaussGrid(parts []int) []gauss {
	var list []gauss
	for _, re := range parts {
		for _, im := range parts {
			list = append(list, gauss{Re: re, Im: im})
		}
	}
	return list
}

func gaussSquare(size int) []gauss {
	var parts []int
	for k := -size; k <= size; k++ {
		parts = append(parts, k)
	}
	return gaussGrid(parts)
}

// smallOnes mixes a full square around 0 with numbers up to the ends of the range.
func smallOnes() []gauss {
	return append(gaussSquare(5), gaussGrid(smallParts)...)
}

// notSmallOnes has numbers with one part, or both, beyond the range.
func notSmallOnes() []gauss {
	list := gaussGrid(wideParts)
	for _, w := range wideParts {
		for _, s := range []int{0, 1, -7, 1000000, -1000000} {
			list = append(list, gauss{Re: w, Im: s}, gauss{Re: s, Im: w})
		}
	}
	return list
}

// The following ones calculate apart from the program, for numbers that do not overflow.

func plus(a, b gauss) gauss    { return gauss{Re: a.Re + b.Re, Im: a.Im + b.Im} }
func opposite(a gauss) gauss   { return gauss{Re: -a.Re, Im: -a.Im} }
func timesI(a gauss) gauss     { return gauss{Re: -a.Im, Im: a.Re} }
func mirrored(a gauss) gauss   { return gauss{Re: a.Re, Im: -a.Im} }
func norm(a gauss) int         { return a.Re*a.Re + a.Im*a.Im }
func product(a, b gauss) gauss { return gauss{Re: a.Re*b.Re - a.Im*b.Im, Im: a.Re*b.Im + a.Im*b.Re} }

func partSmall(x int) bool { return x >= -1000000 && x <= 1000000 }
func isSmall(a gauss) bool { return partSmall(a.Re) && partSmall(a.Im) }

func divides(d, a gauss) bool {
	q := product(a, mirrored(d))
	return q.Re%norm(d) == 0 && q.Im%norm(d) == 0
}

func wideOf(a gauss) complex128 { return complex(float64(a.Re), float64(a.Im)) }

func TestGaussSmallEnds(t *testing.T) {
	for _, z := range smallOnes() {
		if !impl.GaussSmall(z) {
			t.Fatalf("GaussSmall does not hold for %v", z)
		}
	}
	for _, z := range notSmallOnes() {
		if impl.GaussSmall(z) {
			t.Fatalf("GaussSmall holds for %v", z)
		}
	}
	if impl.PartMax != 1000000 {
		t.Errorf("PartMax is %d", impl.PartMax)
	}
}

func TestPromise1SmallTurnedAndOpposite(t *testing.T) {
	for _, z := range append(smallOnes(), notSmallOnes()...) {
		if !impl.GaussSmall(z) {
			continue
		}
		if !impl.GaussSmall(timesI(z)) || !impl.GaussSmall(opposite(z)) {
			t.Fatalf("GaussSmall of %v does not hold for its product with i or its opposite", z)
		}
		if impl.GaussNorm(z) < 0 {
			t.Fatalf("GaussNorm of %v is %d", z, impl.GaussNorm(z))
		}
	}
}

func TestPromise2AddAsComplex128(t *testing.T) {
	list := smallOnes()
	for _, a := range list {
		for _, b := range list {
			sum, ok := impl.GaussAdd(a, b)
			if ok != isSmall(plus(a, b)) {
				t.Fatalf("GaussAdd of %v and %v returned %v, %v", a, b, sum, ok)
			}
			if !ok {
				failed(t, "GaussAdd", sum)
				continue
			}
			if again, same := impl.GaussAdd(b, a); !same || again != sum {
				t.Fatalf("GaussAdd of %v and %v is %v, but exchanged %v", a, b, sum, again)
			}
			x, _ := impl.GaussWide(sum)
			y, _ := impl.GaussWide(a)
			z, _ := impl.GaussWide(b)
			if x != y+z || sum != plus(a, b) {
				t.Fatalf("GaussAdd of %v and %v is %v", a, b, sum)
			}
		}
	}
}

func TestGaussAddEnds(t *testing.T) {
	checkGauss(t, "GaussAdd", impl.GaussAdd, []gaussCase{
		{gauss{Re: 1, Im: 2}, gauss{Re: 3, Im: -5}, gauss{Re: 4, Im: -3}, true},
		{gauss{Re: 999999}, gauss{Re: 1}, gauss{Re: 1000000}, true},
		{gauss{Re: 1000000}, gauss{Re: 1}, gauss{}, false},
		{gauss{Im: -1000000}, gauss{Im: -1}, gauss{}, false},
		{gauss{Im: -1000000}, gauss{Re: 1000000}, gauss{Re: 1000000, Im: -1000000}, true},
		{gauss{Re: 1000001}, gauss{Re: -1}, gauss{}, false},
		{gauss{Re: -1}, gauss{Re: 1000001}, gauss{}, false},
		{gauss{Im: math.MaxInt}, gauss{Im: -math.MaxInt}, gauss{}, false},
		{gauss{Re: math.MinInt}, gauss{Re: math.MinInt}, gauss{}, false},
	})
}

func TestPromise3TimesAsComplex128(t *testing.T) {
	list := smallOnes()
	for _, a := range list {
		for _, b := range list {
			z, ok := impl.GaussTimes(a, b)
			if ok != isSmall(product(a, b)) {
				t.Fatalf("GaussTimes of %v and %v returned %v, %v", a, b, z, ok)
			}
			if !ok {
				failed(t, "GaussTimes", z)
				continue
			}
			if again, same := impl.GaussTimes(b, a); !same || again != z {
				t.Fatalf("GaussTimes of %v and %v is %v, but exchanged %v", a, b, z, again)
			}
			u, _ := impl.GaussWide(z)
			v, _ := impl.GaussWide(a)
			w, _ := impl.GaussWide(b)
			if u != v*w || z != product(a, b) {
				t.Fatalf("GaussTimes of %v and %v is %v", a, b, z)
			}
			if impl.GaussNorm(z) != impl.GaussNorm(a)*impl.GaussNorm(b) {
				t.Fatalf("norms of %v and %v are not multiplied", a, b)
			}
		}
	}
}

func TestGaussTimesEnds(t *testing.T) {
	checkGauss(t, "GaussTimes", impl.GaussTimes, []gaussCase{
		{gauss{Re: 1, Im: 2}, gauss{Re: 3, Im: -1}, gauss{Re: 5, Im: 5}, true},
		{gauss{Re: 1000}, gauss{Im: 1000}, gauss{Im: 1000000}, true},
		{gauss{Re: 1000}, gauss{Im: 1001}, gauss{}, false},
		{gauss{Re: 1000, Im: 1}, gauss{Re: 1000, Im: -1}, gauss{}, false},
		{gauss{Re: 707, Im: 707}, gauss{Re: 707, Im: 707}, gauss{Im: 999698}, true},
		{gauss{Re: 1000000, Im: -1000000}, gauss{Im: -1}, gauss{Re: -1000000, Im: -1000000}, true},
		{gauss{Re: 1000000, Im: 1000000}, gauss{Re: 1000000, Im: 1000000}, gauss{}, false},
		{gauss{Re: 1000001}, gauss{}, gauss{}, false},
		{gauss{}, gauss{Im: -1000001}, gauss{}, false},
		{gauss{Re: math.MinInt}, gauss{}, gauss{}, false},
		{gauss{Re: 1 << 32}, gauss{Re: 1 << 32}, gauss{}, false},
	})
}

func TestPromise4NormAsProduct(t *testing.T) {
	for _, z := range smallOnes() {
		n := impl.GaussNorm(z)
		if n < 0 || (n == 0) != (z == gauss{}) {
			t.Fatalf("GaussNorm of %v is %d", z, n)
		}
		a, ok := impl.GaussWide(z)
		b, fine := impl.GaussWide(mirrored(z))
		if !ok || !fine || float64(n) != real(a*b) || n != norm(z) {
			t.Fatalf("GaussNorm of %v is %d", z, n)
		}
	}
}

func TestGaussNormEnds(t *testing.T) {
	if n := impl.GaussNorm(gauss{Re: 1000000, Im: -1000000}); n != 2000000000000 {
		t.Errorf("the greatest norm is %d", n)
	}
	for _, z := range notSmallOnes() {
		if n := impl.GaussNorm(z); n != -1 {
			t.Fatalf("GaussNorm of %v, which is not small, is %d", z, n)
		}
	}
}

func TestPromise5DivideNearest(t *testing.T) {
	list := smallOnes()
	for _, a := range list {
		for _, b := range list {
			q, r, ok := impl.GaussDivide(a, b)
			if ok != (b != gauss{}) {
				t.Fatalf("GaussDivide of %v and %v returned %v", a, b, ok)
			}
			if !ok {
				failed(t, "GaussDivide", q, r)
				continue
			}
			if z, small := impl.GaussTimes(q, b); small && plus(z, r) != a {
				t.Fatalf("GaussDivide of %v and %v is %v with the rest %v", a, b, q, r)
			}
			if plus(product(q, b), r) != a || 2*norm(r) > norm(b) {
				t.Fatalf("GaussDivide of %v and %v is %v with the rest %v", a, b, q, r)
			}
			exact := product(a, mirrored(b))
			if !roundedUp(exact.Re, norm(b), q.Re) || !roundedUp(exact.Im, norm(b), q.Im) {
				t.Fatalf("GaussDivide of %v and %v is %v: not rounded as told", a, b, q)
			}
		}
	}
}

// roundedUp reports whether n over d is at least q less a half, and less than q and a half.
func roundedUp(n, d, q int) bool {
	return 2*q*d-d <= 2*n && 2*n < 2*q*d+d
}

func TestGaussDivideHalves(t *testing.T) {
	for _, c := range []struct{ a, b, q, r gauss }{
		{gauss{Re: 7, Im: 2}, gauss{Re: 2, Im: 1}, gauss{Re: 3, Im: -1}, gauss{Im: 1}},
		{gauss{Re: 1}, gauss{Re: 2}, gauss{Re: 1}, gauss{Re: -1}},
		{gauss{Re: -1}, gauss{Re: 2}, gauss{}, gauss{Re: -1}},
		{gauss{Re: 1}, gauss{Re: -2}, gauss{}, gauss{Re: 1}},
		{gauss{Re: -1}, gauss{Re: -2}, gauss{Re: 1}, gauss{Re: 1}},
		{gauss{Im: 1}, gauss{Re: 2}, gauss{Im: 1}, gauss{Im: -1}},
		{gauss{Im: -1}, gauss{Re: 2}, gauss{}, gauss{Im: -1}},
		{gauss{Re: 3, Im: -3}, gauss{Re: 2}, gauss{Re: 2, Im: -1}, gauss{Re: -1, Im: -1}},
		{gauss{Re: -3, Im: 5}, gauss{Re: 2}, gauss{Re: -1, Im: 3}, gauss{Re: -1, Im: -1}},
		{gauss{Re: -7, Im: -5}, gauss{Re: 2}, gauss{Re: -3, Im: -2}, gauss{Re: -1, Im: -1}},
		{gauss{Re: 1}, gauss{Re: 1, Im: 1}, gauss{Re: 1}, gauss{Im: -1}},
		{gauss{Re: -1}, gauss{Re: 1, Im: 1}, gauss{Im: 1}, gauss{Im: -1}},
		{gauss{}, gauss{Re: -9, Im: 4}, gauss{}, gauss{}},
		{gauss{Re: 1000000, Im: 1000000}, gauss{Re: 1, Im: -1}, gauss{Im: 1000000}, gauss{}},
		{gauss{Re: 1000000, Im: -1000000}, gauss{Im: 1}, gauss{Re: -1000000, Im: -1000000}, gauss{}},
		{gauss{Re: 500000}, gauss{Re: 1000000}, gauss{Re: 1}, gauss{Re: -500000}},
		{gauss{Re: -500000, Im: 499999}, gauss{Re: 1000000}, gauss{}, gauss{Re: -500000, Im: 499999}},
	} {
		if q, r, ok := impl.GaussDivide(c.a, c.b); !ok || q != c.q || r != c.r {
			t.Errorf("GaussDivide of %v and %v returned %v, %v and %v", c.a, c.b, q, r, ok)
		}
	}
}

func TestGaussDivideFails(t *testing.T) {
	for _, z := range notSmallOnes() {
		for _, b := range []gauss{{}, {Re: 1}, {Im: -1}, {Re: 1000000, Im: 1000000}, z} {
			q, r, ok := impl.GaussDivide(z, b)
			mustFail(t, "GaussDivide", ok, q, r)
			q, r, ok = impl.GaussDivide(b, z)
			mustFail(t, "GaussDivide", ok, q, r)
		}
	}
	for _, z := range append(smallOnes(), notSmallOnes()...) {
		q, r, ok := impl.GaussDivide(z, gauss{})
		mustFail(t, "GaussDivide", ok, q, r)
	}
}

func TestPromise6GcdDividesBoth(t *testing.T) {
	list := smallOnes()
	for _, a := range list {
		for _, b := range list {
			g, ok := impl.GaussGcd(a, b)
			if ok != (a != gauss{} || b != gauss{}) {
				t.Fatalf("GaussGcd of %v and %v returned %v", a, b, ok)
			}
			if !ok {
				failed(t, "GaussGcd", g)
				continue
			}
			if turn, fine := impl.GaussFirst(g); !fine || turn != g {
				t.Fatalf("GaussGcd of %v and %v is %v, not its first turn", a, b, g)
			}
			if _, r, fine := impl.GaussDivide(a, g); !fine || r != (gauss{}) {
				t.Fatalf("GaussGcd %v does not divide %v", g, a)
			}
			if _, r, fine := impl.GaussDivide(b, g); !fine || r != (gauss{}) {
				t.Fatalf("GaussGcd %v does not divide %v", g, b)
			}
			if other, fine := impl.GaussGcd(b, a); !fine || other != g {
				t.Fatalf("GaussGcd of %v and %v is %v, but exchanged %v", a, b, g, other)
			}
		}
	}
}

func TestGaussGcdGreatest(t *testing.T) {
	list := gaussSquare(6)
	for _, a := range list {
		for _, b := range list {
			if a == (gauss{}) && b == (gauss{}) {
				continue
			}
			g, _ := impl.GaussGcd(a, b)
			for _, d := range list {
				if d != (gauss{}) && divides(d, a) && divides(d, b) && !divides(d, g) {
					t.Fatalf("GaussGcd of %v and %v is %v, but %v divides both", a, b, g, d)
				}
			}
		}
	}
}

func TestGaussGcdEnds(t *testing.T) {
	checkGauss(t, "GaussGcd", impl.GaussGcd, []gaussCase{
		{gauss{Re: 5, Im: 5}, gauss{Re: 1, Im: 3}, gauss{Re: 1, Im: 3}, true},
		{gauss{}, gauss{Im: -3}, gauss{Re: 3}, true},
		{gauss{Re: -4, Im: 2}, gauss{}, gauss{Re: 2, Im: 4}, true},
		{gauss{Re: 5}, gauss{Re: 2, Im: -1}, gauss{Re: 1, Im: 2}, true},
		{gauss{Re: 7}, gauss{Im: 1}, gauss{Re: 1}, true},
		{gauss{Re: 1000000}, gauss{Re: 999999}, gauss{Re: 1}, true},
		{gauss{Re: 1000000, Im: 1000000}, gauss{Re: -1000000, Im: 1000000}, gauss{Re: 1000000, Im: 1000000}, true},
		{gauss{Re: 832040}, gauss{Re: 514229}, gauss{Re: 1}, true},
		{gauss{}, gauss{}, gauss{}, false},
		{gauss{Re: 1000001}, gauss{}, gauss{}, false},
		{gauss{}, gauss{Im: 1000001}, gauss{}, false},
		{gauss{Re: 1}, gauss{Im: -1000001}, gauss{}, false},
	})
	for _, z := range notSmallOnes() {
		for _, b := range []gauss{{}, {Re: 1}, {Im: -1000000}, z} {
			g, ok := impl.GaussGcd(z, b)
			mustFail(t, "GaussGcd", ok, g)
			g, ok = impl.GaussGcd(b, z)
			mustFail(t, "GaussGcd", ok, g)
		}
	}
}

func TestPromise7FirstTurn(t *testing.T) {
	for _, z := range smallOnes() {
		first, ok := impl.GaussFirst(z)
		if !ok {
			t.Fatalf("GaussFirst of %v fails", z)
		}
		if turned, fine := impl.GaussFirst(timesI(z)); !fine || turned != first {
			t.Fatalf("GaussFirst of %v is %v, but of its product with i %v", z, first, turned)
		}
		if impl.GaussNorm(first) != impl.GaussNorm(z) {
			t.Fatalf("GaussFirst of %v is %v: another norm", z, first)
		}
		if again, fine := impl.GaussFirst(first); !fine || again != first {
			t.Fatalf("GaussFirst of %v is not its own first turn", first)
		}
		if z != (gauss{}) && (first.Re <= 0 || first.Im < 0) {
			t.Fatalf("GaussFirst of %v is %v", z, first)
		}
		turns := 0
		for _, u := range gaussUnits {
			if product(z, u) == first {
				turns++
			}
		}
		if turns == 0 {
			t.Fatalf("GaussFirst of %v is %v, which is no product with a unit", z, first)
		}
	}
}

func TestGaussFirstEnds(t *testing.T) {
	for _, u := range gaussUnits {
		if z, ok := impl.GaussFirst(u); !ok || z != (gauss{Re: 1}) {
			t.Errorf("GaussFirst of the unit %v returned %v, %v", u, z, ok)
		}
	}
	for _, c := range [][2]gauss{
		{{}, {}},
		{{Re: 2, Im: 1}, {Re: 2, Im: 1}},
		{{Re: 2, Im: -1}, {Re: 1, Im: 2}},
		{{Re: -2, Im: 1}, {Re: 1, Im: 2}},
		{{Re: -2, Im: -1}, {Re: 2, Im: 1}},
		{{Im: 1000000}, {Re: 1000000}},
		{{Re: -1000000, Im: 999999}, {Re: 999999, Im: 1000000}},
	} {
		if z, ok := impl.GaussFirst(c[0]); !ok || z != c[1] {
			t.Errorf("GaussFirst of %v returned %v, %v", c[0], z, ok)
		}
	}
	for _, z := range notSmallOnes() {
		first, ok := impl.GaussFirst(z)
		mustFail(t, "GaussFirst", ok, first)
	}
}

func TestPromise8PrimeTurnedAndMirrored(t *testing.T) {
	two := gauss{Re: 2}
	for _, z := range gaussSquare(80) {
		if !impl.GaussPrime(z) {
			continue
		}
		if !impl.GaussPrime(timesI(z)) || !impl.GaussPrime(mirrored(z)) {
			t.Fatalf("GaussPrime holds for %v alone", z)
		}
		if g, ok := impl.GaussGcd(z, two); !ok || g != (gauss{Re: 1}) && impl.GaussNorm(z) != 2 {
			t.Fatalf("GaussPrime holds for %v, which has %v in common with 2", z, g)
		}
	}
}

// isPrime follows the definition: if there is a product of two numbers with a norm greater than 1, the norm of one of both is at most the root.
func isPrime(z gauss) bool {
	n := norm(z)
	if n <= 1 {
		return false
	}
	for re := 1; re*re*re*re <= n; re++ {
		for im := 0; (re*re+im*im)*(re*re+im*im) <= n; im++ {
			if d := (gauss{Re: re, Im: im}); norm(d) > 1 && divides(d, z) {
				return false
			}
		}
	}
	return true
}

func TestGaussPrimeAsDefined(t *testing.T) {
	list := gaussSquare(60)
	for k := -1000; k <= 1000; k++ {
		list = append(list, gauss{Re: k}, gauss{Im: k}, gauss{Re: 1000, Im: k}, gauss{Re: k, Im: -1000}, gauss{Re: k, Im: k}, gauss{Re: -999, Im: k})
	}
	for _, z := range list {
		if impl.GaussPrime(z) != isPrime(z) {
			t.Fatalf("GaussPrime of %v is %v", z, impl.GaussPrime(z))
		}
	}
}

func TestGaussPrimeEnds(t *testing.T) {
	for _, z := range []gauss{{Re: 1, Im: 1}, {Re: -1, Im: 1}, {Re: 3}, {Im: -3}, {Im: 7}, {Re: -11}, {Re: 2, Im: 1}, {Re: 991}, {Re: 1000, Im: 9}, {Re: -9, Im: -1000}} {
		if !impl.GaussPrime(z) {
			t.Errorf("GaussPrime does not hold for %v", z)
		}
	}
	for _, z := range append([]gauss{{}, {Re: 2}, {Re: 5}, {Im: -13}, {Re: 9}, {Im: 21}, {Re: 3, Im: 3}, {Re: 1000}, {Re: 1000, Im: 1000}}, gaussUnits...) {
		if impl.GaussPrime(z) {
			t.Errorf("GaussPrime holds for %v", z)
		}
	}
	// Primes beyond the range of parts: 1019 is 3 more than a multiple of 4.
	for _, z := range append([]gauss{{Re: 1019}, {Im: -1019}, {Re: 1001, Im: 4}, {Re: 10, Im: 1001}, {Re: -1001, Im: 10}}, notSmallOnes()...) {
		if impl.GaussPrime(z) {
			t.Errorf("GaussPrime holds for %v, with a part beyond 1000", z)
		}
	}
	if !isPrime(gauss{Re: 1019}) || !isPrime(gauss{Re: 1001, Im: 10}) || !isPrime(gauss{Re: 1001, Im: 4}) {
		t.Errorf("the numbers beyond the range are not prime")
	}
}

func TestPromise9WideLeadsBack(t *testing.T) {
	for _, z := range smallOnes() {
		w, ok := impl.GaussWide(z)
		if !ok || w != wideOf(z) {
			t.Fatalf("GaussWide of %v returned %v, %v", z, w, ok)
		}
		if back, fine := impl.GaussOf(w); !fine || back != z {
			t.Fatalf("GaussOf of %v returned %v, %v", w, back, fine)
		}
		if z.Re == 0 && math.Signbit(real(w)) || z.Im == 0 && math.Signbit(imag(w)) {
			t.Fatalf("GaussWide of %v has a negative zero", z)
		}
	}
	for _, z := range notSmallOnes() {
		if w, ok := impl.GaussWide(z); ok || w != 0 {
			t.Fatalf("GaussWide of %v, which is not small, returned %v, %v", z, w, ok)
		}
	}
}

// floatParts has parts that are numbers of a Gaussian number, and parts that are none.
func floatParts() []float64 {
	list := []float64{0, math.Copysign(0, -1), 0.5, -0.5, 1, -1, 1.5, 999999, 999999.5, 1000000, -1000000}
	list = append(list, 1000000.5, -1000000.5, 1000001, -1000001, math.Nextafter(1, 2), math.Nextafter(1, 0))
	list = append(list, math.Nextafter(1000000, 1000001), math.Nextafter(-1000000, 0), 5e-324, -5e-324, 1<<63, -1<<63, 1e300)
	return append(list, math.MaxFloat64, math.Inf(1), math.Inf(-1), math.NaN())
}

func TestPromise10OfIsEqual(t *testing.T) {
	whole := func(x float64) bool { return x == math.Trunc(x) && math.Abs(x) <= 1000000 }
	for _, re := range floatParts() {
		for _, im := range floatParts() {
			w := complex(re, im)
			z, ok := impl.GaussOf(w)
			if ok != (whole(re) && whole(im)) {
				t.Fatalf("GaussOf of %v returned %v, %v", w, z, ok)
			}
			if !ok {
				failed(t, "GaussOf", z)
				continue
			}
			if back, fine := impl.GaussWide(z); !fine || back != w || w != w {
				t.Fatalf("GaussWide of %v, which is GaussOf of %v, returned %v, %v", z, w, back, fine)
			}
		}
	}
}

func TestGaussOfEnds(t *testing.T) {
	minus := math.Copysign(0, -1)
	if z, ok := impl.GaussOf(complex(minus, minus)); !ok || z != (gauss{}) {
		t.Errorf("GaussOf of negative zeros returned %v, %v", z, ok)
	}
	if z, ok := impl.GaussOf(complex(minus, -1000000)); !ok || z != (gauss{Im: -1000000}) {
		t.Errorf("GaussOf returned %v, %v", z, ok)
	}
	if z, ok := impl.GaussOf(2 - 3i); !ok || z != (gauss{Re: 2, Im: -3}) {
		t.Errorf("GaussOf returned %v, %v", z, ok)
	}
	for _, x := range []float64{math.NaN(), math.Inf(1), math.Inf(-1), 0.25, -0.5, 1000000.5, 1000001, -1000001, 1 << 63, -1 << 63} {
		z, ok := impl.GaussOf(complex(x, 0))
		mustFail(t, "GaussOf", ok, z)
		z, ok = impl.GaussOf(complex(0, x))
		mustFail(t, "GaussOf", ok, z)
	}
}

func TestGaussNotSmallFails(t *testing.T) {
	for _, z := range notSmallOnes() {
		for _, b := range []gauss{{}, {Re: 1}, {Im: -1}, {Re: -1000000, Im: 1000000}, z, {Re: -z.Re, Im: -z.Im}} {
			for name, f := range map[string]func(gauss, gauss) (gauss, bool){"GaussAdd": impl.GaussAdd, "GaussTimes": impl.GaussTimes, "GaussGcd": impl.GaussGcd} {
				c, ok := f(z, b)
				mustFail(t, name, ok, c)
				c, ok = f(b, z)
				mustFail(t, name, ok, c)
			}
		}
	}
}

type gaussCase struct {
	a, b, want gauss
	ok         bool
}

func checkGauss(t *testing.T, name string, f func(gauss, gauss) (gauss, bool), cases []gaussCase) {
	t.Helper()
	for _, c := range cases {
		if z, ok := f(c.a, c.b); z != c.want || ok != c.ok {
			t.Errorf("%s of %v and %v returned %v, %v", name, c.a, c.b, z, ok)
		}
	}
}

func mustFail(t *testing.T, name string, ok bool, results ...gauss) {
	t.Helper()
	if ok {
		t.Fatalf("%s succeeds with %v", name, results)
	}
	failed(t, name, results...)
}

// failed checks that what stands beside a false is 0.
func failed(t *testing.T, name string, results ...gauss) {
	t.Helper()
	for _, z := range results {
		if z != (gauss{}) {
			t.Fatalf("%s fails with %v", name, results)
		}
	}
}
