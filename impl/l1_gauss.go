package impl

// PartMax is the greatest size of a part of a Gaussian number.
const PartMax = 1000000

// primePartMax is the greatest size of a part that GaussPrime takes.
const primePartMax = 1000

// Gauss is a Gaussian whole number.
type Gauss struct {
	Re int
	Im int
}

// GaussSmall reports whether a Gaussian number is small.
func GaussSmall(z Gauss) bool {
	return z.pair().small()
}

// GaussAdd returns the sum of two small Gaussian numbers, and true.
func GaussAdd(a Gauss, b Gauss) (Gauss, bool) {
	p, q := a.pair(), b.pair()
	if !p.small() || !q.small() {
		return Gauss{}, false
	}
	return p.plus(q).ifSmall()
}

// GaussTimes returns the product of two small Gaussian numbers, and true.
func GaussTimes(a Gauss, b Gauss) (Gauss, bool) {
	p, q := a.pair(), b.pair()
	if !p.small() || !q.small() {
		return Gauss{}, false
	}
	return p.times(q).ifSmall()
}

// GaussNorm returns the norm of a small Gaussian number, or -1 if it is not small.
func GaussNorm(z Gauss) int {
	p := z.pair()
	if !p.small() {
		return -1
	}
	return p.norm()
}

// GaussDivide returns the quotient and the rest of two small Gaussian numbers, and true.
func GaussDivide(a Gauss, b Gauss) (Gauss, Gauss, bool) {
	p, q := a.pair(), b.pair()
	if !p.small() || !q.small() || q == (pair{}) {
		return Gauss{}, Gauss{}, false
	}
	whole, rest := p.divide(q)
	quotient, ok := whole.ifSmall()
	if !ok {
		return Gauss{}, Gauss{}, false
	}
	return quotient, rest.gauss(), true
}

// GaussFirst returns the first turn of a small Gaussian number, and true.
func GaussFirst(z Gauss) (Gauss, bool) {
	p := z.pair()
	if !p.small() {
		return Gauss{}, false
	}
	return p.first().gauss(), true
}

// GaussGcd returns the first turn of the greatest common divisor of two small Gaussian numbers that are not both 0, by dividing again and again, and true.
func GaussGcd(a Gauss, b Gauss) (Gauss, bool) {
	p, q := a.pair(), b.pair()
	if !p.small() || !q.small() || p == (pair{}) && q == (pair{}) {
		return Gauss{}, false
	}
	for q != (pair{}) {
		_, rest := p.divide(q)
		p, q = q, rest
	}
	return p.first().gauss(), true
}

// GaussPrime reports whether a Gaussian number with parts of a size of at most 1000 is prime.
func GaussPrime(z Gauss) bool {
	p := z.pair()
	if !p.within(primePartMax) {
		return false
	}
	// A whole prime stays prime only if it is no sum of two squares; off the
	// axes a number is prime just if its norm is.
	if turn := p.first(); turn[1] == 0 {
		return turn[0]%4 == 3 && wholePrime(turn[0])
	}
	return wholePrime(p.norm())
}

// GaussWide returns the complex128 that a small Gaussian number is, and true.
func GaussWide(z Gauss) (complex128, bool) {
	p := z.pair()
	if !p.small() {
		return 0, false
	}
	return complex128(p.wide()), true
}

// GaussOf returns the small Gaussian number that a complex128 is (==), and true.
func GaussOf(z complex128) (Gauss, bool) {
	p, ok := wide(z).pair()
	return p.gauss(), ok
}

// pair is a Gaussian number as its real and its imaginary part: an array, so
// that two of them are compared with ==.
type pair [2]int

// wide is a complex128 that may be a Gaussian number.
type wide complex128

func (z Gauss) pair() pair {
	return pair{z.Re, z.Im}
}

func (p pair) gauss() Gauss {
	return Gauss{Re: p[0], Im: p[1]}
}

// ifSmall returns the Gaussian number and true, or false if it is not small.
func (p pair) ifSmall() (Gauss, bool) {
	if !p.small() {
		return Gauss{}, false
	}
	return p.gauss(), true
}

// within compares with both ends: the size of the least int is no int.
func (p pair) within(limit int) bool {
	return -limit <= p[0] && p[0] <= limit && -limit <= p[1] && p[1] <= limit
}

func (p pair) small() bool {
	return p.within(PartMax)
}

func (p pair) plus(q pair) pair {
	return pair{p[0] + q[0], p[1] + q[1]}
}

func (p pair) minus(q pair) pair {
	return pair{p[0] - q[0], p[1] - q[1]}
}

func (p pair) times(q pair) pair {
	return pair{p[0]*q[0] - p[1]*q[1], p[0]*q[1] + p[1]*q[0]}
}

func (p pair) mirrored() pair {
	return pair{p[0], -p[1]}
}

func (p pair) norm() int {
	return p[0]*p[0] + p[1]*p[1]
}

// divide returns the quotient and the rest for a q that is not 0.
func (p pair) divide(q pair) (pair, pair) {
	above, below := p.times(q.mirrored()), q.norm()
	whole := pair{nearest(above[0], below), nearest(above[1], below)}
	return whole, p.minus(whole.times(q))
}

// first returns the first turn. One of the four products with units has it, so
// that at most three turns lead there, but 0 would be turned without an end.
func (p pair) first() pair {
	if p == (pair{}) {
		return p
	}
	for p[0] <= 0 || p[1] < 0 {
		p = p.times(pair{0, 1})
	}
	return p
}

func (p pair) wide() wide {
	return wide(complex(float64(p[0]), float64(p[1])))
}

// pair checks the range ahead of the conversion to int, because Go defines it
// for what fits only; a NaN is in no range.
func (w wide) pair() (pair, bool) {
	re, im := real(w), imag(w)
	if !(-PartMax <= re && re <= PartMax && -PartMax <= im && im <= PartMax) {
		return pair{}, false
	}
	p := pair{int(re), int(im)}
	if p.wide() != w {
		return pair{}, false
	}
	return p, true
}

// nearest returns n over d, d greater than 0, rounded to the nearest whole
// number, up for a half: the floor of n over d and a half.
func nearest(n, d int) int {
	n, d = 2*n+d, 2*d
	if n%d < 0 {
		return n/d - 1
	}
	return n / d
}

// wholePrime reports whether a whole number is prime among the whole numbers.
func wholePrime(n int) bool {
	for d := 2; d*d <= n; d++ {
		if n%d == 0 {
			return false
		}
	}
	return n > 1
}
