package tests

import (
	"math"
	"math/rand"
	"slices"
	"strconv"
	"strings"
	"testing"

	"loop.example/dragonnumbers/impl"
)

var base = gauss{Re: -1, Im: 1}

func zeros(n int) string { return strings.Repeat("0", n) }
func ones(n int) string  { return strings.Repeat("1", n) }

// shortOnes has all expansions of up to n digits.
func shortOnes(n int) []string {
	var list []string
	for k := range int64(1) << n {
		list = append(list, strconv.FormatInt(k, 2))
	}
	return list
}

// longOnes has expansions of each length from 1 to 50.
func longOnes() []string {
	random := rand.New(rand.NewSource(1))
	list := []string{"0"}
	for length := 1; length <= 50; length++ {
		list = append(list, ones(length), "1"+zeros(length-1), strings.Repeat("10", 25)[:length])
		for range 3 {
			list = append(list, "1"+randomDigits(random, length-1))
		}
	}
	for length := 5; length <= 50; length++ {
		list = append(list, "11101"+zeros(length-5))
	}
	return list
}

func randomDigits(random *rand.Rand, n int) string {
	text := make([]byte, n)
	for i := range text {
		text[i] = '0' + byte(random.Intn(2))
	}
	return string(text)
}

func expansions() []string {
	return append(shortOnes(5), longOnes()...)
}

// noExpansions has leading zeros, other bytes at each end and between, and texts that are too long.
func noExpansions() []string {
	list := []string{"", "00", "01", "0000", "011", "0" + ones(49), zeros(50), "-1", "+1", "-0", " 1", "1 ", "\n", "1\n", "1\x00", "\x00"}
	list = append(list, "2", "12", "21", "102", "/", ":", "1/", "1:1", "1.0", "0.", "0x1", "1_0", "a", "O", "l", "1é", "é", "\xff", "1\xff1", "1\xc0\xb0", "\u0661", "1\uff11")
	list = append(list, ones(51), zeros(51), "1"+zeros(50), "0"+ones(50), ones(49)+"2", "2"+ones(49), ones(50)+"\n", ones(100))
	return append(list, strings.Repeat("1", 1<<20), "1"+strings.Repeat("0", 1<<20), strings.Repeat("x", 1<<20), strings.Repeat("\xff", 1<<20))
}

// The following ones calculate apart from the program, by values instead of by digits.

func isExpansion(s string) bool {
	if len(s) == 0 || len(s) > 50 || len(s) > 1 && s[0] != '1' {
		return false
	}
	return strings.Count(s, "0")+strings.Count(s, "1") == len(s)
}

func valueOf(s string) gauss {
	value, power := gauss{}, gauss{Re: 1}
	for i := len(s) - 1; i >= 0; i-- {
		if s[i] == '1' {
			value = plus(value, power)
		}
		power = product(power, base)
	}
	return value
}

// split returns the last digit of a number and what is left, divided by the base.
func split(z gauss) (int, gauss) {
	digit := 0
	if (z.Re+z.Im)%2 != 0 {
		digit = 1
	}
	left := product(gauss{Re: z.Re - digit, Im: z.Im}, mirrored(base))
	return digit, gauss{Re: left.Re / 2, Im: left.Im / 2}
}

func expansionOf(z gauss) string {
	if z == (gauss{}) {
		return "0"
	}
	var text []byte
	for z != (gauss{}) {
		digit, left := split(z)
		text, z = append(text, '0'+byte(digit)), left
	}
	slices.Reverse(text)
	return string(text)
}

// fitting returns the expansion of a number, if it is not too long.
func fitting(z gauss) (string, bool) {
	if s := expansionOf(z); len(s) <= 50 {
		return s, true
	}
	return "", false
}

func wantedTimes(a, b string) (string, bool) {
	total := gauss{}
	for i := range b {
		if b[i] == '0' {
			continue
		}
		total = plus(total, valueOf(a+zeros(len(b)-1-i)))
		if _, ok := fitting(total); !ok {
			return "", false
		}
	}
	return fitting(total)
}

func wantedCarries(a, b string) []gauss {
	var list []gauss
	carry := gauss{}
	for i := 1; i <= max(len(a), len(b)) || carry != (gauss{}); i++ {
		sum := carry
		for _, s := range []string{a, b} {
			if i <= len(s) && s[len(s)-i] == '1' {
				sum.Re++
			}
		}
		_, carry = split(sum)
		list = append(list, carry)
	}
	return list
}

func checkText(t *testing.T, what string, s string, ok bool, want string, fine bool) {
	t.Helper()
	if s != want || ok != fine {
		t.Fatalf("%s returned %q, %v instead of %q, %v", what, s, ok, want, fine)
	}
}

func TestDigitsValidEnds(t *testing.T) {
	if impl.DigitsMax != 50 {
		t.Errorf("DigitsMax is %d", impl.DigitsMax)
	}
	for _, s := range append(shortOnes(10), longOnes()...) {
		if !impl.DigitsValid(s) || !isExpansion(s) {
			t.Fatalf("DigitsValid does not hold for %q", s)
		}
	}
	for _, s := range noExpansions() {
		if impl.DigitsValid(s) || isExpansion(s) {
			t.Fatalf("DigitsValid holds for %.60q", s)
		}
	}
	for first := range 256 {
		for second := range 256 {
			s := string([]byte{byte(first), byte(second)})
			if impl.DigitsValid(s) != isExpansion(s) || impl.DigitsValid(s[:1]) != isExpansion(s[:1]) {
				t.Fatalf("DigitsValid of %q or its first byte is wrong", s)
			}
		}
	}
}

func TestPromise11AddZeroTimesOneTimesTen(t *testing.T) {
	for _, s := range append(shortOnes(10), longOnes()...) {
		for _, f := range []func() (string, bool){
			func() (string, bool) { return impl.DigitsAdd(s, "0") },
			func() (string, bool) { return impl.DigitsAdd("0", s) },
			func() (string, bool) { return impl.DigitsTimes(s, "1") },
			func() (string, bool) { return impl.DigitsTimes("1", s) },
		} {
			got, ok := f()
			checkText(t, "adding 0 to or DigitsTimes by 1 of "+s, got, ok, s, true)
		}
		want, fine := s+"0", true
		if s == "0" {
			want = "0"
		} else if len(s) == 50 {
			want, fine = "", false
		}
		got, ok := impl.DigitsTimes(s, "10")
		checkText(t, "DigitsTimes by 10 of "+s, got, ok, want, fine)
	}
}

func TestPromise12OfLeadsBack(t *testing.T) {
	for _, z := range append(gaussSquare(40), smallOnes()...) {
		s, ok := impl.DigitsOf(z)
		checkText(t, "DigitsOf", s, ok, expansionOf(z), true)
		if !impl.DigitsValid(s) {
			t.Fatalf("DigitsOf of %v is %q, no expansion", z, s)
		}
		if back, fine := impl.DigitsValue(s); !fine || back != z {
			t.Fatalf("DigitsValue of %q, which is DigitsOf of %v, returned %v, %v", s, z, back, fine)
		}
	}
	for _, z := range notSmallOnes() {
		s, ok := impl.DigitsOf(z)
		checkText(t, "DigitsOf of what is not small", s, ok, "", false)
	}
}

func TestDigitsOfEnds(t *testing.T) {
	for want, z := range map[string]gauss{
		"0": {}, "1": {Re: 1}, "10": base, "11": {Im: 1}, "100": {Im: -2}, "110": {Re: -1, Im: -1},
		"111": {Im: -1}, "1100": {Re: 2}, "11101": {Re: -1}, "11100": {Re: -2},
	} {
		s, ok := impl.DigitsOf(z)
		checkText(t, "DigitsOf", s, ok, want, true)
	}
	longest := 0
	for _, z := range gaussGrid([]int{1000000, -1000000, 999999, -999999, 524288, -524287}) {
		s, ok := impl.DigitsOf(z)
		checkText(t, "DigitsOf", s, ok, expansionOf(z), true)
		longest = max(longest, len(s))
	}
	if longest < 42 || longest > 50 {
		t.Errorf("the longest expansion of a small number has %d digits", longest)
	}
}

func TestPromise13ValueLeadsBack(t *testing.T) {
	for _, s := range append(shortOnes(12), longOnes()...) {
		want := valueOf(s)
		z, ok := impl.DigitsValue(s)
		if !isSmall(want) {
			mustFail(t, "DigitsValue", ok, z)
			continue
		}
		if !ok || z != want {
			t.Fatalf("DigitsValue of %q returned %v, %v", s, z, ok)
		}
		back, fine := impl.DigitsOf(z)
		checkText(t, "DigitsOf", back, fine, s, true)
		if odd := (z.Re+z.Im)%2 != 0; odd != strings.HasSuffix(s, "1") {
			t.Fatalf("the last digit of %q does not tell whether the sum of the parts of %v is odd", s, z)
		}
	}
	for _, s := range noExpansions() {
		z, ok := impl.DigitsValue(s)
		mustFail(t, "DigitsValue", ok, z)
	}
}

func TestDigitsValueEnds(t *testing.T) {
	for _, size := range []int{1000000, -1000000} {
		for _, other := range []int{0, 1, -31, 1000000, -1000000} {
			for _, z := range []gauss{{Re: size, Im: other}, {Re: other, Im: size}} {
				if got, ok := impl.DigitsValue(expansionOf(z)); !ok || got != z {
					t.Errorf("DigitsValue of the expansion of %v returned %v, %v", z, got, ok)
				}
			}
		}
	}
	for _, size := range []int{1000001, -1000001} {
		for _, other := range []int{0, 1, -31, 1000000, -1000000, 1000001, -1000001} {
			for _, z := range []gauss{{Re: size, Im: other}, {Re: other, Im: size}} {
				s := expansionOf(z)
				if !impl.DigitsValid(s) {
					t.Fatalf("DigitsValid does not hold for %q", s)
				}
				got, ok := impl.DigitsValue(s)
				mustFail(t, "DigitsValue", ok, got)
			}
		}
	}
	if z, ok := impl.DigitsValue("1" + zeros(38)); !ok || z != (gauss{Im: 1 << 19}) && z != (gauss{Im: -1 << 19}) {
		t.Errorf("DigitsValue of the power 38 returned %v, %v", z, ok)
	}
}

func TestPromise14AddAsValues(t *testing.T) {
	list := expansions()
	failures := 0
	for _, a := range list {
		for _, b := range list {
			want, fine := fitting(plus(valueOf(a), valueOf(b)))
			sum, ok := impl.DigitsAdd(a, b)
			checkText(t, "DigitsAdd of "+a+" and "+b, sum, ok, want, fine)
			exchanged, same := impl.DigitsAdd(b, a)
			checkText(t, "DigitsAdd of "+b+" and "+a, exchanged, same, want, fine)
			if !ok {
				failures++
				continue
			}
			x, small := impl.DigitsValue(sum)
			y, fits := impl.DigitsValue(a)
			z, suits := impl.DigitsValue(b)
			if small && fits && suits && x != plus(y, z) {
				t.Fatalf("DigitsAdd of %q and %q is %q", a, b, sum)
			}
		}
	}
	if failures == 0 {
		t.Errorf("no sum was too long")
	}
}

func TestDigitsAddEnds(t *testing.T) {
	for _, c := range []struct {
		a, b, want string
		ok         bool
	}{
		{"0", "0", "0", true},
		{"1", "1", "1100", true},
		{"1", "10", "11", true},
		{"11", "1", "1110", true},
		{"1", "11101", "0", true},
		{"1" + zeros(46), "1" + zeros(46), "1100" + zeros(46), true},
		{"1" + zeros(47), "1" + zeros(47), "", false},
		{"1" + zeros(49), "1" + zeros(48), "11" + zeros(48), true},
		{"1" + zeros(49), "1" + zeros(49), "", false},
		{"11101" + zeros(45), "1" + zeros(45), "0", true},
		{ones(50), "0", ones(50), true},
		{"0", ones(49), ones(49), true},
		{ones(51), "0", "", false},
		{"0", ones(51), "", false},
		{"01", "1", "", false},
		{"1", "", "", false},
		{"", "", "", false},
	} {
		sum, ok := impl.DigitsAdd(c.a, c.b)
		checkText(t, "DigitsAdd of "+c.a+" and "+c.b, sum, ok, c.want, c.ok)
	}
}

func TestPromise15CarriesEndWithZero(t *testing.T) {
	list := expansions()
	for _, a := range list {
		for _, b := range list {
			_, fine := impl.DigitsAdd(a, b)
			carries, ok := impl.DigitsCarries(a, b)
			if ok != fine {
				t.Fatalf("DigitsCarries of %q and %q returned %v, but DigitsAdd %v", a, b, ok, fine)
			}
			if !ok {
				failed(t, "DigitsCarries", carries...)
				if len(carries) > 0 {
					t.Fatalf("DigitsCarries fails with %v", carries)
				}
				continue
			}
			if !slices.Equal(carries, wantedCarries(a, b)) {
				t.Fatalf("DigitsCarries of %q and %q is %v", a, b, carries)
			}
			if len(carries) < max(len(a), len(b)) || carries[len(carries)-1] != (gauss{}) {
				t.Fatalf("DigitsCarries of %q and %q is %v", a, b, carries)
			}
			for _, carry := range carries {
				if max(carry.Re, -carry.Re, carry.Im, -carry.Im) > 2 {
					t.Fatalf("DigitsCarries of %q and %q has %v", a, b, carry)
				}
			}
		}
	}
}

// TestDigitsCarriesEachStep goes from each carry that can be reached on with each sum of both digits.
func TestDigitsCarriesEachStep(t *testing.T) {
	reached := []gauss{{}}
	ways := [][2]string{{"", ""}}
	for k := 0; k < len(reached); k++ {
		for sum, both := range [][2]string{{"0", "0"}, {"1", "0"}, {"1", "1"}} {
			a, b := both[0]+ways[k][0], both[1]+ways[k][1]
			if _, carry := split(plus(reached[k], gauss{Re: sum})); !slices.Contains(reached, carry) {
				reached, ways = append(reached, carry), append(ways, [2]string{a, b})
			}
			a, b = "1"+a, "1"+b
			carries, ok := impl.DigitsCarries(a, b)
			if !ok || !slices.Equal(carries, wantedCarries(a, b)) || k > 0 && carries[len(ways[k][0])-1] != reached[k] {
				t.Fatalf("DigitsCarries of %q and %q returned %v, %v", a, b, carries, ok)
			}
			got, fine := impl.DigitsAdd(a, b)
			checkText(t, "DigitsAdd of "+a+" and "+b, got, fine, expansionOf(plus(valueOf(a), valueOf(b))), true)
		}
	}
	if len(reached) != 15 {
		t.Errorf("there are %d carries", len(reached))
	}
}

func TestDigitsCarriesEnds(t *testing.T) {
	i := gauss{Im: 1}
	for _, c := range []struct {
		a, b string
		want []gauss
	}{
		{"0", "0", []gauss{{}}},
		{"1", "0", []gauss{{}}},
		{"0", "1010", make([]gauss, 4)},
		{"1", "1", []gauss{{Re: -1, Im: -1}, i, {Re: 1}, {}}},
		{"1", "11101", []gauss{{Re: -1, Im: -1}, i, {Im: -1}, {Re: -1}, {}}},
		{"1100", "11100", []gauss{{}, {}, {Re: -1, Im: -1}, {Re: -1}, {}}},
		{ones(50), "0", make([]gauss, 50)},
		{"1", "1" + zeros(49), make([]gauss, 50)},
		{"1" + zeros(46), "1" + zeros(46), append(make([]gauss, 46), gauss{Re: -1, Im: -1}, i, gauss{Re: 1}, gauss{})},
		{"1" + zeros(47), "1" + zeros(47), nil},
		{ones(51), "0", nil},
		{"00", "1", nil},
		{"1", "", nil},
	} {
		carries, ok := impl.DigitsCarries(c.a, c.b)
		if ok != (c.want != nil) || !slices.Equal(carries, c.want) {
			t.Errorf("DigitsCarries of %q and %q returned %v, %v", c.a, c.b, carries, ok)
		}
	}
}

func TestDigitsCarriesShareNothing(t *testing.T) {
	for _, c := range [][2]string{{"1", "1"}, {"1", "11101"}, {ones(40), ones(37)}, {"0", "0"}} {
		want := wantedCarries(c[0], c[1])
		first, _ := impl.DigitsCarries(c[0], c[1])
		second, _ := impl.DigitsCarries(c[0], c[1])
		impl.DigitsCarries("111", "1")
		impl.DigitsAdd(c[0], c[1])
		if !slices.Equal(first, want) || !slices.Equal(second, want) {
			t.Fatalf("a further call changed the carries of %q and %q", c[0], c[1])
		}
		for i := range first[:cap(first)] {
			first[:cap(first)][i] = gauss{Re: 77, Im: i}
		}
		third, _ := impl.DigitsCarries(c[0], c[1])
		if !slices.Equal(second, want) || !slices.Equal(third, want) {
			t.Fatalf("changing a result changed other carries of %q and %q", c[0], c[1])
		}
	}
}

func TestPromise16NegateIsOpposite(t *testing.T) {
	for _, s := range append(shortOnes(10), longOnes()...) {
		opposite, ok := impl.DigitsNegate(s)
		want, fine := impl.DigitsTimes(s, "11101")
		checkText(t, "DigitsNegate of "+s, opposite, ok, want, fine)
		if !ok {
			continue
		}
		sum, added := impl.DigitsAdd(opposite, s)
		checkText(t, "DigitsAdd of "+s+" and its opposite", sum, added, "0", true)
		// An opposite with more than 41 digits may lead back to an expansion only
		// by results on the way that are too long, so that it fails.
		if back, led := impl.DigitsNegate(opposite); led || len(opposite) <= 41 {
			checkText(t, "DigitsNegate of "+opposite, back, led, s, true)
		}
	}
	for _, z := range append(gaussSquare(20), smallOnes()...) {
		opposite, ok := impl.DigitsNegate(expansionOf(z))
		checkText(t, "DigitsNegate of "+expansionOf(z), opposite, ok, expansionOf(gauss{Re: -z.Re, Im: -z.Im}), true)
		back, led := impl.DigitsNegate(opposite)
		checkText(t, "DigitsNegate of "+opposite, back, led, expansionOf(z), true)
	}
}

func TestDigitsNegateEnds(t *testing.T) {
	for _, c := range []struct {
		s, want string
		ok      bool
	}{
		{"0", "0", true},
		{"1", "11101", true},
		{"11101", "1", true},
		{"11", "111", true},
		{"111", "11", true},
		{"1100", "11100", true},
		{"1" + zeros(45), "11101" + zeros(45), true},
		{"11101" + zeros(41), "1" + zeros(41), true},
		{"1" + zeros(46), "", false},
		{"1" + zeros(49), "", false},
		// The product has 43 digits, but the first result on the way has 51.
		{"11101" + zeros(42), "", false},
		{ones(50), "", false},
		{"1" + zeros(50), "", false},
		{"", "", false},
		{"00", "", false},
		{"-1", "", false},
	} {
		s, ok := impl.DigitsNegate(c.s)
		checkText(t, "DigitsNegate of "+c.s, s, ok, c.want, c.ok)
	}
}

func TestPromise17TimesAsValues(t *testing.T) {
	list := expansions()
	failures := 0
	for _, a := range list {
		for _, b := range list {
			want, fine := wantedTimes(a, b)
			s, ok := impl.DigitsTimes(a, b)
			checkText(t, "DigitsTimes of "+a+" and "+b, s, ok, want, fine)
			if !ok {
				failures++
				continue
			}
			if other, too := impl.DigitsTimes(b, a); too && other != s {
				t.Fatalf("DigitsTimes of %q and %q is %q, but the other way round %q", a, b, s, other)
			}
			x, small := impl.DigitsValue(s)
			y, fits := impl.DigitsValue(a)
			z, suits := impl.DigitsValue(b)
			if small && fits && suits && x != product(y, z) {
				t.Fatalf("DigitsTimes of %q and %q is %q", a, b, s)
			}
		}
	}
	if failures == 0 {
		t.Errorf("no product was too long")
	}
}

func TestDigitsTimesEnds(t *testing.T) {
	for _, c := range []struct {
		a, b, want string
		ok         bool
	}{
		{"0", "0", "0", true},
		{"0", "1", "0", true},
		{"11", "11", "11101", true},
		{"11101", "11101", "1", true},
		{"1100", "1100", "111010000", true},
		{"0", ones(50), "0", true},
		{ones(50), "0", "0", true},
		{"0", "1" + zeros(49), "0", true},
		{ones(50), "1", ones(50), true},
		{"1", ones(50), ones(50), true},
		{ones(49), "10", ones(49) + "0", true},
		{"10", ones(49), ones(49) + "0", true},
		{ones(50), "10", "", false},
		{"10", ones(50), "", false},
		{"1" + zeros(25), "1" + zeros(24), "1" + zeros(49), true},
		{"1" + zeros(25), "1" + zeros(25), "", false},
		// The product has 43 digits, but the first result on the way has 51.
		{"11101" + zeros(42), "11101", "", false},
		{"11101", "11101" + zeros(42), "", false},
		{"11101" + zeros(41), "11101", "1" + zeros(41), true},
		{"11101", "11101" + zeros(41), "1" + zeros(41), true},
		{ones(51), "0", "", false},
		{"0", ones(51), "", false},
		{"0", "", "", false},
		{"", "0", "", false},
		{"00", "1", "", false},
		{"1", "01", "", false},
		{"0", "0a", "", false},
	} {
		s, ok := impl.DigitsTimes(c.a, c.b)
		checkText(t, "DigitsTimes of "+c.a+" and "+c.b, s, ok, c.want, c.ok)
	}
}

// TestDigitsTimesOnTheWay looks for products that are short enough only in the end.
func TestDigitsTimesOnTheWay(t *testing.T) {
	found := 0
	for _, a := range longOnes() {
		for _, b := range shortOnes(5) {
			if _, fine := wantedTimes(a, b); fine {
				continue
			}
			s, ok := impl.DigitsTimes(a, b)
			checkText(t, "DigitsTimes of "+a+" and "+b, s, ok, "", false)
			if _, short := fitting(product(valueOf(a), valueOf(b))); short && len(a)+len(b) <= 51 {
				found++
			}
		}
	}
	if found == 0 {
		t.Errorf("no product had a sum on the way that was too long")
	}
}

func TestPromise18NextIsOneMore(t *testing.T) {
	for _, s := range append(shortOnes(12), longOnes()...) {
		next, ok := impl.DigitsNext(s)
		number, err := strconv.ParseInt(s, 2, 64)
		if err != nil {
			t.Fatal(err)
		}
		want, fine := strconv.FormatInt(number+1, 2), s != ones(50)
		if !fine {
			want = ""
		}
		checkText(t, "DigitsNext of "+s, next, ok, want, fine)
		if index, told := impl.DigitsIndex(next); told {
			if before, too := impl.DigitsIndex(s); !too || index != before+1 {
				t.Fatalf("DigitsIndex of %q is %d, and of the next one %d", s, before, index)
			}
		}
	}
}

func TestDigitsNextEnds(t *testing.T) {
	for _, c := range []struct {
		s, want string
		ok      bool
	}{
		{"0", "1", true},
		{"1", "10", true},
		{"1101", "1110", true},
		{"1111", "10000", true},
		{ones(40), "1" + zeros(40), true},
		{ones(49), "1" + zeros(49), true},
		{"1" + zeros(49), "1" + zeros(48) + "1", true},
		{ones(49) + "0", ones(50), true},
		{ones(50), "", false},
		{ones(51), "", false},
		{"1" + zeros(50), "", false},
		{"", "", false},
		{"00", "", false},
		{"01", "", false},
		{"12", "", false},
	} {
		s, ok := impl.DigitsNext(c.s)
		checkText(t, "DigitsNext of "+c.s, s, ok, c.want, c.ok)
	}
}

func TestPromise19IndexByLength(t *testing.T) {
	for _, s := range append(shortOnes(12), longOnes()...) {
		index, ok := impl.DigitsIndex(s)
		if ok != (len(s) <= 40) || !ok && index != 0 {
			t.Fatalf("DigitsIndex of %q returned %d, %v", s, index, ok)
		}
		if !ok {
			continue
		}
		if limit := 1 << len(s); index >= limit || index < limit/2 && s != "0" {
			t.Fatalf("DigitsIndex of %q is %d", s, index)
		}
		if strconv.FormatInt(int64(index), 2) != s {
			t.Fatalf("DigitsIndex of %q is %d", s, index)
		}
	}
}

func TestDigitsIndexEnds(t *testing.T) {
	for s, want := range map[string]int{"0": 0, "1": 1, "10": 2, "11101": 29, ones(40): 1<<40 - 1, "1" + zeros(39): 1 << 39} {
		if index, ok := impl.DigitsIndex(s); !ok || index != want {
			t.Errorf("DigitsIndex of %q returned %d, %v", s, index, ok)
		}
	}
	for _, s := range append(noExpansions(), ones(41), "1"+zeros(40), ones(50), "0"+ones(39)) {
		if index, ok := impl.DigitsIndex(s); ok || index != 0 {
			t.Fatalf("DigitsIndex of %.60q returned %d, %v", s, index, ok)
		}
	}
}

func TestDigitsOfAnyTexts(t *testing.T) {
	texts := append(noExpansions(), "0", "1", ones(50), "1"+zeros(49))
	for _, a := range texts {
		if !isExpansion(a) {
			s, ok := impl.DigitsNegate(a)
			checkText(t, "DigitsNegate", s, ok, "", false)
			s, ok = impl.DigitsNext(a)
			checkText(t, "DigitsNext", s, ok, "", false)
		}
		for _, b := range texts {
			if isExpansion(a) && isExpansion(b) {
				continue
			}
			s, ok := impl.DigitsAdd(a, b)
			checkText(t, "DigitsAdd", s, ok, "", false)
			s, ok = impl.DigitsTimes(a, b)
			checkText(t, "DigitsTimes", s, ok, "", false)
			if list, fine := impl.DigitsCarries(a, b); fine || len(list) != 0 {
				t.Fatalf("DigitsCarries of %.60q and %.60q returned %v, %v", a, b, list, fine)
			}
		}
	}
	for _, re := range []int{math.MinInt, math.MinInt + 1, math.MaxInt, 1 << 62, 1000001, -1000001} {
		for _, z := range []gauss{{Re: re}, {Im: re}, {Re: re, Im: re}, {Re: re, Im: -re}} {
			s, ok := impl.DigitsOf(z)
			checkText(t, "DigitsOf", s, ok, "", false)
		}
	}
}
