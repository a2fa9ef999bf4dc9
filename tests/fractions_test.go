package tests

import (
	"fmt"
	"math"
	"math/big"
	"strings"
	"testing"

	"loop.example/configformatter/impl"
)

func fraction(top int, bottom int) impl.Fraction {
	return impl.Fraction{Top: top, Bottom: bottom}
}

func negative(f impl.Fraction) impl.Fraction {
	return fraction(-f.Top, f.Bottom)
}

// smallFractions returns all valid fractions of small numbers.
func smallFractions() []impl.Fraction {
	var list []impl.Fraction
	for bottom := 1; bottom <= 8; bottom++ {
		for top := -9; top <= 9; top++ {
			if rational := big.NewRat(int64(top), int64(bottom)); rational.Denom().Int64() == int64(bottom) {
				list = append(list, fraction(top, bottom))
			}
		}
	}
	return list
}

// edgeFractions returns valid fractions at and near the limits, with bottoms that divide MaxBottom and others.
func edgeFractions() []impl.Fraction {
	list := []impl.Fraction{fraction(0, 1)}
	for _, f := range []impl.Fraction{
		fraction(1, 1),
		fraction(impl.MaxTop, 1),
		fraction(impl.MaxTop-1, 1),
		fraction(impl.MaxTop/2, 1),
		fraction(impl.MaxTop/2+1, 1),
		fraction(impl.MaxTop-1, 2),
		fraction(impl.MaxTop, 3),
		fraction(impl.MaxTop, 7),
		fraction(impl.MaxTop, impl.MaxBottom-1),
		fraction(impl.MaxTop-1, impl.MaxBottom),
		fraction(31623, 1),
		fraction(32000, 1),
		fraction(31250, 1),
		fraction(1, 2),
		fraction(1, 64),
		fraction(1, 128),
		fraction(1, 999),
		fraction(1, 1000),
		fraction(1, 1001),
		fraction(1, 15625),
		fraction(1, 78125),
		fraction(3, impl.MaxBottom),
		fraction(1, impl.MaxBottom),
		fraction(1, impl.MaxBottom-1),
		fraction(1, impl.MaxBottom/2),
		fraction(1, impl.MaxBottom/2+1),
		fraction(impl.MaxBottom-1, impl.MaxBottom),
		fraction(impl.MaxBottom+1, impl.MaxBottom),
		fraction(impl.MaxBottom, impl.MaxBottom-1),
	} {
		list = append(list, f, negative(f))
	}
	return list
}

func validFractions() []impl.Fraction {
	return append(smallFractions(), edgeFractions()...)
}

// invalidFractions returns fractions beyond the limits, up to the least and the greatest int, and some with common factors.
func invalidFractions() []impl.Fraction {
	list := []impl.Fraction{
		{},
		fraction(0, 2), fraction(0, impl.MaxBottom), fraction(2, 2), fraction(2, 4), fraction(-2, 4), fraction(6, 9), fraction(-15, 25),
		fraction(impl.MaxTop, 2), fraction(-impl.MaxTop, 5), fraction(impl.MaxTop, impl.MaxBottom), fraction(2, impl.MaxBottom),
	}
	bottoms := []int{0, -1, -2, -impl.MaxBottom, impl.MaxBottom + 1, impl.MaxBottom + 3, math.MinInt, math.MinInt + 1, math.MaxInt}
	for _, bottom := range bottoms {
		for _, top := range []int{0, 1, -1, 7, impl.MaxTop, -impl.MaxTop} {
			list = append(list, fraction(top, bottom))
		}
	}
	tops := []int{impl.MaxTop + 1, -impl.MaxTop - 1, math.MinInt, math.MinInt + 1, math.MaxInt}
	for _, top := range tops {
		for _, bottom := range append(bottoms, 1, 2, 3, impl.MaxBottom) {
			list = append(list, fraction(top, bottom))
		}
	}
	return list
}

// ratOf returns a valid fraction as a number of another kind, which has no limits.
func ratOf(f impl.Fraction) *big.Rat {
	return big.NewRat(int64(f.Top), int64(f.Bottom))
}

// fractionOf returns a number as a fraction, and whether it is in the limits.
func fractionOf(r *big.Rat) (impl.Fraction, bool) {
	if r.Num().CmpAbs(big.NewInt(impl.MaxTop)) > 0 || r.Denom().CmpAbs(big.NewInt(impl.MaxBottom)) > 0 {
		return impl.Fraction{}, false
	}
	return fraction(int(r.Num().Int64()), int(r.Denom().Int64())), true
}

func checkResult(t *testing.T, what string, got impl.Fraction, ok bool, want *big.Rat) {
	t.Helper()
	if f, valid := fractionOf(want); got != f || ok != valid {
		t.Errorf("%s is %v, %v, not %v, %v", what, got, ok, f, valid)
	}
}

func TestFractionLimits(t *testing.T) {
	if impl.MaxTop != 1000000000 || impl.MaxBottom != 1000000 {
		t.Fatal(impl.MaxTop, impl.MaxBottom)
	}
}

func TestFractionValid(t *testing.T) {
	for bottom := -3; bottom <= 30; bottom++ {
		for top := -30; top <= 30; top++ {
			want := bottom > 0 && big.NewRat(int64(top), int64(max(bottom, 1))).Denom().Int64() == int64(bottom)
			if got := impl.FractionValid(fraction(top, bottom)); got != want {
				t.Errorf("FractionValid(%d, %d) is %v", top, bottom, got)
			}
		}
	}
	for _, f := range validFractions() {
		if !impl.FractionValid(f) {
			t.Errorf("FractionValid(%v) is false", f)
		}
	}
	for _, f := range invalidFractions() {
		if impl.FractionValid(f) {
			t.Errorf("FractionValid(%v) is true", f)
		}
	}
}

// Promise 17: fractions have no common factors.
func TestFractionsHaveNoCommonFactors(t *testing.T) {
	for _, f := range validFractions() {
		for _, factor := range []int{2, 3, 5, 7, impl.MaxBottom, -1, 0} {
			g := fraction(f.Top*factor, f.Bottom*factor)
			if !impl.FractionValid(f) || impl.FractionValid(g) {
				t.Errorf("FractionValid(%v) is %v, FractionValid(%v) is %v", f, impl.FractionValid(f), g, impl.FractionValid(g))
			}
		}
	}
}

// Promise 18: sums are sums.
func TestSumsAreSums(t *testing.T) {
	list := validFractions()
	for _, a := range list {
		if f, ok := impl.AddFractions(a, fraction(0, 1)); f != a || !ok {
			t.Errorf("%v with 0 is %v, %v", a, f, ok)
		}
		for _, b := range list {
			f, ok := impl.AddFractions(a, b)
			checkResult(t, fmt.Sprint("the sum of ", a, b), f, ok, new(big.Rat).Add(ratOf(a), ratOf(b)))
			if g, other := impl.AddFractions(b, a); f != g || ok != other {
				t.Errorf("the sum of %v and %v is %v, %v, and the other way %v, %v", a, b, f, ok, g, other)
			}
			if g, back := impl.AddFractions(f, negative(b)); ok && (g != a || !back) {
				t.Errorf("%v less %v is %v, %v, not %v", f, b, g, back, a)
			}
		}
	}
}

func TestSumsAtTheLimits(t *testing.T) {
	cases := []struct {
		a, b, sum impl.Fraction
		ok        bool
	}{
		{fraction(impl.MaxTop-1, 1), fraction(1, 1), fraction(impl.MaxTop, 1), true},
		{fraction(impl.MaxTop, 1), fraction(1, 1), impl.Fraction{}, false},
		{fraction(1-impl.MaxTop, 1), fraction(-1, 1), fraction(-impl.MaxTop, 1), true},
		{fraction(-impl.MaxTop, 1), fraction(-1, 1), impl.Fraction{}, false},
		{fraction(impl.MaxTop, 1), fraction(-impl.MaxTop, 1), fraction(0, 1), true},
		{fraction(impl.MaxTop, 1), fraction(-1, 2), impl.Fraction{}, false},
		{fraction(1, 1000), fraction(1, 999), fraction(1999, 999000), true},
		{fraction(1, 1000), fraction(1, 1001), impl.Fraction{}, false},
		{fraction(1, impl.MaxBottom), fraction(1, 2), fraction(500001, impl.MaxBottom), true},
		{fraction(1, impl.MaxBottom), fraction(1, 3), impl.Fraction{}, false},
		{fraction(1, impl.MaxBottom), fraction(-1, impl.MaxBottom), fraction(0, 1), true},
		{fraction(impl.MaxTop, impl.MaxBottom-1), fraction(impl.MaxTop, impl.MaxBottom-1), impl.Fraction{}, false},
	}
	for _, c := range cases {
		if f, ok := impl.AddFractions(c.a, c.b); f != c.sum || ok != c.ok {
			t.Errorf("the sum of %v and %v is %v, %v", c.a, c.b, f, ok)
		}
	}
}

// Promise 19: products are products.
func TestProductsAreProducts(t *testing.T) {
	list := validFractions()
	for _, a := range list {
		if f, ok := impl.MulFractions(a, fraction(1, 1)); f != a || !ok {
			t.Errorf("%v times 1 is %v, %v", a, f, ok)
		}
		for _, b := range list {
			f, ok := impl.MulFractions(a, b)
			checkResult(t, fmt.Sprint("the product of ", a, b), f, ok, new(big.Rat).Mul(ratOf(a), ratOf(b)))
			if g, other := impl.MulFractions(b, a); f != g || ok != other {
				t.Errorf("the product of %v and %v is %v, %v, and the other way %v, %v", a, b, f, ok, g, other)
			}
			if g, back := impl.DivFractions(f, b); ok && b.Top != 0 && (g != a || !back) {
				t.Errorf("%v by %v is %v, %v, not %v", f, b, g, back, a)
			}
		}
	}
}

func TestProductsAtTheLimits(t *testing.T) {
	cases := []struct {
		a, b, product impl.Fraction
		ok            bool
	}{
		{fraction(31250, 1), fraction(32000, 1), fraction(impl.MaxTop, 1), true},
		{fraction(31250, 1), fraction(-32000, 1), fraction(-impl.MaxTop, 1), true},
		{fraction(31623, 1), fraction(31623, 1), impl.Fraction{}, false},
		{fraction(31623, 1), fraction(-31623, 1), impl.Fraction{}, false},
		{fraction(impl.MaxTop, 1), fraction(-1, 1), fraction(-impl.MaxTop, 1), true},
		{fraction(impl.MaxTop, 1), fraction(2, 1), impl.Fraction{}, false},
		{fraction(impl.MaxTop, 1), fraction(impl.MaxTop, 1), impl.Fraction{}, false},
		{fraction(1, 1000), fraction(1, 1000), fraction(1, impl.MaxBottom), true},
		{fraction(1, 1000), fraction(1, 1001), impl.Fraction{}, false},
		{fraction(1, impl.MaxBottom), fraction(1, 2), impl.Fraction{}, false},
		{fraction(1, impl.MaxBottom), fraction(impl.MaxTop, 1), fraction(1000, 1), true},
		{fraction(1, impl.MaxBottom), fraction(0, 1), fraction(0, 1), true},
	}
	for _, c := range cases {
		if f, ok := impl.MulFractions(c.a, c.b); f != c.product || ok != c.ok {
			t.Errorf("the product of %v and %v is %v, %v", c.a, c.b, f, ok)
		}
	}
}

// Promise 20: quotients are quotients.
func TestQuotientsAreQuotients(t *testing.T) {
	list := validFractions()
	for _, a := range list {
		if f, ok := impl.DivFractions(a, fraction(0, 1)); f != (impl.Fraction{}) || ok {
			t.Errorf("%v by 0 is %v, %v", a, f, ok)
		}
		for _, b := range list {
			if b.Top == 0 {
				continue
			}
			f, ok := impl.DivFractions(a, b)
			checkResult(t, fmt.Sprint("the quotient of ", a, b), f, ok, new(big.Rat).Quo(ratOf(a), ratOf(b)))
			if g, back := impl.MulFractions(f, b); ok && (g != a || !back) {
				t.Errorf("%v times %v is %v, %v, not %v", f, b, g, back, a)
			}
		}
	}
}

func TestQuotientsAtTheLimits(t *testing.T) {
	cases := []struct {
		a, b, quotient impl.Fraction
		ok             bool
	}{
		{fraction(1, 1), fraction(-impl.MaxBottom, 1), fraction(-1, impl.MaxBottom), true},
		{fraction(1, 1), fraction(impl.MaxBottom+1, 1), impl.Fraction{}, false},
		{fraction(1, 1), fraction(-1, impl.MaxBottom), fraction(-impl.MaxBottom, 1), true},
		{fraction(1000, 1), fraction(1, impl.MaxBottom), fraction(impl.MaxTop, 1), true},
		{fraction(1001, 1), fraction(1, impl.MaxBottom), impl.Fraction{}, false},
		{fraction(-1001, 1), fraction(1, impl.MaxBottom), impl.Fraction{}, false},
		{fraction(impl.MaxTop, 1), fraction(-impl.MaxTop, 1), fraction(-1, 1), true},
		{fraction(-impl.MaxTop, 1), fraction(-impl.MaxTop, 1), fraction(1, 1), true},
		{fraction(0, 1), fraction(-impl.MaxTop, 1), fraction(0, 1), true},
		{fraction(0, 1), fraction(0, 1), impl.Fraction{}, false},
	}
	for _, c := range cases {
		if f, ok := impl.DivFractions(c.a, c.b); f != c.quotient || ok != c.ok {
			t.Errorf("the quotient of %v and %v is %v, %v", c.a, c.b, f, ok)
		}
	}
}

// Promise 21: comparisons turn around.
func TestComparisonsTurnAround(t *testing.T) {
	list := validFractions()
	for _, a := range list {
		for _, b := range list {
			got := impl.CompareFractions(a, b)
			if want := ratOf(a).Cmp(ratOf(b)); got != want {
				t.Errorf("CompareFractions(%v, %v) is %d, not %d", a, b, got, want)
			}
			if back := impl.CompareFractions(b, a); back != -got {
				t.Errorf("CompareFractions(%v, %v) is %d, and the other way %d", a, b, got, back)
			}
			if (got == 0) != (a == b) {
				t.Errorf("CompareFractions(%v, %v) is %d", a, b, got)
			}
		}
	}
}

func TestInvalidFractionsAreRefused(t *testing.T) {
	operations := []func(impl.Fraction, impl.Fraction) (impl.Fraction, bool){impl.AddFractions, impl.MulFractions, impl.DivFractions}
	refuse := func(a impl.Fraction, b impl.Fraction) {
		t.Helper()
		for k, operation := range operations {
			if f, ok := operation(a, b); f != (impl.Fraction{}) || ok {
				t.Errorf("operation %d of %v and %v is %v, %v", k, a, b, f, ok)
			}
		}
		if got := impl.CompareFractions(a, b); got != 2 {
			t.Errorf("CompareFractions(%v, %v) is %d", a, b, got)
		}
	}
	for _, f := range invalidFractions() {
		if s := impl.FractionText(f); s != "" {
			t.Errorf("FractionText(%v) is %q", f, s)
		}
		for _, g := range validFractions() {
			refuse(f, g)
			refuse(g, f)
		}
		for _, g := range invalidFractions() {
			refuse(f, g)
		}
	}
}

func TestFractionText(t *testing.T) {
	cases := []struct {
		f    impl.Fraction
		text string
	}{
		{fraction(0, 1), "0"},
		{fraction(7, 1), "7"},
		{fraction(-7, 1), "-7"},
		{fraction(impl.MaxTop, 1), "1000000000"},
		{fraction(-impl.MaxTop, 1), "-1000000000"},
		{fraction(1, 2), "0.5"},
		{fraction(-1, 2), "-0.5"},
		{fraction(-3, 2), "-1.5"},
		{fraction(21, 20), "1.05"},
		{fraction(1, 64), "0.015625"},
		{fraction(1, 128), "1/128"},
		{fraction(1, 15625), "0.000064"},
		{fraction(1, 78125), "1/78125"},
		{fraction(1, impl.MaxBottom), "0.000001"},
		{fraction(-1, impl.MaxBottom), "-0.000001"},
		{fraction(impl.MaxBottom+1, impl.MaxBottom), "1.000001"},
		{fraction(999999999, impl.MaxBottom), "999.999999"},
		{fraction(999999999, 2), "499999999.5"},
		{fraction(1, 3), "1/3"},
		{fraction(-7, 3), "-7/3"},
		{fraction(1, impl.MaxBottom-1), "1/999999"},
		{fraction(-impl.MaxTop, impl.MaxBottom-1), "-1000000000/999999"},
	}
	for _, c := range cases {
		if got := impl.FractionText(c.f); got != c.text {
			t.Errorf("FractionText(%v) is %q, not %q", c.f, got, c.text)
		}
	}
}

// textOf writes a fraction as FractionText does, by another way.
func textOf(f impl.Fraction) string {
	r := ratOf(f)
	digits, exact := r.FloatPrec()
	if !exact || impl.MaxBottom%f.Bottom != 0 {
		return r.String()
	}
	return r.FloatString(digits)
}

// Promise 22: texts of fractions can be read.
func TestTextsOfFractionsCanBeRead(t *testing.T) {
	list := validFractions()
	for bottom := 1; bottom <= impl.MaxBottom; bottom += 1 + bottom/50 {
		for _, top := range []int{1, 3, 7, bottom - 1, bottom + 1, impl.MaxTop - 1, impl.MaxTop} {
			if f := fraction(top, bottom); impl.FractionValid(f) {
				list = append(list, f, negative(f))
			}
		}
	}
	for bottom := 1; bottom <= impl.MaxBottom; bottom++ {
		if impl.MaxBottom%bottom == 0 {
			list = append(list, fraction(bottom+1, bottom), fraction(-bottom*3-1, bottom))
		}
	}
	for _, f := range list {
		s := impl.FractionText(f)
		if s == "" || impl.FractionValid(f) && s != textOf(f) {
			t.Errorf("FractionText(%v) is %q, not %q", f, s, textOf(f))
		}
		if g, ok := impl.ReadFraction(s); g != f || !ok {
			t.Errorf("ReadFraction(%q) is %v, %v, not %v", s, g, ok, f)
		}
	}
}

func TestDecimalOf(t *testing.T) {
	cases := []struct {
		text string
		f    impl.Fraction
	}{
		{"0", fraction(0, 1)},
		{"7", fraction(7, 1)},
		{"0000000000", fraction(0, 1)},
		{"0000000007", fraction(7, 1)},
		{"0.0", fraction(0, 1)},
		{"0000000000.000000", fraction(0, 1)},
		{"1000000000", fraction(impl.MaxTop, 1)},
		{"1000000000.000000", fraction(impl.MaxTop, 1)},
		{"0999999999.0", fraction(999999999, 1)},
		{"01.50", fraction(3, 2)},
		{"1.5", fraction(3, 2)},
		{"0.500000", fraction(1, 2)},
		{"0.000001", fraction(1, impl.MaxBottom)},
		{"0.000010", fraction(1, 100000)},
		{"999.999999", fraction(999999999, impl.MaxBottom)},
		{"1000.000000", fraction(1000, 1)},
		{"1000.000064", fraction(15625001, 15625)},
		{"499999999.5", fraction(999999999, 2)},
		{"250000000.00", fraction(250000000, 1)},
	}
	for _, c := range cases {
		if f, ok := impl.DecimalOf(c.text); f != c.f || !ok {
			t.Errorf("DecimalOf(%q) is %v, %v, not %v", c.text, f, ok, c.f)
		}
	}
}

// decimals returns texts of all shapes that DecimalOf reads, whether or not their fractions are valid.
func decimals() []string {
	wholes := []string{"0", "1", "9", "00", "07", "10", "31623", "500000000", "999999999", "1000000000", "1000000001", "9999999999", "0000000000", "0000000500"}
	rests := []string{"", ".0", ".5", ".9", ".25", ".125", ".0001", ".00032", ".000001", ".000064", ".500000", ".999999", ".000000"}
	var list []string
	for _, whole := range wholes {
		for _, rest := range rests {
			list = append(list, whole+rest)
		}
	}
	return list
}

// Promise 23: decimal numbers are fractions.
func TestDecimalNumbersAreFractions(t *testing.T) {
	for _, s := range decimals() {
		f, ok := impl.DecimalOf(s)
		want, _ := new(big.Rat).SetString(s)
		checkResult(t, "DecimalOf "+s, f, ok, want)
		if ok && (!impl.FractionValid(f) || f.Top < 0) {
			t.Errorf("DecimalOf(%q) is %v", s, f)
		}
		whole, _, _ := strings.Cut(s, ".")
		g, more := impl.DecimalOf("0" + s)
		if len(whole) < 10 && (f != g || ok != more) {
			t.Errorf("DecimalOf(%q) is %v, %v, with a zero before %v, %v", s, f, ok, g, more)
		}
		if len(whole) == 10 && (g != (impl.Fraction{}) || more) {
			t.Errorf("DecimalOf(%q) is %v, %v", "0"+s, g, more)
		}
	}
}

func TestDecimalOfRefuses(t *testing.T) {
	list := []string{
		"", ".", "1.", ".5", "1..5", "1.2.3", "1.5.", ".1.5", "-1", "+1", "-0", "1-", "1/2", "1e5", "0x1", "1_0", "1,5",
		" 1", "1 ", "1 .5", "1. 5", "1.5 ", "1\n", "a", "1a", "1.a", "1:", "/1", "1.:", "1./", "\x00", "1\xc2\xb2",
		"00000000000", "00000000001", "12345678901", "00000000000.5", "1.0000000", "0.0000001", "0.1234567",
		"1000000001", "9999999999", "1000000000.5", "1000000000.000001", "500000000.5", "1000.000001",
		strings.Repeat("0", impl.MaxText), "0." + strings.Repeat("0", impl.MaxText),
	}
	for _, s := range list {
		if f, ok := impl.DecimalOf(s); f != (impl.Fraction{}) || ok {
			t.Errorf("DecimalOf(%.20q) is %v, %v", s, f, ok)
		}
	}
}

// Promise 24: accepted texts are canonical.
func TestAcceptedFractionsAreCanonical(t *testing.T) {
	list := append(textsUpTo(5, "-012/."), decimals()...)
	for _, f := range validFractions() {
		s := impl.FractionText(f)
		list = append(list, s, "-"+s, "0"+s, s+"0", s+".0", s+"/1")
	}
	accepted := 0
	for _, s := range list {
		f, ok := impl.ReadFraction(s)
		if !ok && f != (impl.Fraction{}) {
			t.Errorf("ReadFraction(%q) is %v, %v", s, f, ok)
		}
		if ok && (!impl.FractionValid(f) || impl.FractionText(f) != s) {
			t.Errorf("ReadFraction(%q) is %v, whose text is %q", s, f, impl.FractionText(f))
		}
		if ok {
			accepted++
		}
		for _, spaced := range []string{s + " ", " " + s, s + "\n"} {
			if f, ok := impl.ReadFraction(spaced); f != (impl.Fraction{}) || ok {
				t.Errorf("ReadFraction(%q) is %v, %v", spaced, f, ok)
			}
		}
	}
	if accepted < len(validFractions()) {
		t.Errorf("ReadFraction accepts %d texts", accepted)
	}
}

func TestReadFractionRefuses(t *testing.T) {
	list := []string{
		"", "-", "--1", "-0", "00", "01", "-01", "+1", "1.", ".5", "-.5", "1.50", "1.0", "0.0", "-0.0", "00.5", "1.2.3", "0.0000001",
		"2/6", "3/4", "4/2", "1/1", "0/1", "0/3", "-0/3", "1/0", "0/0", "-1/0", "/", "1/", "/3", "1/-3", "-1/-3", "01/3", "1/03", "1/3/1", "1//3", "1.5/3", "1/3.0",
		"1000000001", "-1000000001", "1000000000.5", "1000000001/3", "1/1000001", "1/1000003", "1/10000000", "10000000001/3", "00000000001/3",
		"1 /3", "1/ 3", "- 1", " 1", "1 ", "a", "1/a", "0x1", "1e1", "\x001", "\xb2",
		strings.Repeat("0", impl.MaxText), strings.Repeat("-", impl.MaxText), "1/" + strings.Repeat("3", impl.MaxText),
	}
	for _, s := range list {
		if f, ok := impl.ReadFraction(s); f != (impl.Fraction{}) || ok {
			t.Errorf("ReadFraction(%.20q) is %v, %v", s, f, ok)
		}
	}
}

// Promise 87: sums keep orders.
func TestSumsKeepOrders(t *testing.T) {
	list := validFractions()
	for _, c := range list {
		for _, a := range list {
			sum, ok := impl.AddFractions(a, c)
			if !ok {
				continue
			}
			for _, b := range list {
				other, ok := impl.AddFractions(b, c)
				if got, want := impl.CompareFractions(sum, other), impl.CompareFractions(a, b); ok && got != want {
					t.Errorf("%v and %v compare as %d, with %v added as %d", a, b, want, c, got)
				}
			}
		}
	}
}

// checkShare looks at a fraction times a sum, if all that is in it is valid.
func checkShare(t *testing.T, a impl.Fraction, b impl.Fraction, c impl.Fraction) bool {
	t.Helper()
	sum, sumOK := impl.AddFractions(b, c)
	first, firstOK := impl.MulFractions(a, b)
	second, secondOK := impl.MulFractions(a, c)
	product, productOK := impl.MulFractions(a, sum)
	shared, sharedOK := impl.AddFractions(first, second)
	if !sumOK || !firstOK || !secondOK {
		return false
	}
	if product != shared || productOK != sharedOK {
		t.Errorf("%v times the sum of %v and %v is %v, %v, the sum of both products %v, %v", a, b, c, product, productOK, shared, sharedOK)
	}
	return productOK
}

// Promise 88: products share sums.
func TestProductsShareSums(t *testing.T) {
	shared := 0
	list := validFractions()
	for _, a := range list {
		for _, b := range list {
			for _, c := range list {
				if checkShare(t, a, b, c) {
					shared++
				}
			}
		}
	}
	if shared < len(list)*len(list) {
		t.Errorf("only %d products were looked at", shared)
	}
}
