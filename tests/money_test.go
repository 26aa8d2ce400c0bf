package tests

import (
	"math"
	"math/big"
	"strconv"
	"strings"
	"testing"

	"loop.example/g00221/impl"
)

// refused: a code, and nothing beside it.
func refused(code int64) impl.MoneyOut {
	return impl.MoneyOut{Code: code}
}

// money: a number that was told.
func money(n int64) impl.MoneyOut {
	return impl.MoneyOut{N: n}
}

// edgeMoney: money at its bounds, about nought, and where a text grows.
func edgeMoney() []int64 {
	const max = impl.MaxMoney
	list := []int64{0, max, max - 1, max / 2, max/2 + 1, max / 3}
	for p := int64(1); p < max; p *= 10 {
		list = append(list, p-1, p, p+1, 5*p)
	}
	for _, n := range list {
		list = append(list, -n)
	}
	return list
}

// someMoney: money of all sizes by a fixed rule.
func someMoney(count int) []int64 {
	list := someNums(count)
	for i, n := range list {
		list[i] = n % (impl.MaxMoney + 1)
	}
	return list
}

// noMoney: numbers beyond the bounds, on both sides.
func noMoney() []int64 {
	const max = impl.MaxMoney
	return []int64{max + 1, -max - 1, 2 * max, -2 * max, math.MaxInt64, math.MinInt64}
}

// bounded: a number without bounds as MoneyAdd, MoneyTimes and MulDiv tell it.
func bounded(n *big.Int) impl.MoneyOut {
	if n.CmpAbs(big.NewInt(impl.MaxMoney)) > 0 {
		return refused(impl.ErrRange)
	}
	return money(n.Int64())
}

// nearestOf: a times b over c by numbers without bounds, to the nearest, halves to the even one.
func nearestOf(a int64, b int64, c int64) *big.Int {
	divisor := big.NewInt(c)
	rest := new(big.Int)
	product := new(big.Int).Mul(big.NewInt(a), big.NewInt(b))
	below, _ := new(big.Int).DivMod(product, divisor, rest)
	half := rest.Lsh(rest, 1).Cmp(divisor)
	if half > 0 || half == 0 && below.Bit(0) == 1 {
		below.Add(below, big.NewInt(1))
	}
	return below
}

func TestMoneyConstants(t *testing.T) {
	if impl.MaxFactor != 10000000000 || impl.MaxDivisor != 1000000000 || impl.RateUnit != 1000000 {
		t.Error("a bound is another one")
	}
}

func TestMoneyRight(t *testing.T) {
	for _, n := range append(edgeMoney(), someMoney(200)...) {
		if !impl.MoneyRight(n) {
			t.Errorf("%d is money", n)
		}
	}
	for _, n := range noMoney() {
		if impl.MoneyRight(n) {
			t.Errorf("%d is no money", n)
		}
	}
}

func TestMoneyAdd(t *testing.T) {
	const max = impl.MaxMoney
	cases := []struct {
		a, b int64
		want impl.MoneyOut
	}{
		{0, 0, money(0)},
		{2, 3, money(5)},
		{2, -3, money(-1)},
		{max - 1, 1, money(max)},
		{max, 0, money(max)},
		{max, 1, refused(impl.ErrRange)},
		{max, max, refused(impl.ErrRange)},
		{max, -max, money(0)},
		{1 - max, -1, money(-max)},
		{-max, 0, money(-max)},
		{-max, -1, refused(impl.ErrRange)},
		{-max, -max, refused(impl.ErrRange)},
		{max + 1, 0, refused(impl.ErrForm)},
		{0, max + 1, refused(impl.ErrForm)},
		{-max - 1, 0, refused(impl.ErrForm)},
		{0, -max - 1, refused(impl.ErrForm)},
		// The sum is money here, but a part is not.
		{max + 1, -1, refused(impl.ErrForm)},
		{1, -max - 1, refused(impl.ErrForm)},
		{math.MaxInt64, math.MaxInt64, refused(impl.ErrForm)},
		{math.MinInt64, math.MinInt64, refused(impl.ErrForm)},
		{math.MinInt64, math.MaxInt64, refused(impl.ErrForm)},
	}
	for _, c := range cases {
		if got := impl.MoneyAdd(c.a, c.b); got != c.want {
			t.Errorf("MoneyAdd(%d, %d) is %+v, not %+v", c.a, c.b, got, c.want)
		}
	}
}

// Promise 3, of sums.
func TestSumLessPart(t *testing.T) {
	list := append(edgeMoney(), someMoney(100)...)
	for _, a := range list {
		for _, b := range list {
			sum := impl.MoneyAdd(a, b)
			want := bounded(new(big.Int).Add(big.NewInt(a), big.NewInt(b)))
			if sum != want {
				t.Errorf("MoneyAdd(%d, %d) is %+v, not %+v", a, b, sum, want)
			}
			if sum.Code != impl.OK {
				continue
			}
			if impl.MoneyAdd(sum.N, -a) != money(b) || impl.MoneyAdd(sum.N, -b) != money(a) {
				t.Errorf("%d and %d do not come back from their sum", a, b)
			}
		}
	}
}

func TestMoneyTimes(t *testing.T) {
	const max = impl.MaxMoney
	cases := []struct {
		a, b int64
		want impl.MoneyOut
	}{
		{0, 0, money(0)},
		{3, 4, money(12)},
		{-3, 4, money(-12)},
		{3, -4, money(-12)},
		{-3, -4, money(12)},
		{max, 1, money(max)},
		{max, -1, money(-max)},
		{-max, -1, money(max)},
		{max, 0, money(0)},
		{max, 2, refused(impl.ErrRange)},
		{-max, 2, refused(impl.ErrRange)},
		{1, max, money(max)},
		{1, max + 1, refused(impl.ErrRange)},
		{1, -max, money(-max)},
		{1, -max - 1, refused(impl.ErrRange)},
		{-1, max + 1, refused(impl.ErrRange)},
		{1000000, 1000000, money(max)},
		{1000000, -1000000, money(-max)},
		// 1000000000001 is 73 times 13698630137.
		{73, 13698630137, refused(impl.ErrRange)},
		{-73, 13698630137, refused(impl.ErrRange)},
		{73, 13698630136, money(999999999928)},
		{0, math.MaxInt64, money(0)},
		{0, math.MinInt64, money(0)},
		{1, math.MaxInt64, refused(impl.ErrRange)},
		{1, math.MinInt64, refused(impl.ErrRange)},
		{-1, math.MaxInt64, refused(impl.ErrRange)},
		{-1, math.MinInt64, refused(impl.ErrRange)},
		// These products come to nought where they wrap round.
		{2, math.MinInt64, refused(impl.ErrRange)},
		{1 << 32, 1 << 32, refused(impl.ErrRange)},
		{max, math.MaxInt64, refused(impl.ErrRange)},
		{-max, math.MinInt64, refused(impl.ErrRange)},
		{max + 1, 0, refused(impl.ErrForm)},
		{-max - 1, 0, refused(impl.ErrForm)},
		{max + 1, math.MaxInt64, refused(impl.ErrForm)},
		{math.MinInt64, math.MinInt64, refused(impl.ErrForm)},
	}
	for _, c := range cases {
		if got := impl.MoneyTimes(c.a, c.b); got != c.want {
			t.Errorf("MoneyTimes(%d, %d) is %+v, not %+v", c.a, c.b, got, c.want)
		}
	}
	for _, a := range append(edgeMoney(), someMoney(60)...) {
		for _, b := range append(edgeNums(), someNums(60)...) {
			want := bounded(new(big.Int).Mul(big.NewInt(a), big.NewInt(b)))
			if got := impl.MoneyTimes(a, b); got != want {
				t.Errorf("MoneyTimes(%d, %d) is %+v, not %+v", a, b, got, want)
			}
		}
	}
}

func TestMulDiv(t *testing.T) {
	const max, factor, divisor = impl.MaxMoney, impl.MaxFactor, impl.MaxDivisor
	cases := []struct {
		a, b, c int64
		want    impl.MoneyOut
	}{
		{10, 3, 5, money(6)},
		{0, factor, 1, money(0)},
		{max, 0, 1, money(0)},
		{-max, 0, divisor, money(0)},
		// Halves on both sides of an even and of an odd number.
		{1, 1, 2, money(0)},
		{3, 1, 2, money(2)},
		{5, 1, 2, money(2)},
		{7, 1, 2, money(4)},
		{-1, 1, 2, money(0)},
		{-3, 1, 2, money(-2)},
		{-5, 1, 2, money(-2)},
		{-7, 1, 2, money(-4)},
		{1, divisor / 2, divisor, money(0)},
		{1, divisor/2 + 1, divisor, money(1)},
		{-1, divisor/2 + 1, divisor, money(-1)},
		{3, divisor/2 - 1, divisor, money(1)},
		{1, 1, 3, money(0)},
		{2, 1, 3, money(1)},
		{-2, 1, 3, money(-1)},
		// An odd divisor has no half.
		{4, 1, 9, money(0)},
		{5, 1, 9, money(1)},
		{max, 1, 1, money(max)},
		{-max, 1, 1, money(-max)},
		// Products beyond int64.
		{max, divisor, divisor, money(max)},
		{-max, divisor, divisor, money(-max)},
		{max / 10, factor, divisor, money(max)},
		{max/10 + 1, factor, divisor, refused(impl.ErrRange)},
		{-max/10 - 1, factor, divisor, refused(impl.ErrRange)},
		{max, factor, divisor, refused(impl.ErrRange)},
		{-max, factor, divisor, refused(impl.ErrRange)},
		{max, factor, 1, refused(impl.ErrRange)},
		{-max, factor, 1, refused(impl.ErrRange)},
		{max, factor, 542, refused(impl.ErrRange)},
		{max, factor, 543, refused(impl.ErrRange)},
		{max, 2, 1, refused(impl.ErrRange)},
		{max, divisor + 1, divisor, refused(impl.ErrRange)},
		{400000000001, 5, 2, refused(impl.ErrRange)},
		{-400000000001, 5, 2, refused(impl.ErrRange)},
		// One half more than the greatest money is it, to the even one; two halves more are not.
		{666666666667, 3, 2, money(max)},
		{-666666666667, 3, 2, money(-max)},
		{333333333334, 6, 2, refused(impl.ErrRange)},
		{-333333333334, 6, 2, refused(impl.ErrRange)},
		{285714285714, 7, 2, money(999999999999)},
		// Quotients that come to 2^64 by the rounding alone.
		{963169334010, 9997411739, 522, refused(impl.ErrRange)},
		{-944620108770, 9998445807, 512, refused(impl.ErrRange)},
		{max + 1, 1, 1, refused(impl.ErrForm)},
		{-max - 1, 1, 1, refused(impl.ErrForm)},
		{max + 1, 0, 1, refused(impl.ErrForm)},
		{math.MinInt64, 1, 1, refused(impl.ErrForm)},
		{math.MaxInt64, 1, 1, refused(impl.ErrForm)},
		{1, -1, 1, refused(impl.ErrForm)},
		{1, factor, 1, money(factor)},
		{1, factor + 1, 1, refused(impl.ErrForm)},
		{0, math.MaxInt64, 1, refused(impl.ErrForm)},
		{0, math.MinInt64, 1, refused(impl.ErrForm)},
		{1, 1, 0, refused(impl.ErrForm)},
		{1, 1, -1, refused(impl.ErrForm)},
		{1, 1, divisor, money(0)},
		{1, 1, divisor + 1, refused(impl.ErrForm)},
		{1, 1, math.MaxInt64, refused(impl.ErrForm)},
		{1, 1, math.MinInt64, refused(impl.ErrForm)},
		// Of two faults the form comes first.
		{max, factor, 0, refused(impl.ErrForm)},
		{max, factor + 1, 1, refused(impl.ErrForm)},
	}
	for _, c := range cases {
		if got := impl.MulDiv(c.a, c.b, c.c); got != c.want {
			t.Errorf("MulDiv(%d, %d, %d) is %+v, not %+v", c.a, c.b, c.c, got, c.want)
		}
	}
}

// factors: rising, of all sizes that MulDiv takes.
func factors() []int64 {
	list := []int64{0, 1, 2, 3, 5, 7, 30, 31, 360, 365, 366, 999, 1000}
	for p := int64(10000); p <= impl.MaxFactor; p *= 10 {
		list = append(list, p-1, p)
		if p < impl.MaxFactor {
			list = append(list, p+1, 3*p+1)
		}
	}
	return list
}

// divisors: of all sizes that MulDiv takes.
func divisors() []int64 {
	list := []int64{1, 2, 3, 4, 5, 6, 12, 360, 365, 541, 542, 543, 544, 36500}
	for p := int64(100000); p <= impl.MaxDivisor; p *= 10 {
		list = append(list, p-1, p)
	}
	return list
}

// Promise 4: nearest, the other sign of the other sign, and no less for a greater factor.
func TestMulDivNearest(t *testing.T) {
	for _, a := range append(edgeMoney(), someMoney(100)...) {
		for _, c := range divisors() {
			last := int64(0)
			for _, b := range factors() {
				got, want := impl.MulDiv(a, b, c), bounded(nearestOf(a, b, c))
				if got != want {
					t.Fatalf("MulDiv(%d, %d, %d) is %+v, not %+v", a, b, c, got, want)
				}
				if other := impl.MulDiv(-a, b, c); other.N != -got.N || other.Code != got.Code {
					t.Fatalf("MulDiv(%d, %d, %d) is %+v, of the other sign %+v", a, b, c, got, other)
				}
				if got.Code != impl.OK || a < 0 {
					continue
				}
				if got.N < last {
					t.Fatalf("MulDiv(%d, %d, %d) is %d, of a lesser factor %d", a, b, c, got.N, last)
				}
				last = got.N
			}
		}
	}
}

// Promise 4 where halves are many: small numbers, and all bounds of money about a half.
func TestMulDivHalves(t *testing.T) {
	for a := int64(-40); a <= 40; a++ {
		for b := int64(0); b <= 40; b++ {
			for c := int64(1); c <= 20; c++ {
				if got, want := impl.MulDiv(a, b, c), bounded(nearestOf(a, b, c)); got != want {
					t.Fatalf("MulDiv(%d, %d, %d) is %+v, not %+v", a, b, c, got, want)
				}
			}
		}
	}
	const max = impl.MaxMoney
	for c := int64(1); c <= 200; c++ {
		for b := c + 1; b <= c+300; b++ {
			for _, a := range []int64{max * c / b, max*c/b + 1, max*c/b + 2} {
				if got, want := impl.MulDiv(a, b, c), bounded(nearestOf(a, b, c)); got != want {
					t.Fatalf("MulDiv(%d, %d, %d) is %+v, not %+v", a, b, c, got, want)
				}
			}
		}
	}
}

func TestMoneyText(t *testing.T) {
	cases := []struct {
		n    int64
		want string
	}{
		{0, "0.00"},
		{1, "0.01"},
		{-1, "-0.01"},
		{10, "0.10"},
		{-10, "-0.10"},
		{99, "0.99"},
		{-99, "-0.99"},
		{100, "1.00"},
		{-100, "-1.00"},
		{101, "1.01"},
		{1234, "12.34"},
		{-1234, "-12.34"},
		{100000, "1000.00"},
		{impl.MaxMoney, "10000000000.00"},
		{-impl.MaxMoney, "-10000000000.00"},
		{impl.MaxMoney - 1, "9999999999.99"},
	}
	for _, c := range cases {
		if got := impl.MoneyText(c.n); got != c.want {
			t.Errorf("MoneyText(%d) is %q, not %q", c.n, got, c.want)
		}
	}
	for _, n := range noMoney() {
		if got := impl.MoneyText(n); got != "" {
			t.Errorf("MoneyText(%d) is %q", n, got)
		}
	}
}

func TestRateText(t *testing.T) {
	cases := []struct {
		n    int64
		want string
	}{
		{0, "0.0000%"},
		{1, "0.0001%"},
		{10, "0.0010%"},
		{9999, "0.9999%"},
		{10000, "1.0000%"},
		{10001, "1.0001%"},
		{52500, "5.2500%"},
		{100000, "10.0000%"},
		{999999, "99.9999%"},
		{impl.RateUnit, "100.0000%"},
	}
	for _, c := range cases {
		if got := impl.RateText(c.n); got != c.want {
			t.Errorf("RateText(%d) is %q, not %q", c.n, got, c.want)
		}
	}
	for _, n := range []int64{-1, impl.RateUnit + 1, -impl.RateUnit, math.MaxInt64, math.MinInt64} {
		if got := impl.RateText(n); got != "" {
			t.Errorf("RateText(%d) is %q", n, got)
		}
	}
}

// Promise 3, of the texts of money.
func TestMoneyComesBack(t *testing.T) {
	list := append(edgeMoney(), someMoney(2000)...)
	for n := int64(-1200); n <= 1200; n++ {
		list = append(list, n)
	}
	for _, n := range list {
		if got := impl.MoneyRead(impl.MoneyText(n)); got != money(n) {
			t.Errorf("%d comes back as %+v", n, got)
		}
	}
}

// Promise 3, of the texts of rates: of all of them.
func TestRatesComeBack(t *testing.T) {
	for n := int64(0); n <= impl.RateUnit; n++ {
		if got := impl.RateRead(impl.RateText(n)); got != money(n) {
			t.Fatalf("%d comes back as %+v", n, got)
		}
	}
}

func TestMoneyRead(t *testing.T) {
	long := strings.Repeat("1", impl.MaxBytes)
	wrong := []string{
		"", "-", ".", "0", "5", "12", "12.", "12.3", "12.345", ".34", "-.34", ".", "-.", "..", "1.2.34",
		"012.34", "-012.34", "00.34", "00.00", "000", "0.0", "0.000", "-0.00", "-0", "--1.00", "1.00-",
		"+1.00", "+0.00", " 1.00", "1.00 ", "1 .00", "1. 00", "\t1.00", "1.00\n", "1.00\x00", "1,00",
		"1.0a", "a.00", "0x1.00", "1e2.00", "1_0.00", "1.-1", "1-.00", "1.00%", "1.0000%", "1:00",
		"12\xff.34", "\xff12.34", "1\u0662.00", "\uff11.00", "10000000000.01", "-10000000000.01",
		"10000000001.00", "-10000000001.00", "100000000000.00", "010000000000.00",
		"92233720368547758.07", "92233720368547758.08", "-92233720368547758.08",
		// Of these the digits come to money, where they wrap round.
		"184467440737095516.16", "184467440737095516.17", "-184467440737095517.00",
		long, long[3:] + ".11", strings.Repeat("0", impl.MaxBytes-3) + ".00",
		strings.Repeat(" ", impl.MaxBytes), strings.Repeat("-", impl.MaxBytes),
	}
	for _, text := range wrong {
		if got := impl.MoneyRead(text); got != refused(impl.ErrSyntax) {
			t.Errorf("MoneyRead(%.40q) is %+v", text, got)
		}
	}
	for _, text := range []string{long + "1", long + ".00", "1.00" + strings.Repeat(" ", impl.MaxBytes)} {
		if got := impl.MoneyRead(text); got != refused(impl.ErrSize) {
			t.Errorf("MoneyRead of %d bytes is %+v", len(text), got)
		}
	}
}

func TestRateRead(t *testing.T) {
	long := strings.Repeat("1", impl.MaxBytes)
	wrong := []string{
		"", "%", ".", ".%", "5", "5%", "5.%", "5.2500", "5.25%", "5.250%", "5.25000%", ".2500%", "-.2500%",
		"05.2500%", "00.0000%", "-0.0000%", "-5.2500%", "+5.2500%", " 5.2500%", "5.2500% ", "5.2500 %",
		"5.2500%%", "%5.2500", "5,2500%", "5.25a0%", "5.2500\xff", "\xff5.2500%", "52500", "5.2500%\n",
		"100.0001%", "100.0010%", "101.0000%", "1000.0000%", "0100.0000%", "10000000000.0000%",
		"1844674407370955.1616%", "5.25\u06600%",
		long, long[6:] + ".1111%", strings.Repeat("0", impl.MaxBytes-6) + ".0000%",
	}
	for _, text := range wrong {
		if got := impl.RateRead(text); got != refused(impl.ErrSyntax) {
			t.Errorf("RateRead(%.40q) is %+v", text, got)
		}
	}
	for _, text := range []string{long + "1", long + ".0000%", "5.2500%" + strings.Repeat(" ", impl.MaxBytes)} {
		if got := impl.RateRead(text); got != refused(impl.ErrSize) {
			t.Errorf("RateRead of %d bytes is %+v", len(text), got)
		}
	}
}

// Of all short texts of these letters just the texts of money, and of rates, are read.
func TestReadNothingElse(t *testing.T) {
	const letters = "01.-%+ "
	texts := []string{""}
	for begin := 0; len(texts[begin]) < 6; begin++ {
		for i := range len(letters) {
			texts = append(texts, texts[begin]+letters[i:i+1])
		}
	}
	for _, text := range texts {
		want := refused(impl.ErrSyntax)
		digits := strings.Replace(text, ".", "", 1)
		if n, err := strconv.ParseInt(digits, 10, 64); err == nil && impl.MoneyText(n) == text {
			want = money(n)
		}
		if got := impl.MoneyRead(text); got != want {
			t.Errorf("MoneyRead(%q) is %+v, not %+v", text, got, want)
		}
		if got := impl.RateRead(text + "0%"); got.Code == impl.OK && impl.RateText(got.N) != text+"0%" {
			t.Errorf("RateRead(%q) is %+v", text+"0%", got)
		}
	}
}
