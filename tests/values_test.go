package tests

import (
	"math"
	"math/big"
	"slices"
	"strings"
	"testing"

	"loop.example/g00221/impl"
)

// numOf: 1, where it holds.
func numOf(holds bool) int64 {
	return map[bool]int64{true: 1}[holds]
}

// opValueOf: what OpValue tells of an operator and two numbers, by numbers without bounds.
func opValueOf(text string, a int64, b int64) impl.MoneyOut {
	left, right := big.NewInt(a), big.NewInt(b)
	if bounded(left).Code != impl.OK || bounded(right).Code != impl.OK {
		return refused(impl.ErrForm)
	}
	order := left.Cmp(right)
	switch text {
	case "+":
		return bounded(new(big.Int).Add(left, right))
	case "-":
		return bounded(new(big.Int).Sub(left, right))
	case "*":
		return bounded(new(big.Int).Mul(left, right))
	case "<":
		return money(numOf(order < 0))
	case "<=":
		return money(numOf(order < 1))
	case "=":
		return money(numOf(order == 0))
	case "and":
		return money(map[[2]int64]int64{{1, 1}: 1}[[2]int64{a, b}])
	case "or":
		return money(numOf(slices.Contains([]int64{a, b}, 1)))
	}
	return refused(impl.ErrName)
}

// noOperators: texts that are none.
func noOperators() []string {
	return slices.Concat(functionList(), noNames(), []string{"", " ", "/", "%", ">", ">=", "==", "!=", "not", "xor", "&&", "||", "+ ", " +", "++", "+-", "<==",
		"= ", "And", "AND", "OR", "and ", " or", "and or", "an", "o", "orr", "+\x00", "-\n", "\xff", strings.Repeat("+", impl.MaxBytes)})
}

func TestOpValueOrdinary(t *testing.T) {
	const max = impl.MaxMoney
	cases := []struct {
		text string
		a, b int64
		want impl.MoneyOut
	}{
		{"+", 1, 2, money(3)}, {"+", -5, 3, money(-2)}, {"+", 0, 0, money(0)}, {"-", 1, 2, money(-1)}, {"-", 5, -3, money(8)}, {"-", 7, 7, money(0)},
		{"*", 3, 4, money(12)}, {"*", -3, 4, money(-12)}, {"*", -3, -4, money(12)}, {"*", 0, max, money(0)},
		// At the bounds of money and one beyond.
		{"+", max - 1, 1, money(max)}, {"+", max, 1, refused(impl.ErrRange)}, {"+", max, max, refused(impl.ErrRange)}, {"+", max, -max, money(0)},
		{"+", 1 - max, -1, money(-max)}, {"+", -max, -1, refused(impl.ErrRange)}, {"+", -max, -max, refused(impl.ErrRange)}, {"+", max, 0, money(max)},
		{"-", max - 1, -1, money(max)}, {"-", max, -1, refused(impl.ErrRange)}, {"-", max, -max, refused(impl.ErrRange)}, {"-", max, max, money(0)},
		{"-", 1 - max, 1, money(-max)}, {"-", -max, 1, refused(impl.ErrRange)}, {"-", -max, max, refused(impl.ErrRange)}, {"-", 0, max, money(-max)},
		{"-", 0, -max, money(max)}, {"-", -1, max, refused(impl.ErrRange)}, {"-", 1, -max, refused(impl.ErrRange)},
		{"*", 1000000, 1000000, money(max)}, {"*", 1000000, -1000000, money(-max)}, {"*", 1000001, 1000000, refused(impl.ErrRange)},
		{"*", 1000001, -1000000, refused(impl.ErrRange)}, {"*", -1000001, -1000000, refused(impl.ErrRange)}, {"*", max, 1, money(max)},
		{"*", max, -1, money(-max)}, {"*", -max, -1, money(max)}, {"*", max, 2, refused(impl.ErrRange)}, {"*", max / 2, 2, money(max)},
		{"*", max/2 + 1, 2, refused(impl.ErrRange)}, {"*", max, max, refused(impl.ErrRange)}, {"*", -max, max, refused(impl.ErrRange)},
		// These products come back into the bounds, if they wrap round.
		{"*", 1 << 32, 1 << 32, refused(impl.ErrRange)}, {"*", 1 << 39, 1 << 25, refused(impl.ErrRange)}, {"*", -(1 << 33), 1 << 31, refused(impl.ErrRange)},
		{"<", 1, 2, money(1)}, {"<", 2, 2, money(0)}, {"<", 3, 2, money(0)}, {"<", -max, max, money(1)}, {"<", max, -max, money(0)},
		{"<=", 1, 2, money(1)}, {"<=", 2, 2, money(1)}, {"<=", 3, 2, money(0)}, {"<=", -max, -max, money(1)}, {"<=", 1 - max, -max, money(0)},
		{"=", 2, 2, money(1)}, {"=", 1, 2, money(0)}, {"=", 2, 1, money(0)}, {"=", max, max, money(1)}, {"=", max, -max, money(0)},
		{"and", 1, 1, money(1)}, {"and", 1, 0, money(0)}, {"and", 0, 1, money(0)}, {"and", 0, 0, money(0)},
		{"or", 1, 1, money(1)}, {"or", 1, 0, money(1)}, {"or", 0, 1, money(1)}, {"or", 0, 0, money(0)},
		// Numbers that are neither 0 nor 1.
		{"and", 2, 2, money(0)}, {"and", 1, 2, money(0)}, {"and", 3, 1, money(0)}, {"and", -1, -1, money(0)}, {"and", -1, 1, money(0)},
		{"or", 2, 2, money(0)}, {"or", 1, 2, money(1)}, {"or", 3, 1, money(1)}, {"or", -1, -1, money(0)}, {"or", 2, 0, money(0)}, {"or", 0, max, money(0)},
		{"or", -max, 1, money(1)}, {"and", max, max, money(0)}, {"or", 1<<32 + 1, 257, money(0)}, {"and", 1<<32 + 1, 257, money(0)},
	}
	for _, c := range cases {
		if got := impl.OpValue(c.text, c.a, c.b); got != c.want {
			t.Errorf("OpValue(%q, %d, %d) is %+v, not %+v", c.text, c.a, c.b, got, c.want)
		}
	}
}

func TestOpValueOfAllSizes(t *testing.T) {
	edges := append(edgeMoney(), noMoney()...)
	for _, text := range operatorList() {
		for _, a := range edges {
			for _, b := range edges {
				if got, want := impl.OpValue(text, a, b), opValueOf(text, a, b); got != want {
					t.Fatalf("OpValue(%q, %d, %d) is %+v, not %+v", text, a, b, got, want)
				}
			}
		}
		list := someMoney(4000)
		for i, a := range list[1:] {
			if got, want := impl.OpValue(text, a, list[i]), opValueOf(text, a, list[i]); got != want {
				t.Fatalf("OpValue(%q, %d, %d) is %+v, not %+v", text, a, list[i], got, want)
			}
		}
	}
}

// ErrSize ahead of all else, then ErrForm of either number, then ErrName.
func TestOpValueRefused(t *testing.T) {
	long := strings.Repeat("+", impl.MaxBytes+1)
	for _, text := range noOperators() {
		want := refused(impl.ErrName)
		if len(text) > impl.MaxBytes {
			want = refused(impl.ErrSize)
		}
		for _, pair := range [][2]int64{{0, 0}, {1, 1}, {impl.MaxMoney, impl.MaxMoney}, {-impl.MaxMoney, impl.MaxMoney}} {
			if got := impl.OpValue(text, pair[0], pair[1]); got != want {
				t.Errorf("OpValue(%.50q, %v) is %+v, not %+v", text, pair, got, want)
			}
		}
	}
	for _, n := range noMoney() {
		for _, pair := range [][2]int64{{n, 0}, {0, n}, {n, n}, {1, n}, {n, 1}, {n, impl.MaxMoney}} {
			for _, text := range append(operatorList(), "", "/", "not", "++", "interest") {
				if got := impl.OpValue(text, pair[0], pair[1]); got != refused(impl.ErrForm) {
					t.Errorf("OpValue(%q, %v) is %+v", text, pair, got)
				}
			}
			if got := impl.OpValue(long, pair[0], pair[1]); got != refused(impl.ErrSize) {
				t.Errorf("OpValue of a text too long and %v is %+v", pair, got)
			}
		}
	}
	if got := impl.OpValue(long, 1, 1); got != refused(impl.ErrSize) {
		t.Errorf("OpValue of a text too long is %+v", got)
	}
}

// Promise 15: of operands of types that the operator takes, at the bounds of these and between them.
func TestOpValueIsOfItsType(t *testing.T) {
	for _, text := range operatorList() {
		for a := int64(1); a <= 5; a++ {
			for b := int64(1); b <= 5; b++ {
				kind := impl.OpType(text, a, b)
				if kind == 0 {
					continue
				}
				low, high := bounds(kind)
				for _, x := range valuesOf(a) {
					for _, y := range valuesOf(b) {
						got := impl.OpValue(text, x, y)
						if got.Code == impl.OK && (got.N < low || got.N > high) {
							t.Fatalf("OpValue(%q, %d, %d) of types %d and %d is %d: none of type %d", text, x, y, a, b, got.N, kind)
						}
						// What can't be told is a sum, a difference or a product beyond the bounds, and nothing else.
						if got.Code != impl.OK && (got.Code != impl.ErrRange || strings.Contains("< <= = and or", text)) {
							t.Fatalf("OpValue(%q, %d, %d) of types %d and %d has code %d", text, x, y, a, b, got.Code)
						}
					}
				}
			}
		}
	}
}

// valuesOf: numbers of a type, at its bounds and between them.
func valuesOf(kind int64) []int64 {
	low, high := bounds(kind)
	list := []int64{low, high}
	for _, n := range slices.Concat(edgeMoney(), someMoney(100), []int64{365, 1000000, -1000000, 999999}) {
		if n >= low && n <= high {
			list = append(list, n)
		}
	}
	return list
}

// instalmentBy: a right loan's instalment, where it leaves nothing by the tests' own rows, and one less leaves something;
// else a code that is none.
func instalmentBy(l impl.Loan) impl.MoneyOut {
	got := impl.Instalment(l)
	if leftOf(l, got.N) != 0 || got.N > 0 && leftOf(l, got.N-1) == 0 {
		return refused(-1)
	}
	return money(got.N)
}

// isMoney, isRate, isDay: by the document's bounds.
func isMoney(n int64) bool { return n >= -impl.MaxMoney && n <= impl.MaxMoney }
func isRate(n int64) bool  { return n >= 0 && n <= impl.RateUnit }
func isDay(n int64) bool   { return n >= 0 && n <= impl.MaxDay }

// isLoan: a right one, by the document's bounds.
func isLoan(l impl.Loan) bool {
	return l.Principal >= 1 && l.Principal <= 10000000000 && l.Rate >= 0 && l.Rate <= 500000 && l.Term >= 1 && l.Term <= 60 &&
		isDay(l.Start) && monthsBehind(l.Start, l.Term).Code == impl.OK
}

// callValueOf: what CallValue tells of a right basis, a function and as many args as it takes.
func callValueOf(basis int64, name string, args []int64) impl.MoneyOut {
	switch name {
	case "interest":
		if args[0] < 0 || !isMoney(args[0]) || !isRate(args[1]) || !isDay(args[2]) || !isDay(args[3]) || args[3] < args[2] {
			return refused(impl.ErrForm)
		}
		return interestOf(args[0], args[1], basis, args[2], args[3])
	case "instalment":
		if l := loan(args[0], args[1], basis, args[3], args[2]); isLoan(l) {
			return instalmentBy(l)
		}
	case "later":
		if isDay(args[0]) {
			got := monthsBehind(args[0], max(-1201, min(1201, args[1])))
			return impl.MoneyOut{N: got.Day, Code: got.Code}
		}
	case "days":
		if isDay(args[0]) && isDay(args[1]) {
			return money(args[1] - args[0])
		}
	case "share":
		if isMoney(args[0]) && isRate(args[1]) {
			return bounded(nearestOf(args[0], args[1], impl.RateUnit))
		}
	default:
		if isMoney(args[0]) && isMoney(args[1]) {
			slices.Sort(args)
			return money(map[string]int64{"least": args[0], "most": args[1]}[name])
		}
	}
	return refused(impl.ErrForm)
}

// valueCase: a call, and what is told of it.
type valueCase struct {
	basis int64
	name  string
	args  []int64
	want  impl.MoneyOut
}

// checkValues: are these told, and are the args as they were?
func checkValues(t *testing.T, cases []valueCase) {
	t.Helper()
	for _, c := range cases {
		before := slices.Clone(c.args)
		if got := impl.CallValue(c.basis, c.name, c.args); got != c.want {
			t.Errorf("CallValue(%d, %.50q, %.100v) is %+v, not %+v", c.basis, c.name, c.args, got, c.want)
		}
		if !slices.Equal(c.args, before) {
			t.Errorf("CallValue(%d, %.50q, %v) changed its args", c.basis, c.name, before)
		}
	}
}

func TestCallValueOfInterest(t *testing.T) {
	jan, feb, mar := dayAt(2026, 1, 31), dayAt(2026, 2, 28), dayAt(2026, 3, 31)
	const max = impl.MaxMoney
	checkValues(t, []valueCase{
		{1, "interest", []int64{1000000, 50000, jan, feb}, money(3836)}, {2, "interest", []int64{1000000, 50000, jan, feb}, money(3889)},
		{3, "interest", []int64{1000000, 50000, jan, feb}, money(3889)}, {1, "interest", []int64{1000000, 50000, jan, mar}, money(8082)},
		{2, "interest", []int64{1000000, 50000, jan, mar}, money(8194)}, {3, "interest", []int64{1000000, 50000, jan, mar}, money(8333)},
		{1, "interest", []int64{0, 0, 0, 0}, money(0)}, {1, "interest", []int64{max, 1, 5, 6}, money(2740)}, {1, "interest", []int64{max, 1000000, 0, 365}, money(max)},
		{1, "interest", []int64{max, 1000000, 0, 366}, refused(impl.ErrRange)}, {1, "interest", []int64{max, 1000000, 0, 10000}, refused(impl.ErrRange)},
		// A rate times a Span is more than MulDiv takes.
		{1, "interest", []int64{max, 1000000, 0, 10001}, refused(impl.ErrForm)}, {1, "interest", []int64{0, 1000000, 0, 10001}, refused(impl.ErrForm)},
		{1, "interest", []int64{-1, 50000, jan, feb}, refused(impl.ErrForm)}, {1, "interest", []int64{max + 1, 50000, jan, feb}, refused(impl.ErrForm)},
		{1, "interest", []int64{1000000, -1, jan, feb}, refused(impl.ErrForm)}, {1, "interest", []int64{1000000, 1000001, jan, feb}, refused(impl.ErrForm)},
		{1, "interest", []int64{1000000, 50000, -1, feb}, refused(impl.ErrForm)}, {1, "interest", []int64{1000000, 50000, jan, 36525}, refused(impl.ErrForm)},
		{1, "interest", []int64{1000000, 50000, feb, jan}, refused(impl.ErrForm)}, {1, "interest", []int64{1000000, 50000, jan, jan - 1}, refused(impl.ErrForm)},
		{1, "interest", []int64{1000000, 50000, jan, jan}, money(0)}, {1, "interest", []int64{50000, 1000000, jan, feb}, money(3836)},
	})
}

func TestCallValueOfInstalment(t *testing.T) {
	start := dayAt(2026, 1, 31)
	cases := []valueCase{
		{1, "instalment", []int64{1000000, 50000, 12, start}, money(85592)}, {1, "instalment", []int64{1200, 0, 12, 0}, money(100)},
		{3, "instalment", []int64{1, 0, 1, 0}, money(1)}, {2, "instalment", []int64{10000000000, 500000, 1, 0}, money(10430555556)},
		{1, "instalment", []int64{0, 50000, 12, start}, refused(impl.ErrForm)}, {1, "instalment", []int64{-1, 50000, 12, start}, refused(impl.ErrForm)},
		{1, "instalment", []int64{10000000001, 50000, 12, start}, refused(impl.ErrForm)}, {1, "instalment", []int64{1000000, -1, 12, start}, refused(impl.ErrForm)},
		{1, "instalment", []int64{1000000, 500001, 12, start}, refused(impl.ErrForm)}, {1, "instalment", []int64{1000000, 50000, 0, start}, refused(impl.ErrForm)},
		{1, "instalment", []int64{1000000, 50000, 61, start}, refused(impl.ErrForm)}, {1, "instalment", []int64{1000000, 50000, 12, -1}, refused(impl.ErrForm)},
		{1, "instalment", []int64{1000000, 50000, 12, 36525}, refused(impl.ErrForm)}, {1, "instalment", []int64{1000000, 50000, 12, dayAt(2099, 1, 1)}, refused(impl.ErrForm)},
		{1, "instalment", []int64{1000000, 50000, start, 12}, refused(impl.ErrForm)},
	}
	for _, l := range rightLoans()[:60] {
		cases = append(cases, valueCase{l.Basis, "instalment", []int64{l.Principal, l.Rate, l.Term, l.Start}, instalmentBy(l)})
	}
	checkValues(t, cases)
}

func TestCallValueOfDays(t *testing.T) {
	jan, feb := dayAt(2024, 1, 31), dayAt(2024, 2, 29)
	checkValues(t, []valueCase{
		{1, "later", []int64{30, 1}, money(59)}, {2, "later", []int64{jan, 1}, money(feb)}, {3, "later", []int64{feb, -1}, money(dayAt(2024, 1, 29))},
		{1, "later", []int64{jan, 0}, money(jan)}, {1, "later", []int64{0, 1199}, money(dayAt(2099, 12, 1))}, {1, "later", []int64{36524, -1199}, money(30)},
		{1, "later", []int64{0, 1200}, refused(impl.ErrRange)}, {1, "later", []int64{0, -1}, refused(impl.ErrRange)}, {1, "later", []int64{36524, 1}, refused(impl.ErrRange)},
		{1, "later", []int64{0, 1201}, refused(impl.ErrRange)}, {1, "later", []int64{36524, -1201}, refused(impl.ErrRange)},
		{1, "later", []int64{0, math.MaxInt64}, refused(impl.ErrRange)}, {1, "later", []int64{0, math.MinInt64}, refused(impl.ErrRange)},
		{1, "later", []int64{-1, 1}, refused(impl.ErrForm)}, {1, "later", []int64{36525, 1}, refused(impl.ErrForm)}, {1, "later", []int64{36525, 1201}, refused(impl.ErrForm)},
		{1, "days", []int64{jan, feb}, money(29)}, {2, "days", []int64{feb, jan}, money(-29)}, {3, "days", []int64{jan, jan}, money(0)},
		{3, "days", []int64{0, 36524}, money(36524)}, {1, "days", []int64{36524, 0}, money(-36524)}, {1, "days", []int64{-1, 0}, refused(impl.ErrForm)},
		{1, "days", []int64{0, -1}, refused(impl.ErrForm)}, {1, "days", []int64{36525, 0}, refused(impl.ErrForm)}, {1, "days", []int64{0, 36525}, refused(impl.ErrForm)},
		{1, "days", []int64{math.MinInt64, math.MaxInt64}, refused(impl.ErrForm)},
	})
}

func TestCallValueOfMoney(t *testing.T) {
	const max = impl.MaxMoney
	checkValues(t, []valueCase{
		{1, "least", []int64{1, 2}, money(1)}, {2, "least", []int64{2, 1}, money(1)}, {3, "least", []int64{-1, -2}, money(-2)}, {1, "least", []int64{7, 7}, money(7)},
		{1, "least", []int64{-max, max}, money(-max)}, {1, "least", []int64{max, max}, money(max)}, {1, "least", []int64{max + 1, 1}, refused(impl.ErrForm)},
		{1, "least", []int64{1, max + 1}, refused(impl.ErrForm)}, {1, "least", []int64{-max - 1, 1}, refused(impl.ErrForm)},
		{1, "most", []int64{1, 2}, money(2)}, {2, "most", []int64{2, 1}, money(2)}, {3, "most", []int64{-1, -2}, money(-1)}, {1, "most", []int64{7, 7}, money(7)},
		{1, "most", []int64{-max, max}, money(max)}, {1, "most", []int64{-max, -max}, money(-max)}, {1, "most", []int64{-max - 1, 1}, refused(impl.ErrForm)},
		{1, "most", []int64{1, -max - 1}, refused(impl.ErrForm)}, {1, "most", []int64{max + 1, 1}, refused(impl.ErrForm)},
		{1, "share", []int64{1000050, 52500}, money(52503)}, {2, "share", []int64{-1000050, 52500}, money(-52503)}, {3, "share", []int64{50, 10000}, money(0)},
		{3, "share", []int64{150, 10000}, money(2)}, {1, "share", []int64{max, 1000000}, money(max)}, {1, "share", []int64{-max, 1000000}, money(-max)},
		{1, "share", []int64{max, 0}, money(0)}, {1, "share", []int64{1, -1}, refused(impl.ErrForm)}, {1, "share", []int64{1, 1000001}, refused(impl.ErrForm)},
		{1, "share", []int64{max + 1, 0}, refused(impl.ErrForm)}, {1, "share", []int64{-max - 1, 1}, refused(impl.ErrForm)}, {1, "share", []int64{2000000, 1}, money(2)},
	})
}

// Each function at args of all sizes and types, most of which it refuses.
func TestCallValueOfWhatever(t *testing.T) {
	g := &maker{nums: someNums(30011)}
	counts := map[string]int{}
	for _, name := range functionList() {
		types := typesIn(callTable()[name])[1:]
		for range 1500 {
			var args []int64
			for _, kind := range types {
				low, high := bounds(kind)
				if g.below(12) == 0 {
					low, high = low-1, high+1
				}
				n := g.within(low, high)
				// Ints and money come as small numbers, too.
				if kind < impl.TypeRate && g.below(2) == 0 {
					n = g.below(100)
				}
				args = append(args, n)
			}
			basis := 1 + g.below(3)
			want := callValueOf(basis, name, slices.Clone(args))
			checkValues(t, []valueCase{{basis, name, args, want}})
			if want.Code == impl.OK {
				counts[name]++
			}
		}
		if counts[name] < 20 {
			t.Errorf("%d calls of %s are not refused: too few", counts[name], name)
		}
	}
}

// rightArgs: of each function some that it does not refuse.
func rightArgs(name string) []int64 {
	return map[string][]int64{"interest": {100, 50000, 1, 2}, "instalment": {100, 50000, 12, 1}, "later": {1, 1}, "days": {1, 2}, "least": {1, 2}, "most": {1, 2},
		"share": {100, 50000}}[name]
}

func TestCallValueOfTooFewAndTooManyArgs(t *testing.T) {
	for _, name := range functionList() {
		right := rightArgs(name)
		for count := range 12 {
			args := append(slices.Clone(right), 1, 1, 1, 1, 1, 1, 1, 1, 1, 1)[:count]
			want := impl.MoneyOut{Code: impl.ErrForm}
			if count == len(right) {
				want = callValueOf(1, name, slices.Clone(right))
			}
			checkValues(t, []valueCase{{1, name, args, want}})
		}
		checkValues(t, []valueCase{{1, name, nil, refused(impl.ErrForm)}, {1, name, slices.Repeat(right, 50), refused(impl.ErrForm)},
			{1, name, make([]int64, impl.MaxList), refused(impl.ErrForm)}, {1, name, make([]int64, impl.MaxList+1), refused(impl.ErrSize)}})
	}
}

// ErrSize ahead of all else, then the basis, the name, how many args there are, and what these are.
func TestCallValueWhichFault(t *testing.T) {
	long, many := strings.Repeat("a", impl.MaxBytes+1), make([]int64, impl.MaxList+1)
	var cases []valueCase
	for _, basis := range []int64{0, -1, 4, 5, 257, 1<<32 + 1, math.MaxInt64, math.MinInt64} {
		for _, name := range append(functionList(), "", "sum", "Least", "owed") {
			cases = append(cases, valueCase{basis, name, rightArgs(name), refused(impl.ErrForm)}, valueCase{basis, name, []int64{1, 2, 3}, refused(impl.ErrForm)},
				valueCase{basis, name, many, refused(impl.ErrSize)})
		}
		cases = append(cases, valueCase{basis, long, []int64{1, 2}, refused(impl.ErrSize)}, valueCase{basis, long, many, refused(impl.ErrSize)})
	}
	for basis := int64(1); basis <= 3; basis++ {
		names := slices.Concat(operatorList(), typeNames(), []string{"", " ", "sum", "Least", "LEAST", "least ", " least", "leas", "leastt", "least most", "not", "call",
			"owed", "bank", "least\x00", "later\n", strings.Repeat("a", impl.MaxBytes)})
		for _, name := range names {
			cases = append(cases, valueCase{basis, name, []int64{1, 2}, refused(impl.ErrName)}, valueCase{basis, name, nil, refused(impl.ErrName)},
				valueCase{basis, name, []int64{1, 2, 3, 4}, refused(impl.ErrName)}, valueCase{basis, name, []int64{math.MinInt64, math.MaxInt64}, refused(impl.ErrName)},
				valueCase{basis, name, make([]int64, impl.MaxList), refused(impl.ErrName)}, valueCase{basis, name, many, refused(impl.ErrSize)})
		}
		cases = append(cases, valueCase{basis, long, []int64{1, 2}, refused(impl.ErrSize)}, valueCase{basis, "later", []int64{0, 1201, 1}, refused(impl.ErrForm)},
			valueCase{basis, "later", []int64{0}, refused(impl.ErrForm)})
	}
	checkValues(t, cases)
}
