package tests

import (
	"math"
	"slices"
	"strconv"
	"testing"

	"loop.example/g00221/impl"
)

// plainEnv: one that is right for typedText's product, with nothing at an edge.
func plainEnv() impl.Env {
	return impl.Env{Params: []int64{5, 700, 50000, 9600, 1}, Balances: []int64{100000, 2500}, Today: dayAt(2026, 3, 31), Since: dayAt(2026, 2, 28), Count: 3,
		Amount: 4000, Gas: impl.MaxGas}
}

// envWith: the plain one, changed.
func envWith(change func(e *impl.Env)) impl.Env {
	e := plainEnv()
	change(&e)
	return e
}

// copiedEnv: with lists of its own.
func copiedEnv(e impl.Env) impl.Env {
	e.Params, e.Balances = slices.Clone(e.Params), slices.Clone(e.Balances)
	return e
}

// sameEnv: in all fields and lists.
func sameEnv(a impl.Env, b impl.Env) bool {
	return slices.Equal(a.Params, b.Params) && slices.Equal(a.Balances, b.Balances) && a.Today == b.Today && a.Since == b.Since &&
		a.Count == b.Count && a.Amount == b.Amount && a.Gas == b.Gas
}

// checkEnv: is it right, as said, and are both as they were? By Mean it is the same, of a product whose tick does nothing.
func checkEnv(t *testing.T, what string, p impl.Product, e impl.Env, want bool) {
	t.Helper()
	product, env := copiedProduct(p), copiedEnv(e)
	if got := impl.EnvRight(p, e); got != want {
		t.Errorf("%s: EnvRight of %+v is %v", what, e, got)
	}
	if got := impl.Mean(p, impl.HookTick, e); (got.Code == impl.ErrForm) == want {
		t.Errorf("%s: Mean with %+v is %+v", what, e, got)
	}
	if !sameProduct(p, product) || !sameEnv(e, env) {
		t.Errorf("%s: what was handed in was changed", what)
	}
}

func TestMeanConstants(t *testing.T) {
	if impl.MaxGas != 2000 || impl.MaxCount != 1000 {
		t.Error("a bound is another one")
	}
}

func TestEnvRightEdges(t *testing.T) {
	const max = impl.MaxMoney
	p := typedProduct(t, "", "", "")
	checkEnv(t, "plain", p, plainEnv(), true)
	// Each field at both of its edges, and one beyond.
	fields := []struct {
		what      string
		low, high int64
		set       func(e *impl.Env, n int64)
	}{
		{"n", 0, 60, func(e *impl.Env, n int64) { e.Params[0] = n }}, {"m", 0, 900, func(e *impl.Env, n int64) { e.Params[1] = n }},
		{"r", 0, 500000, func(e *impl.Env, n int64) { e.Params[2] = n }}, {"d", 0, 36524, func(e *impl.Env, n int64) { e.Params[3] = n }},
		{"y", 0, 1, func(e *impl.Env, n int64) { e.Params[4] = n }}, {"owed", -max, max, func(e *impl.Env, n int64) { e.Balances[0] = n }},
		{"due", -max, max, func(e *impl.Env, n int64) { e.Balances[1] = n }}, {"today", plainEnv().Since, 36524, func(e *impl.Env, n int64) { e.Today = n }},
		{"since", 0, plainEnv().Today, func(e *impl.Env, n int64) { e.Since = n }}, {"count", 0, 1000, func(e *impl.Env, n int64) { e.Count = n }},
		{"amount", 0, max, func(e *impl.Env, n int64) { e.Amount = n }}, {"gas", 0, 2000, func(e *impl.Env, n int64) { e.Gas = n }},
		{"both days", 0, 36524, func(e *impl.Env, n int64) { e.Today, e.Since = n, n }},
	}
	for _, f := range fields {
		for _, n := range []int64{f.low, f.low + 1, f.high - 1, f.high} {
			checkEnv(t, f.what, p, envWith(func(e *impl.Env) { f.set(e, n) }), true)
		}
		for _, n := range []int64{f.low - 1, f.high + 1, f.low - 2, f.high + 2, math.MinInt64, math.MaxInt64, math.MinInt64 + 1, f.low + 1<<45, f.low - 1<<45} {
			checkEnv(t, f.what, p, envWith(func(e *impl.Env) { f.set(e, n) }), false)
		}
	}
}

func TestEnvRightDays(t *testing.T) {
	p := typedProduct(t, "", "", "")
	cases := []struct {
		today, since int64
		want         bool
	}{
		{0, 0, true}, {1, 0, true}, {0, 1, false}, {36524, 36524, true}, {36524, 36523, true}, {36523, 36524, false}, {36525, 36525, false}, {36525, 0, false},
		{-1, -1, false}, {0, -1, false}, {36524, 36525, false}, {36524, 0, true}, {0, 36524, false}, {5, -5, false}, {-5, 5, false},
	}
	for _, c := range cases {
		checkEnv(t, "days", p, envWith(func(e *impl.Env) { e.Today, e.Since = c.today, c.since }), c.want)
	}
}

func TestEnvRightLists(t *testing.T) {
	p := typedProduct(t, "", "", "")
	for count := range 12 {
		e := envWith(func(e *impl.Env) { e.Params = append(e.Params, 0, 0, 0, 0, 0, 0, 0)[:count] })
		checkEnv(t, strconv.Itoa(count)+" Params", p, e, count == 5)
		e = envWith(func(e *impl.Env) { e.Balances = append(e.Balances, 0, 0, 0, 0, 0, 0, 0, 0, 0, 0)[:count] })
		checkEnv(t, strconv.Itoa(count)+" Balances", p, e, count == 2)
	}
	checkEnv(t, "no lists", p, envWith(func(e *impl.Env) { e.Params, e.Balances = nil, nil }), false)
	checkEnv(t, "lists exchanged", p, envWith(func(e *impl.Env) { e.Params, e.Balances = e.Balances, e.Params }), false)
	checkEnv(t, "great lists", p, envWith(func(e *impl.Env) { e.Params = make([]int64, 500) }), false)
	checkEnv(t, "great lists", p, envWith(func(e *impl.Env) { e.Balances = make([]int64, 500) }), false)
	// A product without Params takes an empty list and none.
	p.Params = nil
	checkEnv(t, "no Params", p, envWith(func(e *impl.Env) { e.Params = nil }), true)
	checkEnv(t, "no Params", p, envWith(func(e *impl.Env) { e.Params = []int64{} }), true)
	checkEnv(t, "no Params", p, envWith(func(e *impl.Env) { e.Params = []int64{0} }), false)
	checkEnv(t, "the zero Env", p, impl.Env{}, false)
	checkEnv(t, "balances of nothing", p, impl.Env{Balances: []int64{0, 0}, Gas: 1}, true)
	// As many of each as may be.
	p.Params, p.Slots = numberedParams(8), numberedNames("s", 6)
	e := impl.Env{Params: make([]int64, 8), Balances: make([]int64, 6), Gas: 1}
	checkEnv(t, "many of each", p, e, true)
	e.Params[7] = impl.RateUnit + 1
	checkEnv(t, "the last Param beyond", p, e, false)
	e.Params[7], e.Balances[5] = impl.RateUnit, impl.MaxMoney+1
	checkEnv(t, "the last balance beyond", p, e, false)
}

// Bounds of one number, and bounds on one side of nought.
func TestEnvRightParamBounds(t *testing.T) {
	for kind := int64(1); kind <= 5; kind++ {
		low, high := bounds(kind)
		for _, b := range [][2]int64{{low, low}, {high, high}, {low, high}, {low, low + 1}, {high - 1, high}} {
			p := typedProduct(t, "", "", "")
			p.Params = []impl.Param{{Name: "a", Type: kind, Low: b[0], High: b[1]}}
			for _, n := range []int64{b[0] - 1, b[0], b[0] + 1, b[1] - 1, b[1], b[1] + 1, 0, low, high} {
				e := envWith(func(e *impl.Env) { e.Params = []int64{n} })
				checkEnv(t, "type "+strconv.FormatInt(kind, 10), p, e, n >= b[0] && n <= b[1])
			}
		}
	}
}

// Of a product that is not right no Env is, of one with a fault it may be.
func TestEnvRightOfWrongProducts(t *testing.T) {
	env := func(p impl.Product) impl.Env {
		e := impl.Env{Today: 9, Since: 9, Gas: 9, Balances: make([]int64, len(p.Slots))}
		for _, a := range p.Params {
			e.Params = append(e.Params, a.Low)
		}
		return e
	}
	for i, p := range wrongProducts() {
		checkEnv(t, "wrong product "+strconv.Itoa(i), p, env(p), false)
		checkEnv(t, "wrong product "+strconv.Itoa(i), p, impl.Env{}, false)
	}
	for i, p := range rightProducts() {
		if !impl.EnvRight(p, env(p)) {
			t.Errorf("right product %d: EnvRight is false", i)
		}
	}
	p := hookedProduct(t, impl.HookTick, "post amount from till to owed ;")
	if !impl.EnvRight(p, plainEnv()) {
		t.Error("a product with a fault: EnvRight is false")
	}
}
