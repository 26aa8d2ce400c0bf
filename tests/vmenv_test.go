package tests

import (
	"math"
	"slices"
	"strconv"
	"testing"

	"loop.example/g00221/impl"
)

// codedEnv: one that is right for a module of coded, with nothing at an edge.
func codedEnv() impl.Env {
	return impl.Env{Params: []int64{5, 700, 50000, 9600, 1}, Balances: []int64{100000, 2500, -300}, Today: dayAt(2026, 3, 31), Since: dayAt(2026, 2, 28), Count: 3,
		Amount: 4000, Gas: impl.MaxGas}
}

// codedEnvWith: the same, changed.
func codedEnvWith(change func(e *impl.Env)) impl.Env {
	e := codedEnv()
	change(&e)
	return e
}

// checkVmEnv: is it right, as said, and are both as they were? By VmRun it is the same: of nothing but a wrong one it tells ErrForm.
func checkVmEnv(t *testing.T, what string, m impl.Module, e impl.Env, want bool) {
	t.Helper()
	module, env := copiedModule(m), copiedEnv(e)
	for range 2 {
		if got := impl.VmEnvRight(m, e); got != want {
			t.Errorf("%s: VmEnvRight of %+v is %v", what, e, got)
		}
	}
	got := impl.VmRun(m, e)
	if (got.Code == impl.ErrForm) == want || !want && !sameVm(got, impl.VmOut{Code: impl.ErrForm}) {
		t.Errorf("%s: VmRun with %+v is %+v", what, e, got)
	}
	if !sameModule(m, module) || !sameEnv(e, env) {
		t.Errorf("%s: what was handed in was changed", what)
	}
}

func TestVmEnvRightEdges(t *testing.T) {
	const max = impl.MaxMoney
	m := coded("end")
	checkVmEnv(t, "plain", m, codedEnv(), true)
	type field struct {
		what      string
		low, high int64
		set       func(e *impl.Env, n int64)
	}
	fields := []field{
		{"today", codedEnv().Since, 36524, func(e *impl.Env, n int64) { e.Today = n }}, {"since", 0, codedEnv().Today, func(e *impl.Env, n int64) { e.Since = n }},
		{"both days", 0, 36524, func(e *impl.Env, n int64) { e.Today, e.Since = n, n }}, {"count", 0, 1000, func(e *impl.Env, n int64) { e.Count = n }},
		{"amount", 0, max, func(e *impl.Env, n int64) { e.Amount = n }}, {"gas", 0, 2000, func(e *impl.Env, n int64) { e.Gas = n }},
	}
	for i := range 5 {
		fields = append(fields, field{"param " + strconv.Itoa(i), -max, max, func(e *impl.Env, n int64) { e.Params[i] = n }})
	}
	for i := range 3 {
		fields = append(fields, field{"balance " + strconv.Itoa(i), -max, max, func(e *impl.Env, n int64) { e.Balances[i] = n }})
	}
	for _, f := range fields {
		for _, n := range []int64{f.low, f.low + 1, f.high - 1, f.high} {
			checkVmEnv(t, f.what, m, codedEnvWith(func(e *impl.Env) { f.set(e, n) }), true)
		}
		for _, n := range []int64{f.low - 1, f.high + 1, f.low - 2, f.high + 2, math.MinInt64, math.MaxInt64, math.MinInt64 + 1, f.low + 1<<45, f.low - 1<<45} {
			checkVmEnv(t, f.what, m, codedEnvWith(func(e *impl.Env) { f.set(e, n) }), false)
		}
	}
}

func TestVmEnvRightDays(t *testing.T) {
	cases := []struct {
		today, since int64
		want         bool
	}{
		{0, 0, true}, {1, 0, true}, {0, 1, false}, {36524, 36524, true}, {36524, 36523, true}, {36523, 36524, false}, {36525, 36525, false}, {36525, 0, false},
		{-1, -1, false}, {0, -1, false}, {36524, 36525, false}, {36524, 0, true}, {0, 36524, false}, {5, -5, false}, {-5, 5, false},
	}
	for _, c := range cases {
		checkVmEnv(t, "days", coded("end"), codedEnvWith(func(e *impl.Env) { e.Today, e.Since = c.today, c.since }), c.want)
	}
}

// As many numbers as each module says, and other ones.
func TestVmEnvRightLists(t *testing.T) {
	for params := range int64(9) {
		for slots := int64(1); slots <= 6; slots++ {
			m := impl.Module{Basis: 2, Slots: slots, Spots: 10, Params: params, Code: insIn("gas; end")}
			for count := range int64(11) {
				e := impl.Env{Params: make([]int64, count), Balances: make([]int64, slots), Gas: 1}
				checkVmEnv(t, strconv.FormatInt(count, 10)+" Params", m, e, count == params)
				e = impl.Env{Params: make([]int64, params), Balances: make([]int64, count), Gas: 1}
				checkVmEnv(t, strconv.FormatInt(count, 10)+" Balances", m, e, count == slots)
			}
			e := impl.Env{Params: make([]int64, params), Balances: make([]int64, slots), Gas: 1}
			for i := range e.Balances {
				for _, n := range []int64{impl.MaxMoney, impl.MaxMoney + 1, -impl.MaxMoney, -impl.MaxMoney - 1} {
					other := copiedEnv(e)
					other.Balances[i] = n
					checkVmEnv(t, "a balance at its edge", m, other, isMoney(n))
				}
			}
			for i := range e.Params {
				for _, n := range []int64{impl.MaxMoney, impl.MaxMoney + 1, -impl.MaxMoney, -impl.MaxMoney - 1} {
					other := copiedEnv(e)
					other.Params[i] = n
					checkVmEnv(t, "a Param at its edge", m, other, isMoney(n))
				}
			}
		}
	}
	m := coded("end")
	checkVmEnv(t, "no lists", m, codedEnvWith(func(e *impl.Env) { e.Params, e.Balances = nil, nil }), false)
	checkVmEnv(t, "lists exchanged", m, codedEnvWith(func(e *impl.Env) { e.Params, e.Balances = e.Balances, e.Params }), false)
	checkVmEnv(t, "great lists", m, codedEnvWith(func(e *impl.Env) { e.Params = make([]int64, 500) }), false)
	checkVmEnv(t, "great lists", m, codedEnvWith(func(e *impl.Env) { e.Balances = make([]int64, 500) }), false)
	checkVmEnv(t, "the zero Env", m, impl.Env{}, false)
	m.Params = 0
	checkVmEnv(t, "no Params", m, codedEnvWith(func(e *impl.Env) { e.Params = nil }), true)
	checkVmEnv(t, "no Params", m, codedEnvWith(func(e *impl.Env) { e.Params = []int64{} }), true)
	checkVmEnv(t, "no Params", m, codedEnvWith(func(e *impl.Env) { e.Params = []int64{0} }), false)
	m.Slots, m.Spots = 1, 1
	checkVmEnv(t, "one balance of nothing", m, impl.Env{Balances: []int64{0}}, true)
}

// fittedEnv: with as many numbers as the module says, where there can be so many.
func fittedEnv(m impl.Module) impl.Env {
	return impl.Env{Params: make([]int64, max(0, min(m.Params, 20))), Balances: make([]int64, max(0, min(m.Slots, 20))), Today: 9, Since: 9, Gas: 9}
}

// Of a module that is not right no Env is.
func TestVmEnvRightOfWrongModules(t *testing.T) {
	many := coded("end")
	many.Code = append(endless(2000), many.Code...)
	for n, m := range append(wrongModules(), many, coded("gas; gas"), coded("push 1; jz 1; end"), coded("push 0; jz 1; end"), coded("end; jump 2")) {
		checkVmEnv(t, "wrong module "+strconv.Itoa(n), m, fittedEnv(m), false)
		checkVmEnv(t, "wrong module "+strconv.Itoa(n), m, codedEnv(), false)
		checkVmEnv(t, "wrong module "+strconv.Itoa(n), m, impl.Env{}, false)
	}
	many.Code = many.Code[1:]
	for n, m := range append(rightModules(), many) {
		checkVmEnv(t, "right module "+strconv.Itoa(n), m, fittedEnv(m), true)
		e := fittedEnv(m)
		e.Gas = -1
		checkVmEnv(t, "right module "+strconv.Itoa(n), m, e, false)
	}
	list, heights, g := madeModules(400)
	for n, m := range list {
		other := g.altered(m)
		_, right := moduleHeights(other)
		checkVmEnv(t, "made module "+strconv.Itoa(n), m, fittedEnv(m), heights[n][0] == 0)
		checkVmEnv(t, "altered module "+strconv.Itoa(n), other, fittedEnv(other), right)
	}
}

// A Param's Low and High are none of the machine's: what is right for a product's hook is right for its code, and more is.
func TestVmEnvRightForHooks(t *testing.T) {
	p := typedProduct(t, "post ( 0.01 * n ) from till to owed ;", "", "")
	m := impl.Compile(p, impl.HookOpen).Module
	e := plainEnv()
	checkVmEnv(t, "a hook's Env", m, e, impl.EnvRight(p, e))
	e.Params = []int64{61, -5, 1000001, 36525, 2}
	if impl.EnvRight(p, e) {
		t.Error("Params out of their bounds are right for the product")
	}
	checkVmEnv(t, "Params out of their bounds", m, e, true)
	checkVm(t, "Params out of their bounds", m, e, impl.VmOut{Acts: actsAt("2 0 61"), Gas: impl.MaxGas - 5})
}

// By the tests' own way, of made modules and Envs with one number another one.
func TestVmEnvRightOfWhatever(t *testing.T) {
	counts := map[bool]int{}
	g := &maker{nums: someNums(9973)}
	for _, c := range vmCases(t, 300) {
		e := copiedEnv(c.e)
		fields := []*int64{&e.Today, &e.Since, &e.Count, &e.Amount, &e.Gas}
		for i := range e.Params {
			fields = append(fields, &e.Params[i])
		}
		for i := range e.Balances {
			fields = append(fields, &e.Balances[i])
		}
		*fields[g.below(int64(len(fields)))] += g.within(-2000, 2000)
		if g.below(10) == 0 {
			e.Balances = slices.Insert(e.Balances, 0, 0)
		}
		_, right := moduleHeights(c.m)
		want := right && vmEnvHolds(c.m, e)
		counts[want]++
		if got := impl.VmEnvRight(c.m, e); got != want {
			t.Fatalf("VmEnvRight of %+v is %v, for %d Params and %d Slots", e, got, c.m.Params, c.m.Slots)
		}
	}
	if counts[true] < 300 || counts[false] < 300 {
		t.Errorf("%d are right, %d are not: too few", counts[true], counts[false])
	}
}
