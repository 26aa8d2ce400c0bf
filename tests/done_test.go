package tests

import (
	"slices"
	"strconv"
	"testing"

	"loop.example/g00221/impl"
)

// What a hook comes to by the tests' own way is what is told.
func TestMeanOfMadeProducts(t *testing.T) {
	for i, c := range doneCases(t, 400) {
		checkMean(t, "made case "+strconv.Itoa(i)+": "+impl.ProductText(c.p), c.p, c.hook, c.e, c.want)
		if t.Failed() {
			return
		}
	}
}

// Promise 16: with just the gas that it costs a hook that ends well does so, to the same end, and with no less.
func TestHooksEndWithJustTheirGas(t *testing.T) {
	count := 0
	for _, c := range doneCases(t, 200) {
		whole := impl.Mean(c.p, c.hook, c.e)
		if whole.Code != impl.OK {
			continue
		}
		count++
		cost := c.e.Gas - whole.Gas
		for _, c.e.Gas = range []int64{cost, cost + 1, impl.MaxGas} {
			got := impl.Mean(c.p, c.hook, c.e)
			if got.Code != impl.OK || got.Gas != c.e.Gas-cost || got.Next != whole.Next || !slices.Equal(got.Acts, whole.Acts) {
				t.Fatalf("with gas %d of a cost of %d: %+v, not %+v", c.e.Gas, cost, got, whole)
			}
		}
		for c.e.Gas = cost - 1; c.e.Gas >= 0; c.e.Gas -= 1 + c.e.Gas/8 {
			checkMean(t, "less gas", c.p, c.hook, c.e, impl.Outcome{Code: impl.ErrGas})
		}
	}
	if count < 200 {
		t.Errorf("%d hooks end well: too few", count)
	}
}

// Promise 17: from and to spots that there are, never below nought, and a day that is to come.
func TestHooksMoveMoneyWithinTheProduct(t *testing.T) {
	acts, nexts := 0, 0
	for _, c := range doneCases(t, 400) {
		got := impl.Mean(c.p, c.hook, c.e)
		spots := slices.Concat(c.p.Slots, c.p.Contras)
		if got.Code != impl.OK && (len(got.Acts) != 0 || got.Next != 0 || got.Gas != 0) {
			t.Fatalf("beside code %d: %+v", got.Code, got)
		}
		if (got.Code == impl.ErrReject) != (got.Reject != 0) || got.Reject < 0 || got.Reject > 99 || len(got.Acts) > impl.MaxLegs {
			t.Fatalf("%+v can't be", got)
		}
		for _, a := range got.Acts {
			acts++
			if !slices.Contains(spots, a.From) || !slices.Contains(spots, a.To) || a.Amount < 0 || a.Amount > impl.MaxMoney {
				t.Fatalf("%+v is no act of hook %d of %q", a, c.hook, impl.ProductText(c.p))
			}
		}
		if got.Next != 0 {
			nexts++
			if got.Next <= c.e.Today || got.Next > impl.MaxDay || c.hook == impl.HookPay {
				t.Fatalf("next is %d on day %d, of hook %d", got.Next, c.e.Today, c.hook)
			}
		}
	}
	if acts < 500 || nexts < 100 {
		t.Errorf("%d acts and %d days are told: too few", acts, nexts)
	}
}

// The deepest and the greatest hooks that are right.
func TestMeanOfGreatHooks(t *testing.T) {
	for _, hook := range hookList() {
		p := emptyProduct()
		e := impl.Env{Params: make([]int64, 5), Balances: make([]int64, 2), Gas: impl.MaxGas}
		deep := post(number(impl.KMoney, 3), "due", "owed")
		for range impl.MaxDepth - 2 {
			deep = block(deep)
		}
		*hookIn(&p, hook) = deep
		checkMean(t, "a deep hook", p, hook, e, impl.Outcome{Acts: actsIn("due owed 3"), Gas: impl.MaxGas - impl.MaxDepth})
		value := number(impl.KBool, 1)
		for range impl.MaxDepth - 3 {
			value = not(value)
		}
		*hookIn(&p, hook) = block(choice(value, block(post(number(impl.KMoney, 1), "till", "owed")), block(post(number(impl.KMoney, 2), "till", "owed"))))
		checkMean(t, "a deep expression", p, hook, e, impl.Outcome{Acts: actsIn("till owed 2"), Gas: impl.MaxGas - 2 - 18 - 3})
		var kids [][]impl.Node
		for range 39 {
			kids = append(kids, choice(number(impl.KBool, 0), block(), block()))
		}
		*hookIn(&p, hook) = block(append(kids[:35], block(let("a", one())))...)
		checkMean(t, "a wide hook", p, hook, e, impl.Outcome{Gas: impl.MaxGas - 1 - 35*3 - 3})
		// Blocks done within blocks, each more often than the gas lasts.
		body := block()
		for range 8 {
			body = block(repeat(number(impl.KInt, impl.MaxMoney), body))
		}
		*hookIn(&p, hook) = body
		checkMean(t, "a hook without an end", p, hook, e, impl.Outcome{Code: impl.ErrGas})
	}
}
