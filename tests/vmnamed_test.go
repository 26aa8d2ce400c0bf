package tests

import (
	"math"
	"slices"
	"strconv"
	"strings"
	"testing"

	"loop.example/g00221/impl"
)

// copiedVm: with a list of its own.
func copiedVm(x impl.VmOut) impl.VmOut {
	x.Acts = slices.Clone(x.Acts)
	return x
}

// checkNames: is that told, and are both as they were?
func checkNames(t *testing.T, what string, p impl.Product, x impl.VmOut, want impl.Outcome) {
	t.Helper()
	product, out := copiedProduct(p), copiedVm(x)
	for range 2 {
		if got := impl.VmNamed(p, x); !sameOutcome(got, want) {
			t.Errorf("%s: %+v of %+v, not %+v", what, got, x, want)
		}
	}
	if !sameProduct(p, product) || !sameVm(x, out) {
		t.Errorf("%s: what was handed in was changed", what)
	}
}

func TestVmNamed(t *testing.T) {
	p := emptyProduct()
	checkNames(t, "nothing", p, impl.VmOut{}, impl.Outcome{})
	checkNames(t, "an empty list", p, impl.VmOut{Acts: []impl.VmAct{}, Gas: 7}, impl.Outcome{Gas: 7})
	checkNames(t, "some acts", p, impl.VmOut{Acts: actsAt("2 0 500 0 2 1 1 3 0"), Next: 9, Gas: 8}, impl.Outcome{Acts: actsIn("till owed 500 owed till 1 due income 0"), Next: 9, Gas: 8})
	names := []string{"owed", "due", "till", "income"}
	for from, fromName := range names {
		for to, toName := range names {
			x := impl.VmOut{Acts: []impl.VmAct{{From: int64(from), To: int64(to), Amount: 77}}}
			checkNames(t, "one act", p, x, impl.Outcome{Acts: []impl.Act{{From: fromName, To: toName, Amount: 77}}})
		}
	}
	// What else there is is told as it is, whatever it is; acts too, with each code.
	far := []int64{0, 1, -1, 99, 100, 2000, 2001, 36524, 36525, impl.MaxMoney, -impl.MaxMoney, impl.MaxMoney + 1, math.MaxInt64, math.MinInt64}
	for _, n := range far {
		checkNames(t, "next", p, impl.VmOut{Next: n}, impl.Outcome{Next: n})
		checkNames(t, "gas", p, impl.VmOut{Gas: n}, impl.Outcome{Gas: n})
		checkNames(t, "reject", p, impl.VmOut{Reject: n}, impl.Outcome{Reject: n})
		checkNames(t, "code", p, impl.VmOut{Code: n}, impl.Outcome{Code: n})
		checkNames(t, "an amount", p, impl.VmOut{Acts: []impl.VmAct{{From: 3, To: 1, Amount: n}}}, impl.Outcome{Acts: []impl.Act{{From: "income", To: "due", Amount: n}}})
	}
	for code := int64(-1); code <= 17; code++ {
		x := impl.VmOut{Acts: actsAt("2 0 500"), Next: 1, Gas: 2, Reject: 3, Code: code}
		checkNames(t, "a code", p, x, impl.Outcome{Acts: actsIn("till owed 500"), Next: 1, Gas: 2, Reject: 3, Code: code})
	}
}

// Spots are slots, and behind them contras, with as many of each as may be, and as few.
func TestVmNamedBySizes(t *testing.T) {
	for slots := 1; slots <= 6; slots++ {
		for contras := 0; contras <= 4; contras++ {
			p := sized(slots, contras, 2)
			spots := slices.Concat(p.Slots, p.Contras)
			for at := int64(-3); at <= 12; at++ {
				for _, other := range []int64{0, int64(len(spots)) - 1} {
					there := impl.VmOut{Acts: []impl.VmAct{{From: at, To: other, Amount: 5}}, Gas: 6}
					back := impl.VmOut{Acts: []impl.VmAct{{From: 0, To: 0, Amount: 4}, {From: other, To: at, Amount: 5}}, Gas: 6}
					if at < 0 || at >= int64(len(spots)) {
						checkNames(t, "no spot", p, there, impl.Outcome{})
						checkNames(t, "no spot", p, back, impl.Outcome{})
						continue
					}
					checkNames(t, "a spot", p, there, impl.Outcome{Acts: []impl.Act{{From: spots[at], To: spots[other], Amount: 5}}, Gas: 6})
					checkNames(t, "a spot", p, back, impl.Outcome{Acts: []impl.Act{{From: "s0", To: "s0", Amount: 4}, {From: spots[other], To: spots[at], Amount: 5}}, Gas: 6})
				}
			}
		}
	}
	p := emptyProduct()
	for _, at := range []int64{-1, -2, 4, 5, 256, 1 << 32, 1<<32 + 1, -(1 << 32), math.MaxInt64, math.MinInt64, math.MinInt64 + 1} {
		for _, code := range []int64{impl.OK, impl.ErrGas} {
			checkNames(t, "no spot", p, impl.VmOut{Acts: []impl.VmAct{{From: at}}, Next: 7, Gas: 8, Reject: 9, Code: code}, impl.Outcome{})
			checkNames(t, "no spot", p, impl.VmOut{Acts: []impl.VmAct{{To: at}}, Next: 7, Gas: 8, Reject: 9, Code: code}, impl.Outcome{})
			checkNames(t, "no spot", p, impl.VmOut{Acts: []impl.VmAct{{}, {}, {To: at}, {}}, Next: 7, Gas: 8, Code: code}, impl.Outcome{})
		}
	}
}

func TestVmNamedOfManyActs(t *testing.T) {
	p := emptyProduct()
	for _, count := range []int{1, 2, 19, 20} {
		acts := actsIn(strings.Repeat("owed till 3 ", count))
		checkNames(t, strconv.Itoa(count)+" acts", p, impl.VmOut{Acts: actsAt(strings.Repeat("0 2 3 ", count)), Next: 5}, impl.Outcome{Acts: acts, Next: 5})
	}
	for _, count := range []int{21, 22, 400, 401, 5000} {
		for _, code := range []int64{impl.OK, impl.ErrFull} {
			checkNames(t, strconv.Itoa(count)+" acts", p, impl.VmOut{Acts: actsAt(strings.Repeat("0 2 3 ", count)), Next: 5, Gas: 6, Reject: 7, Code: code}, impl.Outcome{})
		}
	}
}

// Of a product that is not right nothing is told; one with a fault is right.
func TestVmNamedOfWrongProducts(t *testing.T) {
	for i, p := range wrongProducts() {
		for _, x := range []impl.VmOut{{}, {Acts: actsAt("0 0 1"), Next: 5, Gas: 6}, {Next: 5, Gas: 6, Reject: 7, Code: impl.ErrReject}} {
			checkNames(t, "wrong product "+strconv.Itoa(i), p, x, impl.Outcome{})
		}
	}
	for i, p := range rightProducts() {
		x := impl.VmOut{Acts: actsAt("0 0 1"), Next: 5, Gas: 6}
		checkNames(t, "right product "+strconv.Itoa(i), p, x, impl.Outcome{Acts: []impl.Act{{From: p.Slots[0], To: p.Slots[0], Amount: 1}}, Next: 5, Gas: 6})
	}
	for _, hook := range hookList() {
		p := hookedProduct(t, hook, "let a = zzz ;")
		checkNames(t, "a fault", p, impl.VmOut{Acts: actsAt("0 2 1")}, impl.Outcome{Acts: actsIn("owed till 1")})
	}
}

// What is told shares no list and no text with what was handed in, nor with another answer.
func TestVmNamedIsNew(t *testing.T) {
	from, to := strings.Clone("first_of_its_own"), strings.Clone("second_of_its_own")
	p := emptyProduct()
	p.Slots, p.Contras = append(make([]string, 0, 9), from), append(make([]string, 0, 9), to)
	x := impl.VmOut{Acts: append(make([]impl.VmAct, 0, 30), actsAt("0 1 5 1 0 6")...), Gas: 7}
	want := impl.Outcome{Acts: []impl.Act{{From: from, To: to, Amount: 5}, {From: to, To: from, Amount: 6}}, Gas: 7}
	first, second := impl.VmNamed(p, x), impl.VmNamed(p, x)
	for _, a := range slices.Concat(first.Acts, second.Acts) {
		for _, name := range []string{from, to} {
			if shares(a.From, name) || shares(a.To, name) {
				t.Errorf("%+v lies in the product", a)
			}
		}
	}
	acts := first.Acts[:cap(first.Acts)]
	for i := range acts {
		acts[i] = impl.Act{From: "spoilt", To: "spoilt", Amount: 77}
	}
	if !sameOutcome(second, want) || !sameOutcome(impl.VmNamed(p, x), want) {
		t.Error("what VmNamed handed out is shared")
	}
	if x.Acts[:30][2] != (impl.VmAct{}) || p.Slots[:9][1] != "" || p.Contras[:9][1] != "" {
		t.Error("room behind what was handed in was used")
	}
}
