package tests

import (
	"testing"

	"loop.example/g00221/impl"
)

// doer does a right hook by the places of its nodes, told apart from the program: a variable is known by the place of
// its KLet, found by going up from where it is named, and all gas is added up from nought.
type doer struct {
	*scope
	e     impl.Env
	vars  map[int]int64
	spent int64
	out   impl.Outcome
}

// ending is what a doer panics with.
type ending struct {
	code   int64
	reject int64
}

// meanOf: what Mean tells of a product without a fault, a hook and a right Env.
func meanOf(p impl.Product, hook int64, e impl.Env) (out impl.Outcome) {
	defer func() {
		if x, ended := recover().(ending); ended {
			out = impl.Outcome{Reject: x.reject, Code: x.code}
		}
	}()
	d := &doer{scope: scopeOf(p, hook), e: e, vars: map[int]int64{}}
	d.do(0)
	d.out.Gas = e.Gas - d.spent
	return d.out
}

func (d *doer) endIf(holds bool, code int64) {
	if holds {
		panic(ending{code: code})
	}
}

func (d *doer) spend(gas int64) {
	d.spent += gas
	d.endIf(d.spent > d.e.Gas, impl.ErrGas)
}

// known: the value of an expression that has no kids.
func (d *doer) known(at int) int64 {
	n := d.nodes[at]
	switch n.Kind {
	case impl.KName:
		if place := d.letOf(at); place >= 0 {
			return d.vars[place]
		}
		for i, a := range d.p.Params {
			if a.Name == n.Text {
				return d.e.Params[i]
			}
		}
	case impl.KBal:
		for i, slot := range d.p.Slots {
			if slot == n.Text {
				return d.e.Balances[i]
			}
		}
	case impl.KToday, impl.KSince, impl.KCount, impl.KAmount:
		return []int64{d.e.Today, d.e.Since, d.e.Count, d.e.Amount}[n.Kind-impl.KToday]
	}
	return n.N
}

func (d *doer) value(at int) int64 {
	d.spend(1)
	n := d.nodes[at]
	var kids []int64
	for _, kid := range d.kids[at] {
		kids = append(kids, d.value(kid))
	}
	var got impl.MoneyOut
	switch n.Kind {
	case impl.KOp:
		got = opValueOf(n.Text, kids[0], kids[1])
	case impl.KNot:
		return []int64{1, 0}[kids[0]]
	case impl.KCall:
		if n.Text == "instalment" {
			d.spend(100)
		}
		got = callValueOf(d.p.Basis, n.Text, kids)
	default:
		return d.known(at)
	}
	d.endIf(got.Code != impl.OK, impl.ErrRange)
	return got.N
}

func (d *doer) do(at int) {
	d.spend(1)
	n, kids := d.nodes[at], d.kids[at]
	if n.Kind == impl.KBlock {
		for _, kid := range kids {
			d.do(kid)
		}
		return
	}
	if n.Kind == impl.KReject {
		panic(ending{impl.ErrReject, n.N})
	}
	x := d.value(kids[0])
	switch n.Kind {
	case impl.KLet:
		d.vars[at] = x
	case impl.KSet:
		d.vars[d.letOf(at)] = x
	case impl.KIf:
		d.do(kids[2-x])
	case impl.KPost:
		d.endIf(x < 0, impl.ErrRange)
		d.endIf(len(d.out.Acts) == 20, impl.ErrFull)
		d.out.Acts = append(d.out.Acts, impl.Act{From: n.Text, To: n.More, Amount: x})
	case impl.KNext:
		d.endIf(x <= d.e.Today, impl.ErrTime)
		d.out.Next = x
	case impl.KRepeat:
		for ; x > 0; x-- {
			d.do(kids[1])
			d.spend(1)
		}
	}
}

// envFor: a right Env for a product. A tame one has small numbers and much gas, so that more hooks end well.
func (g *typist) envFor(p impl.Product, tame bool) impl.Env {
	low := func(most int64, tameMost int64) int64 {
		if tame {
			return g.below(tameMost + 1)
		}
		return g.within(0, most)
	}
	e := impl.Env{Today: low(impl.MaxDay, 9000), Count: low(impl.MaxCount, 5), Amount: low(impl.MaxMoney, 100000), Gas: impl.MaxGas}
	e.Since = max(0, e.Today-low(impl.MaxDay, 31))
	if !tame && g.below(2) == 0 {
		e.Gas = g.below(200)
	}
	for range p.Slots {
		e.Balances = append(e.Balances, low(impl.MaxMoney, 100000)-low(impl.MaxMoney, 1000)*g.below(2))
	}
	for _, a := range p.Params {
		e.Params = append(e.Params, min(a.High, max(a.Low, low(a.High, 40))))
	}
	return e
}

// doneCase: a hook that is done, with what the tests' own way tells of it.
type doneCase struct {
	p    impl.Product
	hook int64
	e    impl.Env
	want impl.Outcome
}

// doneCases: of made products, the library's, and others made out of them that have no fault, with tame Envs and others.
func doneCases(t *testing.T, count int) []doneCase {
	t.Helper()
	list, g := madeProducts(count)
	for _, text := range libraryTexts() {
		list = append(list, impl.ProductRead(text).Product)
	}
	var cases []doneCase
	counts := map[int64]int{}
	for i, p := range list {
		if other := g.altered(p); impl.ProductCheck(other) == (impl.CheckOut{}) {
			p = other
		}
		p.Basis = 1 + int64(i%3)
		for _, hook := range hookList() {
			for turn := range 12 {
				e := g.envFor(p, turn%4 < 3)
				want := meanOf(p, hook, e)
				counts[want.Code]++
				cases = append(cases, doneCase{p, hook, e, want})
			}
		}
	}
	for _, code := range []int64{impl.OK, impl.ErrGas, impl.ErrReject, impl.ErrRange, impl.ErrTime} {
		if counts[code] < count/8 {
			t.Errorf("%d hooks end with code %d: too few", counts[code], code)
		}
	}
	return cases
}
