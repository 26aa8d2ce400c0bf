package tests

import (
	"slices"
	"strconv"
	"strings"
	"testing"

	"loop.example/g00221/impl"
)

// actsAt: of numbers, From, To and Amount each.
func actsAt(nums string) []impl.VmAct {
	var list []impl.VmAct
	fields := strings.Fields(nums)
	for i := 0; i < len(fields); i += 3 {
		list = append(list, impl.VmAct{From: digits(fields[i]), To: digits(fields[i+1]), Amount: digits(fields[i+2])})
	}
	return list
}

// sameVm: in all fields and lists.
func sameVm(a impl.VmOut, b impl.VmOut) bool {
	return slices.Equal(a.Acts, b.Acts) && a.Next == b.Next && a.Gas == b.Gas && a.Reject == b.Reject && a.Code == b.Code
}

// checkVm: is that what the code comes to, and is what was handed in as it was?
func checkVm(t *testing.T, what string, m impl.Module, e impl.Env, want impl.VmOut) {
	t.Helper()
	module, env := copiedModule(m), copiedEnv(e)
	if got := impl.VmRun(m, e); !sameVm(got, want) {
		t.Errorf("%.300s with gas %d: %+v, not %+v", what, e.Gas, got, want)
	}
	if !sameModule(m, module) || !sameEnv(e, env) {
		t.Errorf("%.300s: what was handed in was changed", what)
	}
}

// vmEnvHolds: is it right for a right module, by the document's words alone?
func vmEnvHolds(m impl.Module, e impl.Env) bool {
	for _, n := range slices.Concat(e.Params, e.Balances) {
		if !isMoney(n) {
			return false
		}
	}
	if int64(len(e.Params)) != m.Params || int64(len(e.Balances)) != m.Slots || !isDay(e.Today) || !isDay(e.Since) || e.Today < e.Since {
		return false
	}
	return e.Count >= 0 && e.Count <= 1000 && e.Amount >= 0 && isMoney(e.Amount) && e.Gas >= 0 && e.Gas <= 2000
}

// machinist does right code by the names of its ops, told apart from the program: gas is added up from nought, and a local is known
// from when something is stored there.
type machinist struct {
	m      impl.Module
	e      impl.Env
	names  []string
	pile   []int64
	locals map[int64]int64
	spent  int64
	out    impl.VmOut
}

// vmOf: what VmRun tells of any module and any Env.
func vmOf(m impl.Module, e impl.Env) (out impl.VmOut) {
	if _, right := moduleHeights(m); !right || !vmEnvHolds(m, e) {
		return impl.VmOut{Code: impl.ErrForm}
	}
	defer func() {
		if x, ended := recover().(ending); ended {
			out = impl.VmOut{Reject: x.reject, Code: x.code}
		}
	}()
	d := &machinist{m: m, e: e, names: []string{""}, locals: map[int64]int64{}}
	for op := int64(1); op <= 26; op++ {
		d.names = append(d.names, opRow(op)[0])
	}
	for at := int64(0); d.names[m.Code[at].Op] != "end"; {
		at = d.follow(at)
	}
	d.out.Gas = e.Gas - d.spent
	return d.out
}

func (d *machinist) endIf(holds bool, code int64) {
	if holds {
		panic(ending{code: code})
	}
}

func (d *machinist) spend(gas int64) {
	d.spent += gas
	d.endIf(d.spent > d.e.Gas, impl.ErrGas)
}

// lift takes so many values off the pile, the lowest one first.
func (d *machinist) lift(count int) []int64 {
	low := len(d.pile) - count
	values := slices.Clone(d.pile[low:])
	d.pile = slices.Clone(d.pile[:low])
	return values
}

// told: what came to be, unless it was refused.
func (d *machinist) told(got impl.MoneyOut) {
	d.endIf(got.Code != impl.OK, impl.ErrRange)
	d.pile = append(d.pile, got.N)
}

// follow tells the place at which the code goes on behind that one.
func (d *machinist) follow(at int64) int64 {
	i := d.m.Code[at]
	switch name := d.names[i.Op]; name {
	case "gas":
		d.spend(1)
	case "store":
		d.locals[i.A] = d.lift(1)[0]
	case "call":
		name := functionList()[i.A-1]
		args := d.lift(len(typesIn(callTable()[name])) - 1)
		if name == "instalment" {
			d.spend(100)
		}
		d.told(callValueOf(d.m.Basis, name, args))
	case "not":
		d.pile = append(d.pile, map[int64]int64{0: 1}[d.lift(1)[0]])
	case "jz", "jump":
		if name == "jz" && d.lift(1)[0] != 0 {
			break
		}
		if at >= i.A {
			d.spend(1)
		}
		return i.A
	case "post", "next", "reject":
		d.say(name, i)
	default:
		d.value(name, i)
	}
	return at + 1
}

// say: an Act, a day, or why not.
func (d *machinist) say(name string, i impl.Ins) {
	if name == "reject" {
		panic(ending{impl.ErrReject, i.A})
	}
	n := d.lift(1)[0]
	if name == "next" {
		d.endIf(n <= d.e.Today, impl.ErrTime)
		d.out.Next = n
		return
	}
	d.endIf(n < 0, impl.ErrRange)
	d.endIf(len(d.out.Acts) == 20, impl.ErrFull)
	d.out.Acts = append(d.out.Acts, impl.VmAct{From: i.A, To: i.B, Amount: n})
}

// value puts that of an op that puts one.
func (d *machinist) value(name string, i impl.Ins) {
	switch name {
	case "push":
		d.pile = append(d.pile, i.A)
	case "load":
		d.pile = append(d.pile, d.locals[i.A])
	case "param":
		d.pile = append(d.pile, d.e.Params[i.A])
	case "bal":
		d.pile = append(d.pile, d.e.Balances[i.A])
	case "today":
		d.pile = append(d.pile, d.e.Today)
	case "since":
		d.pile = append(d.pile, d.e.Since)
	case "count":
		d.pile = append(d.pile, d.e.Count)
	case "amount":
		d.pile = append(d.pile, d.e.Amount)
	default:
		texts := map[string]string{"add": "+", "sub": "-", "mul": "*", "less": "<", "atmost": "<=", "same": "=", "and": "and", "or": "or"}
		values := d.lift(2)
		d.told(opValueOf(texts[name], values[0], values[1]))
	}
}

// vmEnv: a right Env for a right module. A tame one has small numbers.
func (g *coder) vmEnv(m impl.Module, tame bool) impl.Env {
	most := int64(impl.MaxMoney)
	if tame {
		most = 100
	}
	e := impl.Env{Today: g.within(0, min(most, impl.MaxDay)), Count: g.within(0, min(most, impl.MaxCount)), Amount: g.within(0, most), Gas: g.below(150)}
	e.Since = g.within(0, e.Today)
	for range m.Params {
		e.Params = append(e.Params, g.within(-most, most))
	}
	for range m.Slots {
		e.Balances = append(e.Balances, g.within(-most, most))
	}
	return e
}

// tamed: the module with small numbers pushed, so that less is refused.
func tamed(m impl.Module) impl.Module {
	m = copiedModule(m)
	for at, i := range m.Code {
		if i.Op == opNamed("push") {
			m.Code[at].A = i.A % 50
		}
	}
	return m
}

// vmCase: a module and an Env, right or not, with what the tests' own way tells of them.
type vmCase struct {
	m    impl.Module
	e    impl.Env
	want impl.VmOut
}

// vmCases: of made modules, and of others made out of them, that may not be right.
func vmCases(t *testing.T, count int) []vmCase {
	t.Helper()
	list, _, g := madeModules(count)
	var cases []vmCase
	counts := map[int64]int{}
	for n, m := range list {
		for turn := range 6 {
			other := m
			if turn%2 == 0 {
				other = tamed(m)
			}
			if turn == 5 {
				other = g.altered(m)
			}
			e := g.vmEnv(m, turn%2 == 0)
			if n%50 == 0 {
				e.Gas = impl.MaxGas
			}
			want := vmOf(other, e)
			counts[want.Code]++
			cases = append(cases, vmCase{other, e, want})
		}
	}
	for _, code := range []int64{impl.OK, impl.ErrForm, impl.ErrGas, impl.ErrReject, impl.ErrRange, impl.ErrTime} {
		if counts[code] < count/20 {
			t.Errorf("%d codes end with code %d: too few", counts[code], code)
		}
	}
	return cases
}

// vmText: the case in words.
func (c vmCase) vmText() string {
	var lines []string
	for _, i := range c.m.Code {
		lines = append(lines, impl.OpName(i.Op)+" "+strconv.FormatInt(i.A, 10)+" "+strconv.FormatInt(i.B, 10))
	}
	return strings.Join(lines, "; ")
}
