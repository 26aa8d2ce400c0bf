package tests

import (
	"slices"
	"strconv"
	"strings"
	"testing"

	"loop.example/g00221/impl"
)

// vmPiece: code of a module of coded, as markedIns has it, the gas that is paid up to its end, and what it comes to.
type vmPiece struct {
	code   string
	cost   int64
	acts   string
	next   int64
	end    int64
	reject int64
}

// outcome: what is told of it, if so much gas is there.
func (c vmPiece) outcome(gas int64) impl.VmOut {
	switch {
	case gas < c.cost:
		return impl.VmOut{Code: impl.ErrGas}
	case c.end != impl.OK:
		return impl.VmOut{Reject: c.reject, Code: c.end}
	}
	return impl.VmOut{Acts: actsAt(c.acts), Next: c.next, Gas: gas - c.cost}
}

// pieceModule: of coded's sizes.
func pieceModule(code string) impl.Module {
	m := coded("end")
	m.Code = markedIns(code)
	return m
}

// checkPieces: with all gas, with just enough, one more, and with less, down to none.
func checkPieces(t *testing.T, cases []vmPiece) {
	t.Helper()
	for _, c := range cases {
		checkPiece(t, c, pieceModule(c.code), codedEnv())
	}
}

// checkPiece: of one module and one Env, whatever its Gas is.
func checkPiece(t *testing.T, c vmPiece, m impl.Module, e impl.Env) {
	t.Helper()
	amounts := []int64{impl.MaxGas, impl.MaxGas - 1, c.cost + 1, c.cost, c.cost - 1, c.cost - 2, c.cost - 99, c.cost - 100, c.cost - 101, c.cost / 2, 3, 2, 1, 0}
	for _, e.Gas = range amounts {
		if e.Gas >= 0 && e.Gas <= impl.MaxGas {
			checkVm(t, c.code, m, e, c.outcome(e.Gas))
		}
	}
}

// shownCode: code that puts one value, and behind it what posts that from 0 to 1, or its magnitude from 1 to 0, if it is below nought.
func shownCode(code string) string {
	return code + "; store 25; load 25; push 0; less; jz up; push 0; load 25; sub; post 1 0; end; up: load 25; post 0 1; end"
}

// shownActs: what that comes to.
func shownActs(n int64) []impl.VmAct {
	if n < 0 {
		return []impl.VmAct{{From: 1, To: 0, Amount: -n}}
	}
	return []impl.VmAct{{From: 0, To: 1, Amount: n}}
}

// checkShown: does the code put that value, or is it refused with ErrRange, once so much gas is paid?
func checkShown(t *testing.T, code string, m impl.Module, e impl.Env, cost int64, want impl.MoneyOut) {
	t.Helper()
	m.Code = markedIns(shownCode(code))
	out := impl.VmOut{Acts: shownActs(want.N), Gas: e.Gas - cost}
	if want.Code != impl.OK {
		out = impl.VmOut{Code: impl.ErrRange}
	}
	checkVm(t, code, m, e, out)
}

// pushes: of these numbers, the first one first, each with a semicolon behind it.
func pushes(nums ...int64) string {
	text := ""
	for _, n := range nums {
		text += "push " + strconv.FormatInt(n, 10) + "; "
	}
	return text
}

func TestVmOfPushes(t *testing.T) {
	for _, n := range append(edgeMoney(), someMoney(50)...) {
		checkShown(t, strings.TrimSuffix(pushes(n), "; "), coded("end"), codedEnv(), 0, money(n))
	}
	// The value that was put last is the one that is taken.
	checkPieces(t, []vmPiece{
		{code: "push 3; push 4; push 5; post 0 1; post 0 1; post 0 1; end", acts: "0 1 5 0 1 4 0 1 3"},
		{code: "push 3; push 4; post 0 1; push 5; post 0 1; post 0 1; end", acts: "0 1 4 0 1 5 0 1 3"},
		{code: strings.Repeat("push 7; ", 59) + "push 8; " + strings.Repeat("add; ", 59) + "post 0 1; end", acts: "0 1 421"},
		{code: "push 1; push 2; push 4; push 8; store 0; store 1; post 0 1; load 1; post 0 1; end", acts: "0 1 2 0 1 4"},
	})
}

// Each local keeps what was stored there last, and nothing else changes it; one that nothing was stored in has 0.
func TestVmOfLocals(t *testing.T) {
	m, e := coded("end"), codedEnv()
	for stored := range 50 {
		for loaded := range 50 {
			code := "push 7; store " + strconv.Itoa(stored) + "; load " + strconv.Itoa(loaded)
			checkShown(t, code, m, e, 0, money(7*numOf(stored == loaded)))
		}
		at := strconv.Itoa(stored)
		checkShown(t, "load "+at, m, e, 0, money(0))
		checkShown(t, "push 7; store "+at+"; push -8; store "+at+"; load "+at+"; load "+at+"; add", m, e, 0, money(-16))
	}
	// All of them at once, stored up and down.
	var up, down []string
	sum := int64(0)
	for at := range int64(50) {
		text := strconv.FormatInt(at, 10)
		up, down = append(up, pushes(1000+at*at)+"store "+text), append(down, "load "+text+"; push "+text+"; mul; add")
		sum += (1000 + at*at) * at
	}
	checkShown(t, strings.Join(up, "; ")+"; push 0; "+strings.Join(down, "; "), m, e, 0, money(sum))
	slices.Reverse(up)
	checkShown(t, strings.Join(up, "; ")+"; push 0; "+strings.Join(down, "; "), m, e, 0, money(sum))
}

// Params and balances by their numbers, with as many of each as may be; a balance is what it was at first.
func TestVmOfParamsAndBalances(t *testing.T) {
	m := impl.Module{Basis: 3, Slots: 6, Spots: 10, Params: 8}
	const max = impl.MaxMoney
	e := impl.Env{Params: []int64{max, -max, 0, 1, -1, 36525, 1000001, 7}, Balances: []int64{-max, max, 0, -1, 1, 777}, Gas: 9}
	for i, n := range e.Params {
		checkShown(t, "param "+strconv.Itoa(i), m, e, 0, money(n))
	}
	for i, n := range e.Balances {
		checkShown(t, "bal "+strconv.Itoa(i), m, e, 0, money(n))
	}
	checkPieces(t, []vmPiece{
		{code: "bal 0; post 0 1; bal 0; post 1 0; bal 0; post 2 0; end", acts: "0 1 100000 1 0 100000 2 0 100000"},
		{code: "push 5; post 0 1; bal 1; post 1 1; end", acts: "0 1 5 1 1 2500"},
	})
}

func TestVmOfTheDay(t *testing.T) {
	m := coded("end")
	for _, n := range []int64{0, 1, 59, 36523, 36524} {
		e := codedEnvWith(func(e *impl.Env) { e.Today, e.Since = n, n/2 })
		checkShown(t, "today", m, e, 0, money(n))
		checkShown(t, "since", m, e, 0, money(n/2))
	}
	for _, n := range []int64{0, 1, 999, 1000} {
		checkShown(t, "count", m, codedEnvWith(func(e *impl.Env) { e.Count = n }), 0, money(n))
	}
	for _, n := range []int64{0, 1, impl.MaxMoney - 1, impl.MaxMoney} {
		checkShown(t, "amount", m, codedEnvWith(func(e *impl.Env) { e.Amount = n }), 0, money(n))
	}
	checkPieces(t, []vmPiece{{code: "today; since; sub; post 0 1; count; post 0 1; amount; post 0 1; end", acts: "0 1 31 0 1 3 0 1 4000"}})
}

// Of two values taken the one that was put first is the left one.
func TestVmOfOperators(t *testing.T) {
	m, e := coded("end"), codedEnv()
	cases := []struct {
		code string
		want int64
	}{
		{"push 7; push 5; add", 12}, {"push 7; push 5; sub", 2}, {"push 5; push 7; sub", -2}, {"push 7; push 5; mul", 35}, {"push 7; push -5; mul", -35},
		{"push 5; push 7; less", 1}, {"push 7; push 5; less", 0}, {"push 7; push 7; less", 0}, {"push 5; push 7; atmost", 1}, {"push 7; push 5; atmost", 0},
		{"push 7; push 7; atmost", 1}, {"push 7; push 7; same", 1}, {"push 7; push 5; same", 0}, {"push 1; push 1; and", 1}, {"push 1; push 0; and", 0},
		{"push 0; push 1; and", 0}, {"push 0; push 0; and", 0}, {"push 1; push 1; or", 1}, {"push 1; push 0; or", 1}, {"push 0; push 1; or", 1}, {"push 0; push 0; or", 0},
		// Numbers that are no bools.
		{"push 2; push 2; and", 0}, {"push 2; push 1; and", 0}, {"push -1; push -1; and", 0}, {"push 2; push 2; or", 0}, {"push 2; push 1; or", 1}, {"push 1; push -1; or", 1},
		{"push 9; push 7; push 5; sub; sub", 7}, {"push 9; push 7; sub; push 5; sub", -3}, {"push 1; push 2; push 3; less; less", 0},
		{"push 0; not", 1}, {"push 1; not", 0}, {"push 2; not", 0}, {"push -1; not", 0}, {"push 1000000000000; not", 0}, {"push -1000000000000; not", 0},
		{"push 5; not; not", 1}, {"push 0; not; not", 0}, {"push 256; not", 0}, {"push 4294967296; not", 0},
	}
	for _, c := range cases {
		checkShown(t, c.code, m, e, 0, money(c.want))
	}
}

// At the bounds of what they take, and where they are refused; nothing of it costs gas.
func TestVmOfOperatorsOfAllSizes(t *testing.T) {
	m, e := coded("end"), codedEnv()
	e.Gas = 0
	refusedOnes := map[string]int{}
	for i, text := range operatorList() {
		name := opRow(opNamed("add") + int64(i))[0]
		for _, a := range edgeMoney() {
			for _, b := range edgeMoney() {
				want := opValueOf(text, a, b)
				refusedOnes[text] += int(want.Code)
				checkShown(t, pushes(a, b)+name, m, e, 0, want)
			}
		}
	}
	for _, text := range []string{"+", "-", "*"} {
		if refusedOnes[text] == 0 {
			t.Errorf("%s is never refused", text)
		}
	}
	if len(refusedOnes) != 8 || opRow(18)[0] != "or" {
		t.Error("an operator has no op")
	}
	checkPieces(t, []vmPiece{
		{code: "push 1000000000000; push 1; add; end", end: impl.ErrRange}, {code: "push -1000000000000; push 1; sub; end", end: impl.ErrRange},
		{code: "push 1000001; push 1000000; mul; end", end: impl.ErrRange}, {code: "push 1000000; push 1000000; mul; end"},
		{code: "push 5; post 0 1; push 1000000000000; push 1; add; reject 3", end: impl.ErrRange},
	})
}

func TestVmOfFunctions(t *testing.T) {
	start, feb := dayAt(2026, 1, 31), dayAt(2026, 2, 28)
	e := codedEnv()
	cases := []struct {
		basis int64
		args  []int64
		call  string
		cost  int64
		want  impl.MoneyOut
	}{
		{1, []int64{1000000, 50000, start, feb}, "call 1", 0, money(3836)}, {2, []int64{1000000, 50000, start, feb}, "call 1", 0, money(3889)},
		{3, []int64{1000000, 50000, start, dayAt(2026, 3, 31)}, "call 1", 0, money(8333)}, {1, []int64{1000000, 50000, feb, start}, "call 1", 0, refused(1)},
		{1, []int64{-1, 50000, start, feb}, "call 1", 0, refused(1)}, {1, []int64{impl.MaxMoney, 1000000, 0, 366}, "call 1", 0, refused(1)},
		{1, []int64{impl.MaxMoney, 1000000, 0, 365}, "call 1", 0, money(impl.MaxMoney)},
		{1, []int64{1000000, 50000, 12, start}, "call 2", 100, money(85592)}, {3, []int64{1, 0, 1, 0}, "call 2", 100, money(1)},
		{2, []int64{10000000000, 500000, 1, 0}, "call 2", 100, money(10430555556)}, {1, []int64{0, 50000, 12, start}, "call 2", 100, refused(1)},
		{1, []int64{1000000, 50000, start, 12}, "call 2", 100, refused(1)}, {1, []int64{1000000, 50000, 61, start}, "call 2", 100, refused(1)},
		{1, []int64{start, 1}, "call 3", 0, money(feb)}, {1, []int64{1, start}, "call 3", 0, refused(1)}, {2, []int64{feb, -1}, "call 3", 0, money(dayAt(2026, 1, 28))},
		{1, []int64{36525, 1}, "call 3", 0, refused(1)}, {1, []int64{0, -1}, "call 3", 0, refused(1)}, {1, []int64{0, 1199}, "call 3", 0, money(dayAt(2099, 12, 1))},
		{1, []int64{start, feb}, "call 4", 0, money(28)}, {1, []int64{feb, start}, "call 4", 0, money(-28)}, {1, []int64{36525, 0}, "call 4", 0, refused(1)},
		{1, []int64{5, 7}, "call 5", 0, money(5)}, {1, []int64{7, -5}, "call 5", 0, money(-5)}, {1, []int64{5, 7}, "call 6", 0, money(7)}, {1, []int64{-7, -5}, "call 6", 0, money(-5)},
		{1, []int64{1000050, 52500}, "call 7", 0, money(52503)}, {1, []int64{52500, 1000050}, "call 7", 0, refused(1)}, {1, []int64{-1000050, 52500}, "call 7", 0, money(-52503)},
		{1, []int64{impl.MaxMoney, 1000000}, "call 7", 0, money(impl.MaxMoney)}, {1, []int64{5, -1}, "call 7", 0, refused(1)},
	}
	for _, c := range cases {
		m := coded("end")
		m.Basis = c.basis
		checkShown(t, pushes(c.args...)+c.call, m, e, c.cost, c.want)
		// What stands below the args stays.
		if c.want.Code == impl.OK {
			checkShown(t, "push 77; "+pushes(c.args...)+c.call+"; store 3", m, e, c.cost, money(77))
		}
	}
}

// Each function at args of all sizes and types, most of which it refuses.
func TestVmOfFunctionsOfWhatever(t *testing.T) {
	g := &maker{nums: someNums(30011)}
	for i, name := range functionList() {
		types := typesIn(callTable()[name])[1:]
		counts := map[bool]int{}
		for range 400 {
			var args []int64
			for _, kind := range types {
				low, high := bounds(kind)
				if g.below(12) == 0 {
					low, high = max(-impl.MaxMoney, low-1), min(impl.MaxMoney, high+1)
				}
				n := g.within(low, high)
				if kind < impl.TypeRate && g.below(2) == 0 {
					n = g.below(100)
				}
				args = append(args, n)
			}
			m, cost := coded("end"), 100*numOf(name == "instalment")
			m.Basis = 1 + g.below(3)
			want := callValueOf(m.Basis, name, slices.Clone(args))
			counts[want.Code == impl.OK]++
			checkShown(t, pushes(args...)+"call "+strconv.Itoa(i+1), m, codedEnv(), cost, want)
		}
		if counts[true] < 5 || counts[false] < 5 && name != "least" && name != "most" {
			t.Errorf("%s is refused %d times, and %d times it is not: too few", name, counts[false], counts[true])
		}
	}
}

func TestVmOfPosts(t *testing.T) {
	twenty := strings.Repeat("push 1; post 0 1; ", impl.MaxLegs)
	acts := strings.Repeat("0 1 1 ", impl.MaxLegs)
	checkPieces(t, []vmPiece{
		// All that is there, one more, nothing, and less than nothing; also of a balance that is below nought.
		{code: "bal 0; post 0 1; end", acts: "0 1 100000"}, {code: "bal 0; push 1; add; post 0 1; end", acts: "0 1 100001"}, {code: "push 0; post 0 1; end", acts: "0 1 0"},
		{code: "push -1; post 0 1; end", end: impl.ErrRange}, {code: "push -1000000000000; post 0 1; end", end: impl.ErrRange}, {code: "bal 2; post 2 0; end", end: impl.ErrRange},
		{code: "push 1; post 2 0; end", acts: "2 0 1"}, {code: "push 1000000000000; post 0 1; end", acts: "0 1 1000000000000"},
		{code: "push 5; post 0 1; push -1; post 1 0; end", end: impl.ErrRange},
		{code: twenty + "end", acts: acts}, {code: twenty + "push 1; post 0 1; end", end: impl.ErrFull}, {code: twenty + "push 0; post 6 6; end", end: impl.ErrFull},
		{code: strings.Repeat("push 0; post 0 1; ", 20) + "end", acts: strings.Repeat("0 1 0 ", 20)}, {code: strings.Repeat("push 0; post 0 1; ", 21) + "end", end: impl.ErrFull},
		// ErrRange is named ahead of ErrFull, and what is ahead of the post ahead of both.
		{code: twenty + "push -1; post 0 1; end", end: impl.ErrRange}, {code: twenty + "reject 7", end: impl.ErrReject, reject: 7},
		{code: twenty + "push 0; next; push 1; post 0 1; end", end: impl.ErrTime}, {code: twenty + "gas; gas; push 1; post 0 1; end", cost: 2, end: impl.ErrFull},
		{code: twenty + "push 1; store 0; end", acts: acts},
		// By a loop.
		{code: "push 20; store 0; L: push 3; post 4 5; load 0; push 1; sub; store 0; load 0; not; jz L; end", cost: 19, acts: strings.Repeat("4 5 3 ", 20)},
		{code: "push 21; store 0; L: push 3; post 4 5; load 0; push 1; sub; store 0; load 0; not; jz L; end", cost: 20, end: impl.ErrFull},
	})
	// From each spot to each spot: slots and contras alike.
	for from := range int64(7) {
		for to := range int64(7) {
			spots := strconv.FormatInt(from, 10) + " " + strconv.FormatInt(to, 10)
			checkPieces(t, []vmPiece{{code: "push 8; post " + spots + "; end", acts: spots + " 8"}})
		}
	}
	m := impl.Module{Basis: 1, Slots: 6, Spots: 10, Code: insIn("push 8; post 9 9; push 9; post 9 0; push 10; post 0 9; end")}
	checkVm(t, "the last spot", m, impl.Env{Balances: make([]int64, 6)}, impl.VmOut{Acts: actsAt("9 9 8 9 0 9 0 9 10")})
	m = impl.Module{Basis: 1, Slots: 1, Spots: 1, Code: insIn("push 8; post 0 0; end")}
	checkVm(t, "one spot", m, impl.Env{Balances: make([]int64, 1)}, impl.VmOut{Acts: actsAt("0 0 8")})
}

func TestVmOfNext(t *testing.T) {
	today := codedEnv().Today
	day := func(n int64) string { return strconv.FormatInt(today+n, 10) }
	checkPieces(t, []vmPiece{
		{code: "push " + day(1) + "; next; end", next: today + 1}, {code: "push " + day(0) + "; next; end", end: impl.ErrTime}, {code: "push " + day(-1) + "; next; end", end: impl.ErrTime},
		{code: "today; next; end", end: impl.ErrTime}, {code: "since; next; end", end: impl.ErrTime}, {code: "push 0; next; end", end: impl.ErrTime},
		{code: "push -1; next; end", end: impl.ErrTime}, {code: "push -1000000000000; next; end", end: impl.ErrTime}, {code: "push 36524; next; end", next: 36524},
		{code: "today; push 4; call 3; next; end", next: dayAt(2026, 7, 31)},
		// The last one of several holds, whichever is the later day.
		{code: "push 36524; next; push " + day(1) + "; next; end", next: today + 1}, {code: "push " + day(1) + "; next; push 36524; next; end", next: 36524},
		{code: "push 36524; next; push 36524; next; end", next: 36524}, {code: "push 36524; next; today; next; end", end: impl.ErrTime},
		{code: "today; next; push 36524; next; end", end: impl.ErrTime}, {code: "push 5; post 0 1; push 36524; next; push 6; post 1 0; end", acts: "0 1 5 1 0 6", next: 36524},
		// A number that is no day is to come, too.
		{code: "push 36525; next; end", next: 36525}, {code: "push 1000000000000; next; end", next: 1000000000000},
	})
	for _, n := range []int64{0, 1, 36523, 36524} {
		e := codedEnvWith(func(e *impl.Env) { e.Today, e.Since = n, 0 })
		checkPiece(t, vmPiece{code: "next", next: n + 1}, pieceModule("today; push 1; add; next; end"), e)
		checkPiece(t, vmPiece{code: "next", end: impl.ErrTime}, pieceModule("today; next; end"), e)
		checkPiece(t, vmPiece{code: "next", end: impl.ErrTime}, pieceModule("today; push 1; sub; next; end"), e)
	}
}

// Each number that there is; nothing is told beside it.
func TestVmOfRejects(t *testing.T) {
	for n := int64(1); n <= 99; n++ {
		text := "reject " + strconv.FormatInt(n, 10)
		checkPieces(t, []vmPiece{
			{code: text, end: impl.ErrReject, reject: n}, {code: "gas; push 5; post 0 1; push 36524; next; push 7; " + text + "; end", cost: 1, end: impl.ErrReject, reject: n},
			{code: text + "; reject 50", end: impl.ErrReject, reject: n},
		})
	}
	checkPieces(t, []vmPiece{
		{code: "push 0; jz R; reject 1; R: reject 2", end: impl.ErrReject, reject: 2}, {code: "push 1; jz R; reject 1; R: reject 2", end: impl.ErrReject, reject: 1},
		{code: "push 1; jz R; end; R: reject 2"}, {code: "end; reject 9"},
	})
}

func TestVmOfEnds(t *testing.T) {
	checkPieces(t, []vmPiece{
		{code: "end"}, {code: "end; gas; reject 1"}, {code: "push 1; push 2; end"}, {code: strings.Repeat("push 5; ", 60) + "end"},
		{code: "push 5; post 0 1; push 7; end", acts: "0 1 5"}, {code: "push 36524; next; push 7; end; push 1; post 0 0; end", next: 36524},
		{code: "gas; push 1; jz E; push 5; post 0 1; end; E: push 6; post 0 1; end", cost: 1, acts: "0 1 5"},
	})
}

// What is told shares no list with what was handed in, nor with another answer, and nothing stays from one call to the next.
func TestVmIsNew(t *testing.T) {
	m := coded("end")
	m.Code = append(make([]impl.Ins, 0, 50), insIn("load 7; post 0 1; push 9; store 7; load 7; post 6 2; push 36524; next; push 1; end")...)
	e := codedEnv()
	e.Params, e.Balances = append(make([]int64, 0, 9), e.Params...), append(make([]int64, 0, 9), e.Balances...)
	want := impl.VmOut{Acts: actsAt("0 1 0 6 2 9"), Next: 36524, Gas: impl.MaxGas}
	first, second := impl.VmRun(m, e), impl.VmRun(m, e)
	acts := first.Acts[:cap(first.Acts)]
	for i := range acts {
		acts[i] = impl.VmAct{From: 77, To: 77, Amount: 77}
	}
	if !sameVm(second, want) || !sameVm(impl.VmRun(m, e), want) {
		t.Error("what VmRun handed out is shared")
	}
	if m.Code[:50][10] != (impl.Ins{}) || slices.Max(e.Params[5:9]) != 0 || slices.Max(e.Balances[3:9]) != 0 {
		t.Error("room behind what was handed in was used")
	}
	for range 3 {
		checkVm(t, "the same code", m, e, want)
		checkPieces(t, []vmPiece{{code: "load 7; post 0 1; reject 9", end: impl.ErrReject, reject: 9}, {code: "load 7; post 1 1; end", acts: "1 1 0"}, {code: "jump 0", cost: 2001}})
	}
}
