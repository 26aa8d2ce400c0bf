package tests

import (
	"slices"
	"strconv"
	"strings"
	"testing"

	"loop.example/g00221/impl"
)

// checkEachGas: with each amount of gas that there is.
func checkEachGas(t *testing.T, c vmPiece, m impl.Module) {
	t.Helper()
	e := codedEnv()
	for e.Gas = range int64(impl.MaxGas + 1) {
		checkVm(t, c.code, m, e, c.outcome(e.Gas))
	}
}

func TestVmGas(t *testing.T) {
	checkPieces(t, []vmPiece{
		{code: "end"}, {code: "gas; end", cost: 1}, {code: "gas; gas; gas; end", cost: 3}, {code: "gas; reject 4", cost: 1, end: impl.ErrReject, reject: 4},
		{code: "gas; push -1; post 0 1; end", cost: 1, end: impl.ErrRange}, {code: "push -1; post 0 1; gas; gas; end", end: impl.ErrRange}, {code: "end; gas"},
		{code: "gas; today; next; gas; end", cost: 1, end: impl.ErrTime}, {code: "push 5; post 0 1; gas; push 6; post 0 1; gas; end", cost: 2, acts: "0 1 5 0 1 6"},
	})
	for _, count := range []int64{1, 99, 100, 101, 1998, 1999} {
		m := coded("end")
		m.Code = append(endless(int(count)), insIn("end")...)
		checkEachGas(t, vmPiece{code: "gas alone", cost: count}, m)
	}
	// Nothing but gas costs any.
	m := coded("end")
	var list []impl.Ins
	for len(list) < 1980 {
		list = append(list, insIn("push 5; param 0; add; load 3; sub; bal 1; mul; store 4; today; since; less; not; count; or; amount; same; store 5; gas")...)
		list[len(list)-1] = impl.Ins{Op: opNamed("jump"), A: int64(len(list))}
	}
	m.Code = append(list, insIn("end")...)
	checkEachGas(t, vmPiece{code: "no gas at all"}, m)
}

// A call of instalment costs a hundred, ahead of what it does; other calls cost nothing.
func TestVmGasOfInstalments(t *testing.T) {
	start := "; push " + strconv.FormatInt(dayAt(2026, 1, 31), 10) + "; call 2; "
	right, wrong := "push 1000000; push 50000; push 12"+start, "push 1000000; push 50000; push 61"+start
	cases := []vmPiece{
		{code: right + "store 0; end", cost: 100}, {code: right + "post 0 1; end", cost: 100, acts: "0 1 85592"}, {code: "gas; " + right + "store 0; end", cost: 101},
		{code: right + "gas; end", cost: 101}, {code: wrong + "end", cost: 100, end: impl.ErrRange}, {code: right + wrong + "end", cost: 200, end: impl.ErrRange},
		{code: wrong + right + "end", cost: 100, end: impl.ErrRange}, {code: "push -1; post 0 1; " + right + "end", end: impl.ErrRange},
		{code: strings.Repeat(right+"store 0; ", 20) + "end", cost: 2000}, {code: strings.Repeat(right+"store 0; ", 21) + "end", cost: 2100},
		{code: strings.Repeat(right+"store 0; ", 19) + "gas; " + right + "end", cost: 2001},
	}
	checkPieces(t, cases)
	for _, c := range cases[:7] {
		checkEachGas(t, c, pieceModule(c.code))
	}
	others := "push 1; push 1; push 1; push 1; call 1; store 0; push 1; push 1; call 3; store 0; push 1; push 1; call 4; store 0; push 1; push 1; call 5; store 0; " +
		"push 1; push 1; call 6; store 0; push 1; push 1; call 7; store 0; end"
	checkPieces(t, []vmPiece{{code: others}, {code: "push -1; push 0; push 0; push 0; call 1; end", end: impl.ErrRange}})
}

// A jz goes on at its A, if it took 0, and nowhere else, whatever number it took.
func TestVmOfJz(t *testing.T) {
	var cases []vmPiece
	for _, n := range []string{"1", "-1", "2", "7", "256", "4294967296", "-4294967296", "1000000000000", "-1000000000000"} {
		cases = append(cases,
			vmPiece{code: "push " + n + "; jz A; push 5; post 0 1; end; A: push 6; post 0 1; end", acts: "0 1 5"},
			// To a place behind, which costs nothing where it is not gone to.
			vmPiece{code: "push 3; post 1 2; B: push " + n + "; jz B; end", acts: "1 2 3"},
			vmPiece{code: "push " + n + "; jz 0; gas; end", cost: 1})
	}
	cases = append(cases,
		vmPiece{code: "push 0; jz A; push 5; post 0 1; end; A: push 6; post 0 1; end", acts: "0 1 6"},
		vmPiece{code: "push 0; jz A; A: push 6; post 0 1; end", acts: "0 1 6"}, vmPiece{code: "push 0; jz A; gas; A: end"}, vmPiece{code: "push 1; jz A; gas; A: end", cost: 1},
		vmPiece{code: "load 0; jz A; reject 1; A: end"}, vmPiece{code: "push 5; push 0; jz A; reject 1; A: post 0 1; end", acts: "0 1 5"},
		// Back, as long as 0 is taken.
		vmPiece{code: "push 0; jz 0; end", cost: 2001},
		vmPiece{code: "L: load 0; push 1; add; store 0; push 3; load 0; atmost; jz L; load 0; post 0 1; end", cost: 2, acts: "0 1 3"},
		vmPiece{code: "L: load 0; push 1; add; store 0; gas; push 4; load 0; same; jz L; load 0; post 0 1; end", cost: 7, acts: "0 1 4"},
		// To its own place a jz can go nowhere but where it is not reached.
		vmPiece{code: "push 0; jz 1; end", end: impl.ErrForm}, vmPiece{code: "push 0; push 0; jz 2; end", end: impl.ErrForm}, vmPiece{code: "end; jz 1"})
	checkPieces(t, cases)
}

// A jump to its own place or to one behind costs gas, one ahead costs none.
func TestVmOfJumps(t *testing.T) {
	checkPieces(t, []vmPiece{
		{code: "jump A; reject 1; A: end"}, {code: "jump A; A: end"}, {code: "jump A; B: push 5; post 0 1; end; A: jump B", cost: 1, acts: "0 1 5"},
		{code: "jump A; B: jump C; A: jump B; C: end", cost: 1}, {code: "jump C; A: jump D; B: jump A; C: jump B; D: end", cost: 2},
		{code: "jump 0", cost: 2001}, {code: "gas; jump 1", cost: 2001}, {code: "gas; jump 0", cost: 2001}, {code: "jump 1; jump 0", cost: 2001}, {code: "end; jump 0"},
		{code: "push 5; post 0 1; jump 2", cost: 2001}, {code: "push 0; post 0 1; jump 0", cost: 20, end: impl.ErrFull},
		// As a KRepeat's code has it: each round costs one, at its end.
		{code: "push 3; store 40; L: push 0; load 40; less; jz B; load 40; push 1; sub; store 40; jump L; B: end", cost: 3},
		{code: "push 0; store 40; L: push 0; load 40; less; jz B; load 40; push 1; sub; store 40; jump L; B: end"},
		{code: "push 2000; store 40; L: push 0; load 40; less; jz B; load 40; push 1; sub; store 40; jump L; B: end", cost: 2000},
		{code: "push 2001; store 40; L: push 0; load 40; less; jz B; load 40; push 1; sub; store 40; jump L; B: end", cost: 2001},
		{code: "push 3; store 40; L: push 0; load 40; less; jz B; gas; push 2; post 0 1; load 40; push 1; sub; store 40; jump L; B: push 1; post 0 1; end", cost: 6,
			acts: "0 1 2 0 1 2 0 1 2 0 1 1"},
		{code: "push 1000000000000; store 40; L: push 0; load 40; less; jz B; load 40; push 1; sub; store 40; jump L; B: end", cost: 2001},
	})
	e := codedEnv()
	for _, code := range []string{"jump 0", "gas; jump 0", "push 0; jz 0; end"} {
		for e.Gas = range int64(impl.MaxGas + 1) {
			checkVm(t, code, pieceModule(code), e, impl.VmOut{Code: impl.ErrGas})
		}
	}
}

// Code of the most instructions, with ways through it that are as long as may be.
func TestVmOfLongCode(t *testing.T) {
	e, m := codedEnv(), coded("end")
	// Ahead from place to place, which costs nothing.
	var ahead []impl.Ins
	for at := range int64(1999) {
		ahead = append(ahead, impl.Ins{Op: opNamed("jump"), A: at + 1})
	}
	m.Code = append(slices.Clone(ahead), insIn("end")...)
	checkEachGas(t, vmPiece{code: "jumps ahead"}, m)
	// To the last place, and back from place to place.
	back := []impl.Ins{{Op: opNamed("jump"), A: 1999}, {Op: opNamed("end")}}
	for at := int64(2); at < 2000; at++ {
		back = append(back, impl.Ins{Op: opNamed("jump"), A: at - 1})
	}
	m.Code = back
	checkEachGas(t, vmPiece{code: "jumps back", cost: 1998}, m)
	// All that is ahead over and over: a way back is all that costs.
	m.Code = append(ahead[:1999:1999], impl.Ins{Op: opNamed("jump")})
	checkVm(t, "the longest way", m, e, impl.VmOut{Code: impl.ErrGas})
	m.Code = nil
	for len(m.Code) < 1995 {
		m.Code = append(m.Code, insIn("push 1000000; push 50000; since; today; call 1; store 0; today; push 1; call 3; store 1")...)
	}
	m.Code = append(m.Code[:1990], impl.Ins{Op: opNamed("jump")})
	m.Basis = 3
	checkVm(t, "the longest way of calls", m, e, impl.VmOut{Code: impl.ErrGas})
	m.Code = append(slices.Repeat(insIn("push 0; post 0 1"), 999), insIn("gas; end")...)
	checkVm(t, "more posts than may be", m, e, impl.VmOut{Code: impl.ErrFull})
	m.Code = append(slices.Repeat(insIn("push 36524; next"), 999), insIn("gas; end")...)
	checkVm(t, "many days", m, e, impl.VmOut{Next: 36524, Gas: 1999})
	m.Code = append(endless(2000), insIn("end")...)
	checkVm(t, "an instruction too many", m, e, impl.VmOut{Code: impl.ErrForm})
}

// Code that is not right is done by no machine, whatever it would come to.
func TestVmOfWrongCode(t *testing.T) {
	form := impl.VmOut{Code: impl.ErrForm}
	for _, m := range wrongModules() {
		checkVm(t, "a wrong module", m, fittedEnv(m), form)
	}
	for _, code := range []string{"gas", "push 5; post 0 1", "add; end", "store 0; end", "jump 2; end", "push 1; jz 5; end", "end; load 50", "end; end 1", "end; end 0 1", "post 0 1; end",
		"push 1; post 7 0; end", "push 1; post 0 7; end", "push 1; post -1 0; end", "reject 0", "reject 100", "call 5; end", "push 1; call 5; end", "push 1; push 1; call 8; end",
		"push 1; push 1; call 0; end", "param 5; end", "bal 3; end", "load -1; end", "push 1000000000001; end", strings.Repeat("push 1; ", 61) + "end"} {
		checkVm(t, code, pieceModule(code), codedEnv(), form)
		checkVm(t, code, pieceModule(code), impl.Env{}, form)
	}
	for _, i := range []impl.Ins{{}, {Op: 27}, {Op: -1}, {Op: 1 << 32}, {Op: 1<<32 + 26}} {
		m := coded("end")
		m.Code[0] = i
		checkVm(t, "no op", m, codedEnv(), form)
	}
	checkVm(t, "the zero module", impl.Module{}, impl.Env{}, form)
}

// By the tests' own way, of made modules and of others: promise 21 of all that is right.
func TestVmOfMadeModules(t *testing.T) {
	for _, c := range vmCases(t, 1200) {
		checkVm(t, c.vmText(), c.m, c.e, c.want)
		checkVmBounds(t, c.m, c.e)
		if t.Failed() {
			return
		}
	}
}

// Promise 21: right code, whatever it is, ends, with acts of its own spots alone, and no more gas than it was given.
func checkVmBounds(t *testing.T, m impl.Module, e impl.Env) {
	t.Helper()
	got := impl.VmRun(m, e)
	if got.Code != impl.OK {
		if len(got.Acts) != 0 || got.Next != 0 || got.Gas != 0 || (got.Code == impl.ErrReject) != (got.Reject != 0) {
			t.Errorf("beside code %d: %+v", got.Code, got)
		}
		return
	}
	if got.Gas < 0 || got.Gas > e.Gas || got.Reject != 0 || len(got.Acts) > impl.MaxLegs || got.Next != 0 && got.Next <= e.Today {
		t.Errorf("with gas %d: %+v", e.Gas, got)
	}
	for _, a := range got.Acts {
		if a.From < 0 || a.From >= m.Spots || a.To < 0 || a.To >= m.Spots || a.Amount < 0 || a.Amount > impl.MaxMoney {
			t.Errorf("%+v is no act of a module of %d spots", a, m.Spots)
		}
	}
}

// With each amount of gas: no less is told than with more, but that it was not enough.
func TestVmOfMadeModulesByGas(t *testing.T) {
	count := 0
	for _, c := range vmCases(t, 400) {
		if c.want.Code == impl.ErrForm || c.want.Code == impl.ErrGas {
			continue
		}
		ended := false
		for c.e.Gas = range int64(120) {
			got := impl.VmRun(c.m, c.e)
			if ended && got.Code == impl.ErrGas || got.Code != impl.ErrGas && got.Code != c.want.Code {
				t.Fatalf("with gas %d: %+v, not as %+v: %s", c.e.Gas, got, c.want, c.vmText())
			}
			ended = got.Code != impl.ErrGas
		}
		count += int(numOf(ended))
	}
	if count < 200 {
		t.Errorf("%d codes end otherwise than by their gas: too few", count)
	}
}
