package tests

import (
	"math"
	"slices"
	"strconv"
	"strings"
	"testing"

	"loop.example/g00221/impl"
)

func TestCodeConstants(t *testing.T) {
	if impl.MaxIns != 2000 || impl.MaxStack != 60 || impl.MaxLocals != 50 {
		t.Error("a bound is another one")
	}
}

// opRows: by op its name, what A and B are, what it takes and what it puts, as the document has them; 0 is none.
func opRows() []string {
	return []string{"", "gas - - 0 0", "push number - 0 1", "load local - 0 1", "store local - 1 0", "param param - 0 1", "bal slot - 0 1",
		"today - - 0 1", "since - - 0 1", "count - - 0 1", "amount - - 0 1",
		"add - - 2 1", "sub - - 2 1", "mul - - 2 1", "less - - 2 1", "atmost - - 2 1", "same - - 2 1", "and - - 2 1", "or - - 2 1",
		"not - - 1 1", "call function - 0 1", "jz place - 1 0", "jump place - 0 0", "post spot spot 1 0", "reject reason - 0 0", "next - - 1 0", "end - - 0 0"}
}

// opRow: one of them by its words.
func opRow(op int64) []string {
	return strings.Fields(opRows()[op])
}

// opNamed: the op of that name, from 1 on.
func opNamed(name string) int64 {
	return int64(slices.IndexFunc(opRows(), func(row string) bool { return strings.HasPrefix(row, name+" ") }))
}

// digits: the number of a text that is one.
func digits(text string) int64 {
	n, err := strconv.ParseInt(text, 10, 64)
	if err != nil {
		panic(err)
	}
	return n
}

// takenBy: how many values that instruction takes.
func takenBy(i impl.Ins) int64 {
	if i.Op == opNamed("call") {
		return []int64{0, 4, 4, 2, 2, 2, 2, 2}[i.A]
	}
	return digits(opRow(i.Op)[3])
}

// putBy: how many values that instruction puts.
func putBy(i impl.Ins) int64 {
	return digits(opRow(i.Op)[4])
}

// leavesTo: at which places the instruction of that place goes on.
func leavesTo(i impl.Ins, at int64) []int64 {
	switch opRow(i.Op)[0] {
	case "jump":
		return []int64{i.A}
	case "jz":
		return []int64{at + 1, i.A}
	case "reject", "end":
		return nil
	}
	return []int64{at + 1}
}

// insIn: instructions by their names, A and B, with a semicolon between two.
func insIn(text string) []impl.Ins {
	var list []impl.Ins
	for _, line := range strings.Split(text, ";") {
		words := append(strings.Fields(line), "0", "0")
		list = append(list, impl.Ins{Op: opNamed(words[0]), A: digits(words[1]), B: digits(words[2])})
	}
	return list
}

// coded: a module of those instructions, with so much of all else that A and B have room.
func coded(text string) impl.Module {
	return impl.Module{Basis: 1, Slots: 3, Spots: 7, Params: 5, Code: insIn(text)}
}

// stands: may n be what is told of an A or a B?
func stands(what string, m impl.Module, n int64) bool {
	switch what {
	case "number":
		return n >= -impl.MaxMoney && n <= impl.MaxMoney
	case "local":
		return n >= 0 && n < 50
	case "param":
		return n >= 0 && n < m.Params
	case "slot":
		return n >= 0 && n < m.Slots
	case "function":
		return n >= 1 && n <= 7
	case "place":
		return n >= 0 && n < int64(len(m.Code))
	case "spot":
		return n >= 0 && n < m.Spots
	case "reason":
		return n >= 1 && n <= 99
	}
	return n == 0
}

// holdsIns: is i an instruction for m?
func holdsIns(m impl.Module, i impl.Ins) bool {
	if i.Op < 1 || i.Op > 26 {
		return false
	}
	return stands(opRow(i.Op)[1], m, i.A) && stands(opRow(i.Op)[2], m, i.B)
}

// noOps: numbers that are none of an op, near and far.
func noOps() []int64 {
	list := []int64{0, 27, 28, -1, -2, -26, 100, 127, 128, 256, 257, 1 << 31, 1 << 32, 1<<32 + 1, 1<<62 + 1, -(1 << 32) + 5,
		math.MaxInt64, math.MinInt64, math.MinInt64 + 1, math.MaxInt64 - 25}
	return slices.DeleteFunc(append(list, someNums(200)...), func(n int64) bool { return n >= 1 && n <= 26 })
}

func TestOpName(t *testing.T) {
	if len(opRows()) != 27 {
		t.Fatalf("%d ops are listed", len(opRows())-1)
	}
	for op := int64(1); op <= 26; op++ {
		if got, want := impl.OpName(op), opRow(op)[0]; got != want {
			t.Errorf("op %d is %q, not %q", op, got, want)
		}
	}
	for _, op := range noOps() {
		if got := impl.OpName(op); got != "" {
			t.Errorf("op %d, which is none, is %q", op, got)
		}
	}
}

// Promise 18, of ops: each one has a name of its own.
func TestOpsHaveTheirOwnNames(t *testing.T) {
	seen := map[string]int64{}
	for op := int64(1); op <= 26; op++ {
		name := impl.OpName(op)
		if name == "" || seen[name] != 0 {
			t.Errorf("the name %q of op %d is none, or that of op %d", name, op, seen[name])
		}
		seen[name] = op
	}
}

// operandsFor: numbers at each bound of an A or a B in m, and beyond, near and far.
func operandsFor(m impl.Module) []int64 {
	list := []int64{math.MinInt64, math.MinInt64 + 1, -impl.MaxMoney - 1, -impl.MaxMoney, -impl.MaxMoney + 1, -50, -2, -1, 0, 1, 2, 6, 7, 8,
		48, 49, 50, 51, 98, 99, 100, 400, 1 << 32, 1<<32 + 1, impl.MaxMoney - 1, impl.MaxMoney, impl.MaxMoney + 1, math.MaxInt64 - 1, math.MaxInt64}
	for _, n := range []int64{m.Params, m.Slots, m.Spots, int64(len(m.Code))} {
		list = append(list, n-2, n-1, n, n+1)
	}
	return list
}

// checkIns: is that told of each instruction with such an A and B?
func checkIns(t *testing.T, m impl.Module) {
	t.Helper()
	given := copiedModule(m)
	list := operandsFor(m)
	for op := int64(1); op <= 26; op++ {
		for _, a := range list {
			for _, b := range append(list, a) {
				i := impl.Ins{Op: op, A: a, B: b}
				if got, want := impl.InsRight(m, i), holdsIns(m, i); got != want {
					t.Fatalf("InsRight of %s %d %d is %v, with Slots %d, Spots %d, Params %d and %d places", opRow(op)[0], a, b, got, m.Slots, m.Spots, m.Params, len(m.Code))
				}
			}
		}
	}
	for _, op := range noOps() {
		for _, a := range []int64{0, 1, 2} {
			if impl.InsRight(m, impl.Ins{Op: op, A: a}) {
				t.Fatalf("op %d with A %d is one", op, a)
			}
		}
	}
	if !sameModule(m, given) {
		t.Errorf("the module of %d places was changed", len(m.Code))
	}
}

// endless: so many instructions that do nothing.
func endless(count int) []impl.Ins {
	return slices.Repeat([]impl.Ins{{Op: 1}}, count)
}

func TestInsRight(t *testing.T) {
	for _, m := range []impl.Module{
		coded("end"),
		coded("gas; end"),
		{Basis: 1, Slots: 1, Spots: 1, Code: insIn("end")},
		{Basis: 3, Slots: 6, Spots: 10, Params: 8, Code: append(endless(1999), insIn("end")...)},
		{Basis: 2, Slots: 2, Spots: 6, Params: 1, Code: append(endless(400), insIn("end")...)},
	} {
		if !impl.ModuleRight(m) {
			t.Errorf("the module of %d places is not right", len(m.Code))
		}
		checkIns(t, m)
	}
}

// A and B are looked at with the module's numbers, also where these are such as no right module has.
func TestInsRightInWrongModules(t *testing.T) {
	for _, m := range []impl.Module{
		{},
		{Code: insIn("end")},
		{Basis: 4, Slots: 3, Spots: 2, Params: 1, Code: insIn("gas")},
		{Basis: -1, Slots: -1, Spots: -1, Params: -1, Code: insIn("add; add; add")},
		{Basis: 1, Slots: 7, Spots: 11, Params: 9, Code: endless(2001)},
		{Basis: 1, Slots: 300, Spots: 1000, Params: 70000, Code: endless(5000)},
		{Slots: 1 << 40, Spots: 1 << 50, Params: 1 << 33, Code: []impl.Ins{{Op: 99, A: 4, B: 5}}},
		{Slots: math.MaxInt64, Spots: math.MaxInt64, Params: math.MaxInt64},
		{Slots: math.MinInt64, Spots: math.MinInt64, Params: math.MinInt64},
		{Slots: math.MinInt64 + 1, Spots: -7, Params: math.MinInt64 + 1, Code: endless(10)},
	} {
		if impl.ModuleRight(m) {
			t.Errorf("the module of %d places is right", len(m.Code))
		}
		checkIns(t, m)
	}
}
