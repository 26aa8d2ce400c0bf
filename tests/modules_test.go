package tests

import (
	"math"
	"slices"
	"strconv"
	"strings"
	"testing"

	"loop.example/g00221/impl"
)

// moduleNums: what stands in a module's bytes, right or not.
func moduleNums(m impl.Module) []int64 {
	list := []int64{m.Basis, m.Slots, m.Spots, m.Params, int64(len(m.Code))}
	for _, i := range m.Code {
		list = append(list, i.Op, i.A, i.B)
	}
	return list
}

// allNums: the bytes of numbers, one behind the other, by the tests' own way.
func allNums(list ...int64) string {
	var out strings.Builder
	for _, n := range list {
		out.WriteString(numBytes(n))
	}
	return out.String()
}

// moduleBytes: as the document tells them, of a module that may not be right.
func moduleBytes(m impl.Module) string {
	return allNums(moduleNums(m)...)
}

// refusedAt: what ModuleRead tells beside a code.
func refusedAt(code int64, at int) impl.ModuleOut {
	return impl.ModuleOut{At: int64(at), Code: code}
}

// checkModuleRead: is that told of the text?
func checkModuleRead(t *testing.T, what string, text string, want impl.ModuleOut) {
	t.Helper()
	for range 2 {
		got := impl.ModuleRead(text)
		if got.Code != want.Code || got.At != want.At || !sameModule(got.Module, want.Module) {
			t.Errorf("%.200s: Code %d, At %d with %d instructions, not %d, %d and %d", what,
				got.Code, got.At, len(got.Module.Code), want.Code, want.At, len(want.Module.Code))
		}
	}
}

// moduleRead: what a text is by the document's words: all numbers that can be read stand in a list first.
func moduleRead(text string) impl.ModuleOut {
	if len(text) > impl.MaxBytes {
		return refusedAt(impl.ErrSize, 0)
	}
	var nums []int64
	begins := []int{0}
	code := int64(impl.OK)
	for code == impl.OK {
		n := impl.GetNum(text, int64(begins[len(nums)]))
		code = n.Code
		if code == impl.OK {
			nums, begins = append(nums, n.N), append(begins, int(n.At))
		}
	}
	if len(nums) < 5 {
		return refusedAt(code, begins[len(nums)])
	}
	if nums[4] < 1 || nums[4] > 2000 {
		return refusedAt(impl.ErrForm, begins[4])
	}
	whole := 5 + 3*int(nums[4])
	if len(nums) < whole {
		return refusedAt(code, begins[len(nums)])
	}
	if begins[whole] < len(text) {
		return refusedAt(impl.ErrSyntax, begins[whole])
	}
	m := impl.Module{Basis: nums[0], Slots: nums[1], Spots: nums[2], Params: nums[3]}
	for rest := nums[5:whole]; len(rest) > 0; rest = rest[3:] {
		m.Code = append(m.Code, impl.Ins{Op: rest[0], A: rest[1], B: rest[2]})
	}
	if _, right := moduleHeights(m); !right {
		return refusedAt(impl.ErrForm, 0)
	}
	return impl.ModuleOut{Module: m}
}

// longestModule has bytes of which no right module has more: one reject, and else the widest pushes.
func longestModule() impl.Module {
	m := coded("reject 99")
	m.Code = append(m.Code, slices.Repeat(insIn("push -1000000000000"), 1999)...)
	return m
}

// rightModules: small ones, with numbers of one byte and of more, on both sides of nought, and at the bounds.
func rightModules() []impl.Module {
	list := []impl.Module{
		coded("end"),
		coded("gas; gas; gas; amount; post 0 1; end"),
		coded("push 63; push 64; push -64; push -65; end"),
		coded("push 8191; push 8192; push -8192; push -8193; push -1; end"),
		coded("push 1000000000000; push -1000000000000; end"),
		coded("push 1; load 49; today; count; call 2; reject 99"),
		{Basis: 3, Slots: 6, Spots: 10, Params: 8, Code: insIn("param 7; bal 5; add; post 9 9; end")},
		{Basis: 2, Slots: 1, Spots: 1, Params: 0, Code: insIn("jump 0")},
	}
	far := coded("end")
	far.Code = slices.Concat(insIn("push 0; jz 63; push 0; jz 64"), endless(60), insIn("end"))
	return append(list, far)
}

// wrongModules: each with one thing that may not be.
func wrongModules() []impl.Module {
	list := []impl.Module{coded("gas"), coded("add; end"), coded("push 1; jz 3; push 7; end"), coded("end; end 1"), coded("end; end 0 1"),
		coded("end; load 50"), coded(strings.Repeat("push 1; ", 61) + "end"), coded("push 1000000000001; end"), coded("push -1000000000001; end"),
		{Basis: 1, Slots: 1, Spots: 1}, {}}
	for _, op := range noOps() {
		list = append(list, impl.Module{Basis: 1, Slots: 1, Spots: 1, Code: []impl.Ins{{Op: 26}, {Op: op}}})
	}
	for _, n := range []int64{math.MinInt64, -1, 0, 4, 7, 9, 11, math.MaxInt64} {
		list = append(list, impl.Module{Basis: n, Slots: 1, Spots: 1}, impl.Module{Basis: 1, Slots: n, Spots: 1},
			impl.Module{Basis: 1, Slots: 1, Spots: n}, impl.Module{Basis: 1, Slots: 1, Spots: 1, Params: n})
	}
	for n := range list {
		if list[n].Code == nil && list[n].Basis != 0 {
			list[n].Code = insIn("gas; end")
		}
	}
	return slices.DeleteFunc(list, func(m impl.Module) bool {
		_, right := moduleHeights(m)
		return right
	})
}

func TestModuleBytes(t *testing.T) {
	cases := []struct {
		m    impl.Module
		want string
	}{
		{impl.Module{Basis: 1, Slots: 1, Spots: 2, Code: insIn("end")}, "\x02\x02\x04\x00\x02" + "\x34\x00\x00"},
		{impl.Module{Basis: 3, Slots: 6, Spots: 10, Params: 8, Code: insIn("push 63; post 9 8; end")},
			"\x06\x0c\x14\x10\x06" + "\x04\x7e\x00" + "\x2e\x12\x10" + "\x34\x00\x00"},
		{impl.Module{Basis: 2, Slots: 1, Spots: 1, Code: insIn("push 64; push -64; push -65; reject 99")},
			"\x04\x02\x02\x00\x08" + "\x04\x80\x01\x00" + "\x04\x7f\x00" + "\x04\x81\x01\x00" + "\x30\xc6\x01\x00"},
		{impl.Module{Basis: 1, Slots: 1, Spots: 1, Code: append(endless(63), impl.Ins{Op: 26})},
			"\x02\x02\x02\x00\x80\x01" + strings.Repeat("\x02\x00\x00", 63) + "\x34\x00\x00"},
	}
	for n, c := range cases {
		if got := impl.ModuleBytes(c.m); got != c.want {
			t.Errorf("case %d: %q, not %q", n, got, c.want)
		}
	}
	made, _, _ := madeModules(300)
	for n, m := range append(rightModules(), made...) {
		given := copiedModule(m)
		first, second := impl.ModuleBytes(m), impl.ModuleBytes(m)
		if first != moduleBytes(m) || second != first {
			t.Errorf("right module %d: %q, not %q", n, first, moduleBytes(m))
		}
		if !sameModule(m, given) {
			t.Errorf("right module %d was changed", n)
		}
	}
}

func TestModuleBytesOfWrongModules(t *testing.T) {
	many := coded("end")
	many.Code = append(endless(2000), many.Code...)
	list := append(wrongModules(), many)
	if len(list) < 50 {
		t.Errorf("%d wrong modules: too few", len(list))
	}
	for n, m := range list {
		if got := impl.ModuleBytes(m); got != "" || impl.ModuleRight(m) {
			t.Errorf("wrong module %d, %+v: %q", n, m, got)
		}
	}
}

// Promise 18: right modules come back from their bytes.
func TestModulesComeBack(t *testing.T) {
	most := coded("end")
	most.Code = append(endless(1999), most.Code...)
	made, _, _ := madeModules(600)
	for n, m := range slices.Concat(rightModules(), []impl.Module{most, longestModule()}, made) {
		text := impl.ModuleBytes(m)
		if text == "" || len(text) > impl.MaxBytes {
			t.Errorf("right module %d has %d bytes", n, len(text))
		}
		checkModuleRead(t, "right module "+strconv.Itoa(n), text, impl.ModuleOut{Module: m})
	}
}

// numBegins: where the numbers of a list begin in their bytes, and where they end.
func numBegins(list []int64) []int {
	begins := []int{0}
	for _, n := range list {
		begins = append(begins, begins[len(begins)-1]+len(numBytes(n)))
	}
	return begins
}

// Bytes that end within a number, or ahead of one, are told with its place.
func TestModulesBreakOff(t *testing.T) {
	for _, m := range rightModules() {
		text, begins := moduleBytes(m), numBegins(moduleNums(m))
		for size := range len(text) {
			at := begins[0]
			for _, begin := range begins {
				if begin <= size {
					at = begin
				}
			}
			checkModuleRead(t, strconv.Itoa(size)+" bytes alone", text[:size], refusedAt(impl.ErrShort, at))
		}
	}
}

// wronglyWritten: a number as it may not be written, by the reasons for which GetNum refuses one.
func wronglyWritten(n int64) []string {
	right := numBytes(n)
	longer := right[:len(right)-1] + string([]byte{right[len(right)-1] | 128}) + "\x00"
	return []string{longer, "\x80\x00", "\xff\x80\x00", strings.Repeat("\xff", 9) + "\x02", strings.Repeat("\x80", 10), strings.Repeat("\x80", 9) + "\x00"}
}

func TestModulesWithANumberWrittenWrong(t *testing.T) {
	for _, m := range rightModules()[:8] {
		text, nums := moduleBytes(m), moduleNums(m)
		begins := numBegins(nums)
		for k, n := range nums {
			for _, wrong := range wronglyWritten(n) {
				for _, behind := range []string{text[begins[k+1]:], "", "\x80"} {
					checkModuleRead(t, "number "+strconv.Itoa(k), text[:begins[k]]+wrong+behind, refusedAt(impl.ErrSyntax, begins[k]))
				}
			}
			checkModuleRead(t, "nine bytes of number "+strconv.Itoa(k), text[:begins[k]]+strings.Repeat("\xff", 9), refusedAt(impl.ErrShort, begins[k]))
		}
	}
}

// The fifth number says how many instructions there are: one that can't be is told ahead of all that stands behind it.
func TestModulesByTheirFifthNumber(t *testing.T) {
	heads := [][]int64{{1, 1, 1, 0}, {3, 6, 10, 8}, {9, -100, 64, 1 << 40}, {-1, math.MinInt64, math.MaxInt64, 0}}
	for _, head := range heads {
		ahead := allNums(head...)
		for _, n := range []int64{0, -1, -2, -2000, 2001, 2002, 6666, 1 << 32, 1<<32 + 1, math.MaxInt64, math.MinInt64} {
			for _, behind := range []string{"", "\x34", "\x34\x00\x00", "\x80", "\x80\x00", allNums(make([]int64, 6010)...)} {
				checkModuleRead(t, "a fifth number of "+strconv.FormatInt(n, 10), ahead+numBytes(n)+behind, refusedAt(impl.ErrForm, len(ahead)))
			}
		}
		for _, n := range []int64{1, 2, 1999, 2000} {
			whole := ahead + numBytes(n)
			checkModuleRead(t, "a fifth number with nothing behind", whole, refusedAt(impl.ErrShort, len(whole)))
			checkModuleRead(t, "a fifth number with two numbers behind", whole+"\x34\x00", refusedAt(impl.ErrShort, len(whole)+2))
			rest := allNums(make([]int64, 3*n)...)
			checkModuleRead(t, "instructions that are none", whole+rest, refusedAt(impl.ErrForm, 0))
			checkModuleRead(t, "instructions that are none, and something left", whole+rest+"\x00", refusedAt(impl.ErrSyntax, len(whole)+len(rest)))
			checkModuleRead(t, "a number less", whole+rest[1:], refusedAt(impl.ErrShort, len(whole)+len(rest)-1))
		}
	}
	for _, ahead := range []string{"", "\x02", "\x02\x02", "\x02\x02\x02", "\x02\x02\x02\x00"} {
		checkModuleRead(t, "fewer than five numbers", ahead, refusedAt(impl.ErrShort, len(ahead)))
		checkModuleRead(t, "fewer than five numbers and a half", ahead+"\xff", refusedAt(impl.ErrShort, len(ahead)))
		checkModuleRead(t, "fewer than five numbers and a wrong one", ahead+"\xff\x00", refusedAt(impl.ErrSyntax, len(ahead)))
	}
}

func TestModulesWithBytesLeft(t *testing.T) {
	for _, m := range append(rightModules(), wrongModules()...) {
		if len(m.Code) == 0 {
			continue
		}
		text := moduleBytes(m)
		for _, left := range []string{"\x00", "\x34\x00\x00", "\x80", "\x80\x00", " ", "\n", text} {
			checkModuleRead(t, "bytes left", text+left, refusedAt(impl.ErrSyntax, len(text)))
		}
	}
}

func TestModulesReadThatAreNotRight(t *testing.T) {
	for _, m := range wrongModules() {
		at := 0
		if len(m.Code) == 0 {
			at = numBegins(moduleNums(m))[4]
		}
		checkModuleRead(t, "a wrong module", moduleBytes(m), refusedAt(impl.ErrForm, at))
	}
}

func TestModuleReadBySize(t *testing.T) {
	for _, size := range []int{impl.MaxBytes + 1, impl.MaxBytes + 2, 3 * impl.MaxBytes} {
		for _, begin := range []string{"", "\x80", "\x80\x00", moduleBytes(coded("end")), moduleBytes(longestModule())} {
			checkModuleRead(t, "a text that is too long", begin+strings.Repeat("\x00", size-len(begin)), refusedAt(impl.ErrSize, 0))
		}
	}
	text := moduleBytes(longestModule())
	if len(text) != 6+4+1999*8 {
		t.Errorf("the longest module has %d bytes", len(text))
	}
	checkModuleRead(t, "a longest text", text+strings.Repeat("\x00", impl.MaxBytes-len(text)), refusedAt(impl.ErrSyntax, len(text)))
	checkModuleRead(t, "a longest text of one number", strings.Repeat("\x80", impl.MaxBytes), refusedAt(impl.ErrSyntax, 0))
	// Numbers of more bytes than any that stands in a right module.
	far := coded("end")
	for range 952 {
		far.Code = append(far.Code, impl.Ins{Op: 26, A: math.MinInt64, B: math.MinInt64})
	}
	text = moduleBytes(far)
	if len(text) != 20001 {
		t.Fatalf("%d bytes", len(text))
	}
	checkModuleRead(t, "a text of one byte too many", text, refusedAt(impl.ErrSize, 0))
	far.Code[0].A = 0
	far.Code[952].B = math.MinInt64 >> 7
	text = moduleBytes(far)
	if len(text) != impl.MaxBytes {
		t.Fatalf("%d bytes", len(text))
	}
	checkModuleRead(t, "a longest text of a module that is not right", text, refusedAt(impl.ErrForm, 0))
}

// Bytes that were turned, left out or put between: what the tests' own way tells is told.
func TestModuleReadOfWhatever(t *testing.T) {
	made, _, g := madeModules(300)
	counts := map[int64]int{}
	for _, m := range append(rightModules(), made...) {
		text := moduleBytes(m)
		for range 30 {
			at := int(g.below(int64(len(text))))
			other := turned(text, at, byte(g.within(0, 255)))
			switch g.below(6) {
			case 0:
				other = text[:at] + text[at+1:]
			case 1:
				other = text[:at] + string([]byte{byte(g.below(256))}) + text[at:]
			}
			want := moduleRead(other)
			counts[want.Code]++
			checkModuleRead(t, "bytes that were turned", other, want)
		}
		if t.Failed() {
			return
		}
	}
	for _, code := range []int64{impl.OK, impl.ErrForm, impl.ErrSyntax, impl.ErrShort} {
		if counts[code] < 100 {
			t.Errorf("code %d came %d times: too few", code, counts[code])
		}
	}
	for _, text := range []string{"", "\x00", mixedText(10), mixedText(300), mixedText(impl.MaxBytes), strings.Repeat("\xff", 400), strings.Repeat("\x02", 400)} {
		checkModuleRead(t, "some text", text, moduleRead(text))
	}
}

func TestModuleReadIsNew(t *testing.T) {
	m := coded("push 5; push 6; add; store 0; end; add")
	text := impl.ModuleBytes(m)
	first, second := impl.ModuleRead(text), impl.ModuleRead(text)
	code := first.Module.Code[:cap(first.Module.Code)]
	for at := range code {
		code[at] = impl.Ins{Op: 77, A: 77, B: 77}
	}
	if !sameModule(second.Module, m) || !sameModule(impl.ModuleRead(text).Module, m) {
		t.Error("what ModuleRead handed out is shared")
	}
	m.Code[0] = impl.Ins{Op: 26}
	if moduleBytes(second.Module) != text {
		t.Error("what ModuleRead handed out hangs on what was written")
	}
}
