package tests

import (
	"math"
	"slices"
	"strings"
	"testing"

	"loop.example/g00221/impl"
)

// checkHeights: are those the heights of the places (none, if the module is not right)?
func checkHeights(t *testing.T, what string, m impl.Module, want []int64) {
	t.Helper()
	given := copiedModule(m)
	if got := impl.ModuleRight(m); got != (want != nil) {
		t.Errorf("%.200s: ModuleRight is %v", what, got)
	}
	first, second := impl.HeightsOf(m), impl.HeightsOf(m)
	if !slices.Equal(first, want) || !slices.Equal(second, want) {
		t.Errorf("%.200s: the heights are %v, then %v, not %v", what, first, second, want)
	}
	if !sameModule(m, given) {
		t.Errorf("%.200s: the module was changed", what)
	}
}

// heightCase is a module's code, and the heights of its places; none, if it is not right.
type heightCase struct {
	text string
	want []int64
}

func checkHeightCases(t *testing.T, cases []heightCase) {
	t.Helper()
	for _, c := range cases {
		checkHeights(t, c.text, coded(c.text), c.want)
	}
}

func TestHeights(t *testing.T) {
	checkHeightCases(t, []heightCase{
		{"end", []int64{0}},
		{"reject 1", []int64{0}},
		{"jump 0", []int64{0}},
		{"gas; end", []int64{0, 0}},
		{"push 5; store 0; end", []int64{0, 1, 0}},
		{"push 5; push 6; add; end", []int64{0, 1, 2, 1}},
		{"gas; gas; gas; amount; post 0 1; end", []int64{0, 0, 0, 0, 1, 0}},
		{"today; push 1; call 3; next; end", []int64{0, 1, 2, 1, 0}},
		{"amount; push 1; today; since; call 1; end", []int64{0, 1, 2, 3, 4, 1}},
		{"push 1; push 2; push 3; push 4; push 5; call 2; call 7; end", []int64{0, 1, 2, 3, 4, 5, 2, 1}},
		{"bal 2; param 4; less; not; jz 6; post 6 6; end", nil},
		{"bal 2; param 4; less; not; jz 5; end", []int64{0, 1, 2, 1, 1, 0}},
	})
}

func TestHeightsOfTooLittleAndTooMuch(t *testing.T) {
	checkHeightCases(t, []heightCase{
		{"add; end", nil},
		{"push 1; add; end", nil},
		{"store 0; end", nil},
		{"push 1; store 0; store 0; end", nil},
		{"push 1; push 2; push 3; call 1; end", nil},
		{strings.Repeat("push 1; ", 59) + "end", counted(60)},
		{strings.Repeat("push 1; ", 60) + "end", counted(61)},
		{strings.Repeat("push 1; ", 61) + "end", nil},
		{strings.Repeat("push 1; ", 62) + "end", nil},
		{strings.Repeat("push 1; ", 60) + "add; push 2; end", append(counted(61), 59, 60)},
		{strings.Repeat("push 1; ", 60) + "push 2", nil},
		{strings.Repeat("push 1; ", 60) + "push 2; jump 61", nil},
		{strings.Repeat("push 1; ", 60) + "end; push 2; end", append(counted(61), -1, -1)},
		{"push 1; jump 0", nil},
	})
}

// counted: so many numbers from 0 on.
func counted(count int) []int64 {
	var list []int64
	for n := range count {
		list = append(list, int64(n))
	}
	return list
}

func TestHeightsAtTheLastPlace(t *testing.T) {
	checkHeightCases(t, []heightCase{
		{"gas", nil},
		{"push 0", nil},
		{"gas; gas", nil},
		{"push 1; jz 0", nil},
		{"push 1; jz 1", nil},
		{"push 1; next", nil},
		{"push 1; post 0 1", nil},
		{"gas; reject 99", []int64{0, 0}},
		{"gas; jump 0", []int64{0, 0}},
		{"gas; jump 1", []int64{0, 0}},
		{"end; gas", []int64{0, -1}},
		{"end; push 1", []int64{0, -1}},
		{"end; jz 0", []int64{0, -1}},
		{"jump 2; gas; end; gas", []int64{0, -1, 0, -1}},
		{"jump 2; end; gas", nil},
		{"push 1; jz 3; end; gas", nil},
	})
}

func TestHeightsOfJumps(t *testing.T) {
	checkHeightCases(t, []heightCase{
		{"push 1; jz 0; end", []int64{0, 1, 0}},
		{"push 1; jz 2; end", []int64{0, 1, 0}},
		{"push 1; jz 1; end", nil},
		{"push 1; push 1; jz 0; end", nil},
		{"push 1; jump 1", []int64{0, 1}},
		{"jump 1; jump 0", []int64{0, 0}},
		{"jump 1; jump 1", []int64{0, 0}},
		{"gas; jump 3; jump 0; jump 2", []int64{0, 0, 0, 0}},
		{"push 1; push 2; jz 4; end; jump 1", []int64{0, 1, 2, 1, 1}},
		{"push 1; push 2; jz 4; end; store 1; jump 0", []int64{0, 1, 2, 1, 1, 0}},
		{"push 1; push 2; jz 4; end; store 1; jump 1", nil},
		{"push 1; jz 4; push 2; jump 5; push 3; store 0; end", []int64{0, 1, 0, 1, 0, 1, 0}},
		{"push 1; jz 3; push 7; end", nil},
		{"push 1; jz 4; push 2; jump 5; gas; end", nil},
		{"push 1; jz 4; gas; jump 5; push 2; end", nil},
		{"push 1; jz 4; gas; jump 5; push 2; jump 4; end", nil},
		{"push 1; jz 4; push 2; jump 6; push 3; jump 6; end", []int64{0, 1, 0, 1, 0, 1, 1}},
		{"push 3; store 40; push 0; load 40; less; jz 11; load 40; push 1; sub; store 40; jump 2; end", []int64{0, 1, 0, 1, 2, 1, 0, 1, 2, 1, 0, 0}},
	})
}

func TestHeightsOfPlacesThatAreNotReached(t *testing.T) {
	checkHeightCases(t, []heightCase{
		{"jump 2; add; end", []int64{0, -1, 0}},
		{"jump 2; add; end; add", []int64{0, -1, 0, -1}},
		{"end; add; store 3; jz 0; call 1", []int64{0, -1, -1, -1, -1}},
		{"reject 5; push 1; jump 0", []int64{0, -1, -1}},
		{"jump 3; push 1; jump 3; end", []int64{0, -1, -1, 0}},
		{"jump 2; jz 2; end", []int64{0, -1, 0}},
		{"end; " + strings.Repeat("push 1; ", 70) + "end", append([]int64{0}, slices.Repeat([]int64{-1}, 71)...)},
		// An instruction must be right by itself, reached or not.
		{"end; load 50", nil},
		{"end; jump 2", nil},
		{"end; jump -1", nil},
		{"end; gas 1", nil},
		{"end; gas 0 1", nil},
		{"end; param 5", nil},
		{"end; bal 3", nil},
		{"end; post 7 0", nil},
		{"end; post 0 7", nil},
		{"end; reject 0", nil},
		{"end; reject 100", nil},
		{"end; call 0", nil},
		{"end; call 8", nil},
		{"end; push 1000000000001", nil},
		{"end; push -1000000000001", nil},
		{"end; push 1000000000000", []int64{0, -1}},
		{"end; push -1000000000000", []int64{0, -1}},
	})
}

// aloneIns: one of each op, and a call of each function, with an A that may be; a jump goes to its own place.
func aloneIns(at int64) []impl.Ins {
	var list []impl.Ins
	for op := int64(1); op <= 26; op++ {
		switch opRow(op)[1] {
		case "function":
			for a := int64(1); a <= 7; a++ {
				list = append(list, impl.Ins{Op: op, A: a})
			}
		case "place":
			list = append(list, impl.Ins{Op: op, A: at})
		default:
			list = append(list, impl.Ins{Op: op, A: 1})
			if opRow(op)[1] == "-" {
				list[len(list)-1].A = 0
			}
		}
	}
	return list
}

// What each op takes and puts, and whether it is followed.
func TestHeightsOfEachOp(t *testing.T) {
	for count := int64(0); count <= 5; count++ {
		for _, i := range aloneIns(count) {
			if i.Op == opNamed("jz") {
				i.A = count + 1
			}
			m := coded("end")
			m.Code = append(slices.Repeat(insIn("push 7"), int(count)), i)
			what := opRow(i.Op)[0]
			followed := slices.Contains(leavesTo(i, count), count+1)
			var want []int64
			if !followed && count >= takenBy(i) {
				want = counted(int(count + 1))
			}
			if i.Op != opNamed("jz") {
				checkHeights(t, what+" at the end", m, want)
			}
			m.Code = append(m.Code, insIn("end")...)
			want = nil
			if count >= takenBy(i) {
				want = append(counted(int(count+1)), -1)
			}
			if want != nil && followed {
				want[count+1] = count - takenBy(i) + putBy(i)
			}
			checkHeights(t, what+" ahead of the end", m, want)
		}
	}
}

func TestModulesByTheirNumbers(t *testing.T) {
	far := []int64{math.MinInt64, math.MinInt64 + 1, -impl.MaxMoney, -1 << 32, -1, 1 << 32, 1<<32 + 1, math.MaxInt64}
	for _, n := range append(far, 0, 1, 2, 3, 4, 5, 6, 7, 8, 9, 10, 11, 12) {
		for _, fixed := range []impl.Module{{Basis: 1, Slots: 1, Spots: 1}, {Basis: 2, Slots: 6, Spots: 6, Params: 8}, {Basis: 3, Slots: 6, Spots: 10, Params: 3}, {Basis: 1, Slots: 3, Spots: 9}} {
			fixed.Code = insIn("end")
			for field := range 5 {
				m := copiedModule(fixed)
				*[]*int64{&m.Basis, &m.Slots, &m.Spots, &m.Params, &m.Slots}[field] = n
				if field == 4 {
					m.Spots = n
				}
				want, _ := moduleHeights(m)
				checkHeights(t, "a module's number", m, want)
			}
		}
	}
	for _, m := range []impl.Module{
		{Basis: 1, Slots: 6, Spots: 10, Params: 8},
		{Basis: 3, Slots: 1, Spots: 1},
		{Basis: 2, Slots: 6, Spots: 6},
		{Basis: 2, Slots: 1, Spots: 10},
	} {
		m.Code = insIn("gas; end")
		checkHeights(t, "a module at its bounds", m, []int64{0, 0})
	}
	for _, m := range []impl.Module{
		{Basis: 0, Slots: 3, Spots: 5, Params: 1},
		{Basis: 4, Slots: 3, Spots: 5, Params: 1},
		{Basis: 1, Slots: 0, Spots: 5, Params: 1},
		{Basis: 1, Slots: 7, Spots: 8, Params: 1},
		{Basis: 1, Slots: 3, Spots: 2, Params: 1},
		{Basis: 1, Slots: 3, Spots: 11, Params: 1},
		{Basis: 1, Slots: 3, Spots: 5, Params: -1},
		{Basis: 1, Slots: 3, Spots: 5, Params: 9},
	} {
		m.Code = insIn("gas; end")
		checkHeights(t, "a module beyond its bounds", m, nil)
	}
}

func TestModulesBySize(t *testing.T) {
	m := coded("end")
	for _, m.Code = range [][]impl.Ins{nil, {}} {
		checkHeights(t, "a module of no instructions", m, nil)
	}
	for _, count := range []int{1, 2, impl.MaxList, impl.MaxList + 1, 1999, 2000} {
		m.Code = append(endless(count-1), insIn("end")...)
		checkHeights(t, "a module of many instructions", m, make([]int64, count))
	}
	for _, count := range []int{2001, 2002, 20001} {
		m.Code = append(endless(count-1), insIn("end")...)
		checkHeights(t, "a module of too many instructions", m, nil)
	}
}

// Jumps all the way down and up, and a jz at each place, so that each place is come to twice.
func TestHeightsOfLongWays(t *testing.T) {
	m := coded("end")
	down := []impl.Ins{{Op: 22, A: 1999}}
	for at := int64(1); at < 2000; at++ {
		down = append(down, impl.Ins{Op: 22, A: at - 1})
	}
	m.Code = down
	checkHeights(t, "jumps down", m, make([]int64, 2000))
	var both []impl.Ins
	var heights []int64
	for at := int64(0); at < 1998; at += 2 {
		both = append(both, impl.Ins{Op: 7}, impl.Ins{Op: 21, A: 1998 - at})
		heights = append(heights, 0, 1)
	}
	m.Code = append(both, insIn("gas; end")...)
	checkHeights(t, "a jz at each second place", m, append(heights, 0, 0))
	m.Code[1001].A = 1001
	checkHeights(t, "one jz to a place of another height", m, nil)
}

// Right modules are right, with the heights by which they were made, and what the tests' own way tells.
func TestHeightsOfMadeModules(t *testing.T) {
	list, heights, _ := madeModules(1500)
	highest, reached, missed := int64(0), 0, 0
	for n, m := range list {
		checkHeights(t, "a made module", m, heights[n])
		if told, holds := moduleHeights(m); !holds || !slices.Equal(told, heights[n]) {
			t.Fatalf("made module %d has %v by the tests' own way, not %v", n, told, heights[n])
		}
		for _, h := range heights[n] {
			highest = max(highest, h)
			if h < 0 {
				missed++
			} else {
				reached++
			}
		}
	}
	if highest < 50 || reached < 10000 || missed < 5000 {
		t.Errorf("a height of %d, %d places reached and %d not: too few", highest, reached, missed)
	}
}

// One thing made another one: what the tests' own way tells is told.
func TestHeightsOfAlteredModules(t *testing.T) {
	list, _, g := madeModules(600)
	right, wrong := 0, 0
	for _, m := range list {
		for range 12 {
			other := g.altered(m)
			want, holds := moduleHeights(other)
			if holds {
				right++
			} else {
				wrong++
			}
			checkHeights(t, "an altered module", other, want)
			if t.Failed() {
				t.Fatalf("%+v", other)
			}
		}
	}
	if right < 1000 || wrong < 1000 {
		t.Errorf("%d right and %d wrong: too few", right, wrong)
	}
}

func TestHeightsAreNew(t *testing.T) {
	m := coded("push 5; push 6; add; store 0; end; add")
	first, second := impl.HeightsOf(m), impl.HeightsOf(m)
	first = first[:cap(first)]
	for at := range first {
		first[at] = 77
	}
	want := []int64{0, 1, 2, 1, 0, -1}
	if !slices.Equal(second, want) || !slices.Equal(impl.HeightsOf(m), want) || !impl.ModuleRight(m) {
		t.Error("what HeightsOf handed out is shared")
	}
}
