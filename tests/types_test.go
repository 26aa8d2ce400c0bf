package tests

import (
	"math"
	"slices"
	"strings"
	"testing"

	"loop.example/g00221/impl"
)

func TestTypesConstants(t *testing.T) {
	if impl.MaxVars != 30 {
		t.Error("a bound is another one")
	}
}

// callTable: each function's result and kids, in words, as the document has them.
func callTable() map[string]string {
	return map[string]string{
		"interest": "money money rate date date", "instalment": "money money rate int date", "later": "date date int",
		"days": "int date date", "least": "money money money", "most": "money money money", "share": "money money rate",
	}
}

// typesIn: the types of words.
func typesIn(words string) []int64 {
	var list []int64
	for _, word := range strings.Fields(words) {
		list = append(list, int64(1+slices.Index(typeNames(), word)))
	}
	return list
}

func TestCallTypes(t *testing.T) {
	table := callTable()
	if len(table) != len(functionList()) {
		t.Fatalf("%d functions are listed", len(table))
	}
	for _, name := range functionList() {
		if got := impl.CallTypes(name); !slices.Equal(got, typesIn(table[name])) {
			t.Errorf("CallTypes(%q) is %v", name, got)
		}
		for _, other := range []string{name + "s", name + " ", " " + name, strings.ToUpper(name), name[1:], name[:len(name)-1], name + "\x00", name + name} {
			if got := impl.CallTypes(other); len(got) != 0 {
				t.Errorf("CallTypes(%q) is %v", other, got)
			}
		}
	}
}

func TestCallTypesOfOtherNames(t *testing.T) {
	list := slices.Concat(reservedList(), operatorList(), noNames(), typeNames(), []string{"owed", "sum", "a", "call", "interest later",
		strings.Repeat("days", impl.MaxBytes), strings.Repeat("x", impl.MaxBytes)})
	for _, name := range list {
		if slices.Contains(functionList(), name) {
			continue
		}
		if got := impl.CallTypes(name); len(got) != 0 {
			t.Errorf("CallTypes(%.50q) is %v", name, got)
		}
	}
}

func TestCallTypesIsNew(t *testing.T) {
	for _, name := range functionList() {
		first, second := impl.CallTypes(name), impl.CallTypes(name)
		first = first[:cap(first)]
		for i := range first {
			first[i] = 77
		}
		want := typesIn(callTable()[name])
		if !slices.Equal(second, want) || !slices.Equal(impl.CallTypes(name), want) {
			t.Errorf("what CallTypes(%q) handed out is shared", name)
		}
	}
}

// opTable: each operator at each two types that it takes, and behind them what it comes to, in words.
func opTable() map[string][]string {
	order := []string{"int int bool", "money money bool", "rate rate bool", "date date bool"}
	sums := []string{"int int int", "money money money"}
	both := []string{"bool bool bool"}
	return map[string][]string{
		"+": sums, "-": sums, "*": {"int int int", "money int money"}, "<": order, "<=": order,
		"=": append(slices.Clone(order), both...), "and": both, "or": both,
	}
}

// opTypeOf: by the table.
func opTypeOf(word string, a int64, b int64) int64 {
	for _, row := range opTable()[word] {
		if types := typesIn(row); types[0] == a && types[1] == b {
			return types[2]
		}
	}
	return 0
}

// noTypes: numbers that are none.
func noTypes() []int64 {
	return []int64{0, -1, -2, -5, 6, 7, 12, 27, 256 + 1, 1<<32 + 2, math.MaxInt64, math.MinInt64}
}

func TestOpType(t *testing.T) {
	if len(opTable()) != len(operatorList()) {
		t.Fatalf("%d operators are listed", len(opTable()))
	}
	kinds := append([]int64{1, 2, 3, 4, 5}, noTypes()...)
	for _, word := range operatorList() {
		for _, a := range kinds {
			for _, b := range kinds {
				if got, want := impl.OpType(word, a, b), opTypeOf(word, a, b); got != want {
					t.Errorf("OpType(%q, %d, %d) is %d, not %d", word, a, b, got, want)
				}
			}
		}
	}
}

func TestOpTypeOfOtherWords(t *testing.T) {
	words := slices.Concat(reservedList(), functionList(), noNames(), []string{"", " ", "/", "%", ">", ">=", "==", "!=", "not", "xor", "&&", "||",
		"+ ", " +", "++", "+-", "<==", "= ", "And", "OR", "and ", "and or", "+\x00", strings.Repeat("+", impl.MaxBytes+1)})
	for _, word := range words {
		if slices.Contains(operatorList(), word) {
			continue
		}
		for a := int64(-1); a <= 6; a++ {
			for b := int64(-1); b <= 6; b++ {
				if got := impl.OpType(word, a, b); got != 0 {
					t.Errorf("OpType(%.50q, %d, %d) is %d", word, a, b, got)
				}
			}
		}
	}
}
