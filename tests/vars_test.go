package tests

import (
	"math"
	"slices"
	"strconv"
	"strings"
	"testing"

	"loop.example/g00221/impl"
)

// varsIn: of words, a name and a type each.
func varsIn(words string) []impl.Var {
	var list []impl.Var
	fields := strings.Fields(words)
	for i := 0; i < len(fields); i += 2 {
		list = append(list, impl.Var{Name: fields[i], Type: typesIn(fields[i+1])[0]})
	}
	return list
}

// checkVars: is that seen at the place, and is the product as it was?
func checkVars(t *testing.T, what string, p impl.Product, hook int64, at int64, want []impl.Var) {
	t.Helper()
	before := copiedProduct(p)
	if got := impl.VarsOf(p, hook, at); !slices.Equal(got, want) {
		t.Errorf("%s: VarsOf of hook %d at %d is %v, not %v", what, hook, at, got, want)
	}
	if !sameProduct(p, before) {
		t.Errorf("%s: the product was changed", what)
	}
}

// A case: the words of a hook, and what is seen at each of its places.
func TestVarsOfEachPlace(t *testing.T) {
	cases := []struct {
		words  string
		places []string
	}{
		{"", []string{""}},
		{"{ } { { } }", []string{"", "", "", ""}},
		// A KLet and its kid do not see its own variable, what stands behind it does.
		{"let a = 1 ;", []string{"", "", ""}},
		{"let b = 1 ; let a = 1.00 ; set b = 2 ;", []string{"", "", "", "b int", "b int", "b int a money", "b int a money"}},
		{"let a = ( 1 + n ) ; set a = a ;", []string{"", "", "", "", "", "a int", "a int"}},
		// A block's own place sees what stands ahead of the block.
		{"let a = r ; { let b = d ; } let c = y ; { }", []string{"", "", "", "a rate", "a rate", "a rate", "a rate", "a rate", "a rate c bool"}},
		{"{ let a = 1 ; { let b = today ; { } } { } } { }", []string{"", "", "", "", "a int", "a int", "a int", "a int b date", "a int", ""}},
		{"let z = y ; if z { let a = 1 ; { } } else { let a = 1.00 ; { } } { }", []string{"", "", "", "z bool", "z bool", "z bool", "z bool", "z bool",
			"z bool a int", "z bool", "z bool", "z bool", "z bool a money", "z bool"}},
		{"repeat n { let a = 1 ; set a = 2 ; } let a = bal owed ; post a from owed to due ;", []string{"", "", "", "", "", "", "a int", "a int", "", "",
			"a money", "a money"}},
		// The first one first, whatever their names.
		{"let z = 1 ; let c = d ; let a = m ; let b = r ; { let e = y ; { } }", []string{"", "", "", "z int", "z int", "z int c date", "z int c date",
			"z int c date a money", "z int c date a money", "z int c date a money b rate", "z int c date a money b rate", "z int c date a money b rate",
			"z int c date a money b rate e bool"}},
		// Of two that were let one behind the other's end only the one that is seen.
		{"{ let a = 1 ; { } } { let a = today ; { } } let b = 1 ; let a = r ; { }", []string{"", "", "", "", "a int", "", "", "", "a date", "", "", "b int",
			"b int", "b int a rate"}},
		{"let owed = 1 ; let till = bal owed ; { }", []string{"", "", "", "owed int", "owed int", "owed int till money"}},
	}
	for _, c := range cases {
		for _, hook := range hookList() {
			p := hookedProduct(t, hook, c.words)
			if count := len(impl.HookOf(p, hook)); count != len(c.places) {
				t.Fatalf("{ %s } has %d nodes", c.words, count)
			}
			for at, words := range c.places {
				checkVars(t, "{ "+c.words+" }", p, hook, int64(at), varsIn(words))
			}
		}
	}
}

// Each type that a variable can have, by each kind of expression.
func TestVarsOfTypes(t *testing.T) {
	types := map[string]string{"7": "int", "-0.07": "money", "7.0000%": "rate", "2007-07-07": "date", "true": "bool", "n": "int", "m": "money", "r": "rate",
		"d": "date", "y": "bool", "bal due": "money", "today": "date", "since": "date", "count": "int", "not y": "bool", "( 1 - n )": "int", "( m * n )": "money",
		"( d < d )": "bool", "( r = r )": "bool", "( y or y )": "bool", "interest ( m r d d )": "money", "instalment ( m r n d )": "money", "later ( d n )": "date",
		"days ( d d )": "int", "least ( m m )": "money", "most ( m m )": "money", "share ( m r )": "money"}
	for words, kind := range types {
		for _, hook := range hookList() {
			p := hookedProduct(t, hook, "let a = "+words+" ; { }")
			last := int64(len(impl.HookOf(p, hook)) - 1)
			checkVars(t, words, p, hook, last, varsIn("a "+kind))
			// A variable of a variable.
			p = hookedProduct(t, hook, "let a = "+words+" ; let b = a ; { }")
			checkVars(t, words, p, hook, last+2, varsIn("a "+kind+" b "+kind))
		}
	}
	for _, hook := range []int64{impl.HookOpen, impl.HookPay} {
		checkVars(t, "amount", hookedProduct(t, hook, "let a = amount ; reject 1 ;"), hook, 3, varsIn("a money"))
	}
}

// Places that no node has, and numbers that are no hook.
func TestVarsOfNoPlace(t *testing.T) {
	words := "let a = 1 ; { let b = 1.00 ; } set a = 2 ;"
	p := typedProduct(t, words, words, words)
	for _, hook := range hookList() {
		checkVars(t, "the last place", p, hook, 7, varsIn("a int"))
		for _, at := range []int64{-1, -2, -8, math.MinInt64, 8, 9, impl.MaxNodes - 1, impl.MaxNodes, impl.MaxNodes + 1, 1<<32 + 7, 256 + 7, math.MaxInt64} {
			checkVars(t, "no place", p, hook, at, nil)
		}
	}
	for _, hook := range []int64{0, -1, -3, 4, 5, 12, 256 + 1, 1<<32 + 1, math.MaxInt64, math.MinInt64} {
		for at := int64(-1); at <= 8; at++ {
			checkVars(t, "no hook", p, hook, at, nil)
		}
	}
}

// Each hook has its own variables.
func TestVarsOfHooks(t *testing.T) {
	p := typedProduct(t, "let a = 1 ; { }", "let b = 1.00 ; let a = y ; { }", "")
	checkVars(t, "open", p, impl.HookOpen, 3, varsIn("a int"))
	checkVars(t, "pay", p, impl.HookPay, 3, varsIn("b money"))
	checkVars(t, "pay", p, impl.HookPay, 5, varsIn("b money a bool"))
	checkVars(t, "tick", p, impl.HookTick, 0, nil)
	checkVars(t, "a place of another hook", p, impl.HookTick, 3, nil)
}

// Of a product with a fault nothing is told, wherever the fault is.
func TestVarsOfFaults(t *testing.T) {
	right := "let a = 1 ; { let b = 1 ; { } }"
	for _, wrong := range []string{"set z = 1 ;", "let n = 1 ;", "let z = not 1 ;", "post m from z to z ;", letsOf("v", impl.MaxVars+1)} {
		for fault := range 3 {
			hooks := []string{right, right, right}
			hooks[fault] = right + " " + wrong
			p := typedProduct(t, hooks[0], hooks[1], hooks[2])
			for _, hook := range hookList() {
				for at := int64(0); at < 8; at++ {
					checkVars(t, wrong, p, hook, at, nil)
				}
			}
		}
	}
	p := typedProduct(t, right, right, right)
	checkVars(t, "no fault", p, impl.HookOpen, 6, varsIn("a int b int"))
	p.Basis = 4
	checkVars(t, "a product that is not right", p, impl.HookOpen, 6, nil)
	checkVars(t, "the zero product", impl.Product{}, impl.HookOpen, 0, nil)
}

// As many as can be seen, also behind blocks that have ended.
func TestVarsOfManyVariables(t *testing.T) {
	words := "{ " + letsOf("w", 15) + " } " + letsOf("v", impl.MaxVars) + " { }"
	for _, hook := range hookList() {
		p := hookedProduct(t, hook, words)
		var want []impl.Var
		for i, name := range numberedNames("v", impl.MaxVars) {
			checkVars(t, "ahead of "+name, p, hook, int64(32+2*i), want)
			want = append(want, impl.Var{Name: name, Type: impl.TypeInt})
		}
		checkVars(t, "behind all", p, hook, 92, want)
	}
}

// What is told at each place of products without a fault is what is found by going up from that place.
func TestVarsOfMadeProducts(t *testing.T) {
	list, g := madeProducts(40)
	most := 0
	for i, p := range list {
		if other := g.altered(p); checkOf(other) != (impl.CheckOut{}) {
			checkVars(t, "altered product "+strconv.Itoa(i), other, impl.HookOpen, int64(len(other.Open)-1), nil)
		}
		for _, hook := range hookList() {
			s := scopeOf(p, hook)
			for at := range s.nodes {
				want := s.vars(at)
				most = max(most, len(want))
				checkVars(t, "made product "+strconv.Itoa(i), p, hook, int64(at), want)
			}
		}
	}
	if most < 8 {
		t.Errorf("at most %d variables are seen: too few", most)
	}
}

// hasVar: is there one of that name?
func hasVar(list []impl.Var, name string) bool {
	return slices.ContainsFunc(list, func(v impl.Var) bool { return v.Name == name })
}

// checkNamed: each variable that a product without a fault names is one that is seen there, or, but where it is set, a
// Param. It tells how many were named.
func checkNamed(t *testing.T, what string, p impl.Product) int {
	t.Helper()
	count := 0
	for _, hook := range hookList() {
		for at, n := range impl.HookOf(p, hook) {
			if n.Kind != impl.KName && n.Kind != impl.KSet {
				continue
			}
			count++
			isParam := slices.ContainsFunc(p.Params, func(a impl.Param) bool { return a.Name == n.Text })
			if !hasVar(impl.VarsOf(p, hook, int64(at)), n.Text) && (n.Kind == impl.KSet || !isParam) {
				t.Errorf("%s: %q at %d of hook %d is not seen", what, n.Text, at, hook)
			}
		}
	}
	return count
}

// Promise 14.
func TestNamedVariablesAreSeen(t *testing.T) {
	count := 0
	for _, text := range libraryTexts() {
		count += checkNamed(t, text[:20], impl.ProductRead(text).Product)
	}
	list, g := madeProducts(60)
	for i, p := range list {
		what := "made product " + strconv.Itoa(i)
		count += checkNamed(t, what, p)
		for range 20 {
			if other := g.altered(p); impl.ProductCheck(other) == (impl.CheckOut{}) {
				count += checkNamed(t, what+", altered", other)
			}
		}
	}
	if count < 1000 {
		t.Errorf("%d variables are named: too few", count)
	}
}

// Promise 14, the other way round: where a name that is seen nowhere is put in, there is a fault.
func TestNamesThatAreNotSeenAreFaults(t *testing.T) {
	list, _ := madeProducts(60)
	for i, p := range list {
		for _, hook := range hookList() {
			for at, n := range *hookIn(&p, hook) {
				if n.Kind != impl.KName && n.Kind != impl.KSet {
					continue
				}
				other := copiedProduct(p)
				(*hookIn(&other, hook))[at].Text = "nowhere"
				checkProduct(t, "made product "+strconv.Itoa(i), other, impl.CheckOut{Hook: hook, At: int64(at), Code: impl.ErrName})
			}
		}
	}
}

// spoilVars writes over all that a list has room for.
func spoilVars(l []impl.Var) {
	l = l[:cap(l)]
	for i := range l {
		l[i] = impl.Var{Name: "spoilt", Type: 77}
	}
}

// What is told shares no list and no text with the product, nor with another answer.
func TestVarsOfIsNew(t *testing.T) {
	names := []string{strings.Clone("first_of_its_own"), strings.Clone("second_of_its_own")}
	for _, hook := range hookList() {
		p := emptyProduct()
		nodes := block(let(names[0], one()), let(names[1], named(names[0])), block())
		*hookIn(&p, hook) = append(make([]impl.Node, 0, 200), nodes...)
		want := []impl.Var{{Name: names[0], Type: impl.TypeInt}, {Name: names[1], Type: impl.TypeInt}}
		first, second := impl.VarsOf(p, hook, 5), impl.VarsOf(p, hook, 5)
		for _, v := range slices.Concat(first, second) {
			if shares(v.Name, names[0]) || shares(v.Name, names[1]) {
				t.Errorf("%q lies in the product", v.Name)
			}
		}
		for i := range first {
			if i < len(second) && shares(first[i].Name, second[i].Name) {
				t.Errorf("%q lies in another answer", first[i].Name)
			}
		}
		spoilVars(first)
		if !slices.Equal(second, want) || !slices.Equal(impl.VarsOf(p, hook, 5), want) {
			t.Errorf("what VarsOf of hook %d handed out is shared", hook)
		}
		if !slices.Equal(*hookIn(&p, hook), nodes) || roomUsed(p) {
			t.Errorf("hook %d was changed", hook)
		}
	}
}

// No list of a product is changed, nor is anything put in the room behind it; and asked again, the same is told.
func TestTypesLeaveTheProduct(t *testing.T) {
	p := roomyProduct()
	p.Tick = append(p.Tick[:0], block(let("a", one()), block(let("b", named("a"))), let("b", named("a")), block())...)
	before := copiedProduct(p)
	for range 3 {
		checkProduct(t, "asked again", p, impl.CheckOut{})
		checkVars(t, "asked again", p, impl.HookTick, 6, varsIn("a int"))
		checkVars(t, "asked again", p, impl.HookTick, 8, varsIn("a int b int"))
		// What stays of a product with a fault must not be seen in the next one.
		impl.ProductCheck(hookedProduct(t, impl.HookTick, "let a = 1 ; let c = 1 ; let a = 1 ;"))
	}
	if !sameProduct(p, before) || roomUsed(p) {
		t.Errorf("what was handed in is now %v", p)
	}
}
