package tests

import (
	"math"
	"slices"
	"strconv"
	"strings"
	"testing"

	"loop.example/g00221/impl"
)

// actsIn: of words, From, To and Amount each.
func actsIn(words string) []impl.Act {
	var list []impl.Act
	fields := strings.Fields(words)
	for i := 0; i < len(fields); i += 3 {
		amount, _ := strconv.ParseInt(fields[i+2], 10, 64)
		list = append(list, impl.Act{From: fields[i], To: fields[i+1], Amount: amount})
	}
	return list
}

// sameOutcome: in all fields and lists.
func sameOutcome(a impl.Outcome, b impl.Outcome) bool {
	return slices.Equal(a.Acts, b.Acts) && a.Next == b.Next && a.Gas == b.Gas && a.Reject == b.Reject && a.Code == b.Code
}

// checkMean: is that what the hook comes to, and is what was handed in as it was?
func checkMean(t *testing.T, what string, p impl.Product, hook int64, e impl.Env, want impl.Outcome) {
	t.Helper()
	product, env := copiedProduct(p), copiedEnv(e)
	if got := impl.Mean(p, hook, e); !sameOutcome(got, want) {
		t.Errorf("%s with gas %d: %+v, not %+v", what, e.Gas, got, want)
	}
	if !sameProduct(p, product) || !sameEnv(e, env) {
		t.Errorf("%s: what was handed in was changed", what)
	}
}

// meanCase: words of a hook, the gas that is paid up to its end, and what it comes to.
type meanCase struct {
	words  string
	cost   int64
	acts   string
	next   int64
	code   int64
	reject int64
}

// outcome: what is told of it, if so much gas is there.
func (c meanCase) outcome(gas int64) impl.Outcome {
	switch {
	case gas < c.cost:
		return impl.Outcome{Code: impl.ErrGas}
	case c.code != impl.OK:
		return impl.Outcome{Reject: c.reject, Code: c.code}
	}
	return impl.Outcome{Acts: actsIn(c.acts), Next: c.next, Gas: gas - c.cost}
}

// checkMeans: in each of these hooks, with all gas, with just enough, one more, and with less, down to none.
func checkMeans(t *testing.T, cases []meanCase, hooks ...int64) {
	t.Helper()
	for _, c := range cases {
		for _, hook := range hooks {
			checkGas(t, c, hookedProduct(t, hook, c.words), hook, plainEnv())
		}
	}
}

// checkGas: of one product and one Env, whatever its Gas is.
func checkGas(t *testing.T, c meanCase, p impl.Product, hook int64, e impl.Env) {
	t.Helper()
	amounts := []int64{impl.MaxGas, impl.MaxGas - 1, c.cost + 1, c.cost, c.cost - 1, c.cost - 2, c.cost - 99, c.cost - 100, c.cost - 101, c.cost / 2, 3, 2, 1, 0}
	for _, e.Gas = range amounts {
		if e.Gas >= 0 && e.Gas <= impl.MaxGas {
			checkMean(t, hookWords()[hook-1]+" { "+c.words+" }", p, hook, e, c.outcome(e.Gas))
		}
	}
}

// By plainEnv's Params and balances: n 5, m 7.00, r 5.0000%, d 2026-04-14, y true; owed 1000.00, due 25.00.
func TestMeanOfExpressions(t *testing.T) {
	checkMeans(t, []meanCase{
		{words: "", cost: 1}, {words: "post 7.07 from owed to due ;", cost: 3, acts: "owed due 707"}, {words: "post ( 0.01 * 12 ) from till to till ;", cost: 5, acts: "till till 12"},
		{words: "post share ( 10000.00 5.0000% ) from due to income ;", cost: 5, acts: "due income 50000"},
		{words: "post ( 0.01 * days ( 2000-01-01 2000-02-29 ) ) from owed to due ;", cost: 7, acts: "owed due 59"},
		{words: "if true { post 1.00 from owed to due ; } else { post 2.00 from due to owed ; }", cost: 6, acts: "owed due 100"},
		{words: "if false { post 1.00 from owed to due ; } else { post 2.00 from due to owed ; }", cost: 6, acts: "due owed 200"},
		{words: "post ( 0.01 * n ) from owed to due ;", cost: 5, acts: "owed due 5"}, {words: "post m from owed to due ;", cost: 3, acts: "owed due 700"},
		{words: "post share ( 10000.00 r ) from owed to due ;", cost: 5, acts: "owed due 50000"},
		{words: "post ( 0.01 * days ( 2000-01-01 d ) ) from owed to due ;", cost: 7, acts: "owed due 9600"},
		{words: "if y { post 1.00 from owed to due ; } else { }", cost: 6, acts: "owed due 100"}, {words: "if not y { } else { post 1.00 from owed to due ; }", cost: 7, acts: "owed due 100"},
		{words: "if not not y { post 1.00 from owed to due ; } else { }", cost: 8, acts: "owed due 100"}, {words: "if not ( 2 < 1 ) { post 1.00 from owed to due ; } else { }", cost: 9, acts: "owed due 100"},
		{words: "post bal owed from owed to till ;", cost: 3, acts: "owed till 100000"}, {words: "post bal due from till to due ;", cost: 3, acts: "till due 2500"},
		{words: "post ( 0.01 * days ( 2026-03-01 today ) ) from owed to due ;", cost: 7, acts: "owed due 30"},
		{words: "post ( 0.01 * days ( 2026-02-01 since ) ) from owed to due ;", cost: 7, acts: "owed due 27"},
		{words: "post ( 0.01 * count ) from owed to due ;", cost: 5, acts: "owed due 3"}, {words: "let a = 3 ; post ( 0.02 * a ) from owed to due ;", cost: 7, acts: "owed due 6"},
		{words: "post ( ( 1.00 + 2.00 ) - ( 0.05 * 4 ) ) from owed to due ;", cost: 9, acts: "owed due 280"},
		{words: "post most ( 1.00 least ( 3.00 2.00 ) ) from owed to due ;", cost: 7, acts: "owed due 200"},
		{words: "post interest ( bal owed r since today ) from income to due ;", cost: 7, acts: "income due 425"},
		{words: "if ( 1 < 2 ) { } else { post 1.00 from owed to due ; }", cost: 6}, {words: "if ( 2 < 2 ) { } else { post 1.00 from owed to due ; }", cost: 8, acts: "owed due 100"},
		{words: "if ( today = today ) { } else { post 1.00 from owed to due ; }", cost: 6}, {words: "if ( r <= 5.0000% ) { } else { post 1.00 from owed to due ; }", cost: 6},
	}, hookList()...)
	checkMeans(t, []meanCase{{words: "post amount from till to owed ;", cost: 3, acts: "till owed 4000"}}, impl.HookOpen, impl.HookPay)
}

// What is settled by the first kid is told by all of them.
func TestMeanOfAndAndOr(t *testing.T) {
	far := "( 0 < ( 1000000000000 + 1 ) )"
	checkMeans(t, []meanCase{
		{words: "if ( false and y ) { post 1.00 from owed to due ; } else { post 2.00 from owed to due ; }", cost: 8, acts: "owed due 200"},
		{words: "if ( true or y ) { post 1.00 from owed to due ; } else { post 2.00 from owed to due ; }", cost: 8, acts: "owed due 100"},
		{words: "if ( false and not not y ) { } else { }", cost: 8}, {words: "if ( true or not not y ) { } else { }", cost: 8},
		{words: "if ( y and y ) { post 1.00 from owed to due ; } else { }", cost: 8, acts: "owed due 100"}, {words: "if ( y and false ) { post 1.00 from owed to due ; } else { }", cost: 6},
		{words: "if ( false or y ) { post 1.00 from owed to due ; } else { }", cost: 8, acts: "owed due 100"}, {words: "if ( false or false ) { post 1.00 from owed to due ; } else { }", cost: 6},
		{words: "if ( false and " + far + " ) { } else { }", cost: 9, code: impl.ErrRange}, {words: "if ( true or " + far + " ) { } else { }", cost: 9, code: impl.ErrRange},
		{words: "if ( true and " + far + " ) { } else { }", cost: 9, code: impl.ErrRange}, {words: "if ( " + far + " and false ) { } else { }", cost: 8, code: impl.ErrRange},
		{words: "if ( " + far + " or true ) { } else { }", cost: 8, code: impl.ErrRange},
	}, hookList()...)
}

// Whatever an operator or a function is refused with, it is ErrRange, once its kids are paid.
func TestMeanOfRefusedValues(t *testing.T) {
	checkMeans(t, []meanCase{
		{words: "let a = ( 1000000000000 + 1 ) ;", cost: 5, code: impl.ErrRange}, {words: "let a = ( -1000000000000 - 1 ) ;", cost: 5, code: impl.ErrRange},
		{words: "let a = ( 1000001 * 1000000 ) ;", cost: 5, code: impl.ErrRange}, {words: "let a = ( 10000000000.00 + 0.01 ) ;", cost: 5, code: impl.ErrRange},
		{words: "let a = ( 0.01 * -1000000000000 ) ; let b = ( a * 2 ) ;", cost: 9, code: impl.ErrRange}, {words: "let a = ( 999999999999 + 1 ) ;", cost: 5},
		{words: "let a = ( 1 + ( 1000000000000 + 1 ) ) ;", cost: 7, code: impl.ErrRange}, {words: "let a = ( ( 1000000000000 + 1 ) + 1 ) ;", cost: 6, code: impl.ErrRange},
		{words: "let a = interest ( -0.01 r since today ) ;", cost: 7, code: impl.ErrRange}, {words: "let a = interest ( 1.00 r today since ) ;", cost: 7, code: impl.ErrRange},
		{words: "let a = interest ( 10000000000.00 100.0000% 2000-01-01 2002-01-01 ) ;", cost: 7, code: impl.ErrRange},
		{words: "let a = interest ( 0.00 100.0000% 2000-01-01 2099-01-01 ) ;", cost: 7, code: impl.ErrRange},
		{words: "let a = later ( today 1200 ) ;", cost: 5, code: impl.ErrRange}, {words: "let a = later ( today 1201 ) ;", cost: 5, code: impl.ErrRange},
		{words: "let a = later ( today -314 ) ;", cost: 5}, {words: "let a = later ( today -315 ) ;", cost: 5, code: impl.ErrRange},
		{words: "let a = instalment ( 0.00 r n d ) ;", cost: 107, code: impl.ErrRange}, {words: "let a = instalment ( 1.00 r 61 d ) ;", cost: 107, code: impl.ErrRange},
		{words: "let a = instalment ( 1.00 50.0001% n d ) ;", cost: 107, code: impl.ErrRange}, {words: "let a = instalment ( 1.00 r n 2099-12-31 ) ;", cost: 107, code: impl.ErrRange},
		// Of a kid ahead of the hundred more.
		{words: "let a = instalment ( 1.00 r ( 1000000000000 + 1 ) d ) ;", cost: 8, code: impl.ErrRange}, {words: "let a = least ( 1.00 ( 10000000000.00 + 0.01 ) ) ;", cost: 7, code: impl.ErrRange},
		// What was done ahead is not told.
		{words: "post 1.00 from owed to due ; let a = ( 1000000000000 + 1 ) ; post 1.00 from owed to due ;", cost: 7, code: impl.ErrRange},
	}, hookList()...)
}

func TestMeanOfInstalment(t *testing.T) {
	checkMeans(t, []meanCase{
		{words: "post instalment ( 10000.00 5.0000% 12 2026-01-31 ) from owed to due ;", cost: 107, acts: "owed due 85592"},
		{words: "post least ( instalment ( 12.00 0.0000% 12 d ) instalment ( 24.00 0.0000% 12 d ) ) from owed to due ;", cost: 213, acts: "owed due 100"},
		{words: "repeat 3 { post instalment ( 12.00 0.0000% 12 d ) from owed to due ; }", cost: 327, acts: "owed due 100 owed due 100 owed due 100"},
		{words: "if y { } else { post instalment ( 12.00 0.0000% 12 d ) from owed to due ; }", cost: 4},
	}, hookList()...)
	// Eighteen of them are all that can be paid.
	words := strings.Repeat("set a = instalment ( 12.00 0.0000% 12 d ) ; ", 18)
	checkMeans(t, []meanCase{{words: "let a = m ; " + words + "post a from owed to due ;", cost: 5 + 18*106, acts: "owed due 100"}}, hookList()...)
	p := hookedProduct(t, impl.HookPay, "let a = m ; "+words+"set a = instalment ( 12.00 0.0000% 12 d ) ;")
	checkMean(t, "nineteen", p, impl.HookPay, plainEnv(), impl.Outcome{Code: impl.ErrGas})
}

// By the product's own basis.
func TestMeanOfBases(t *testing.T) {
	words := "post interest ( 10000.00 r 2026-01-31 today ) from till to owed ; post instalment ( 100.00 50.0000% 2 2026-01-31 ) from till to owed ;"
	for _, hook := range hookList() {
		for basis := int64(1); basis <= 3; basis++ {
			p := hookedProduct(t, hook, words)
			p.Basis = basis
			last := impl.Instalment(loan(10000, 500000, basis, dayAt(2026, 1, 31), 2)).N
			acts := "till owed " + []string{"", "8082", "8194", "8333"}[basis] + " till owed " + strconv.FormatInt(last, 10)
			checkGas(t, meanCase{words: words, cost: 113, acts: acts}, p, hook, plainEnv())
		}
	}
}

func TestMeanOfVariables(t *testing.T) {
	show := "post ( 0.01 * a ) from owed to due ;"
	checkMeans(t, []meanCase{
		{words: "let a = 1 ; set a = 2 ; " + show, cost: 9, acts: "owed due 2"}, {words: "let a = 1 ; set a = ( a + a ) ; set a = ( a + a ) ; " + show, cost: 15, acts: "owed due 4"},
		{words: "let a = n ; let b = a ; set b = 9 ; " + show, cost: 11, acts: "owed due 5"}, {words: "let a = 7 ; { set a = ( a + 1 ) ; } " + show, cost: 12, acts: "owed due 8"},
		// Within a KIf and a KRepeat.
		{words: "let a = 1 ; if y { set a = 2 ; } else { set a = 3 ; } " + show, cost: 12, acts: "owed due 2"},
		{words: "let a = 1 ; if not y { set a = 2 ; } else { set a = 3 ; } " + show, cost: 13, acts: "owed due 3"},
		{words: "let a = 1 ; if not y { set a = 2 ; } else { } " + show, cost: 11, acts: "owed due 1"},
		{words: "let a = 1 ; repeat 4 { set a = ( a + a ) ; } " + show, cost: 33, acts: "owed due 16"},
		{words: "let a = 0 ; repeat 2 { repeat 3 { set a = ( a + 1 ) ; } } " + show, cost: 53, acts: "owed due 6"},
		{words: "let a = true ; repeat 3 { if a { post 1.00 from owed to due ; } else { post 2.00 from due to owed ; } set a = not a ; }", cost: 35,
			acts: "owed due 100 due owed 200 owed due 100"},
		// A KLet in a block that is done more than once is let anew.
		{words: "let c = 0 ; repeat 3 { let a = c ; set a = ( a + 10 ) ; set c = ( c + a ) ; " + show + " }", cost: 53, acts: "owed due 10 owed due 20 owed due 40"},
		{words: "repeat 2 { { let a = 1 ; set a = 5 ; " + show + " } let a = 2 ; " + show + " }", cost: 37, acts: "owed due 5 owed due 2 owed due 5 owed due 2"},
		// One name, let in two blocks with two types.
		{words: "{ let a = today ; } { let a = 1.00 ; post a from owed to due ; } let a = 4 ; " + show, cost: 15, acts: "owed due 100 owed due 4"},
		{words: "if y { let a = 3 ; " + show + " } else { let a = 1.00 ; post a from due to owed ; }", cost: 10, acts: "owed due 3"},
		// A variable may have the name of a slot, or of a contra.
		{words: "let owed = 1.00 ; let till = 2.00 ; post owed from owed to till ; post bal owed from till to owed ; post till from due to due ;", cost: 11,
			acts: "owed till 100 till owed 100000 due due 200"},
	}, hookList()...)
}

// How often a block is done is settled ahead of its first go.
func TestMeanOfRepeat(t *testing.T) {
	one := "post 0.01 from owed to due ; "
	checkMeans(t, []meanCase{
		{words: "repeat 0 { " + one + "}", cost: 3}, {words: "repeat -1 { " + one + "}", cost: 3}, {words: "repeat -1000000000000 { " + one + "}", cost: 3},
		{words: "repeat 1 { }", cost: 5}, {words: "repeat 2 { }", cost: 7}, {words: "repeat 998 { }", cost: 1999}, {words: "repeat 1 { " + one + "}", cost: 7, acts: "owed due 1"},
		{words: "repeat 3 { " + one + "}", cost: 15, acts: "owed due 1 owed due 1 owed due 1"}, {words: "repeat ( n - 3 ) { " + one + "}", cost: 13, acts: "owed due 1 owed due 1"},
		{words: "repeat n { }", cost: 13}, {words: "repeat count { { } }", cost: 12}, {words: "repeat 2 { repeat 2 { } }", cost: 19}, {words: "repeat 2 { repeat 0 { " + one + "} }", cost: 11},
		{words: "let a = 2 ; repeat a { set a = ( a + 5 ) ; " + one + "}", cost: 21, acts: "owed due 1 owed due 1"},
		{words: "let a = 3 ; repeat a { set a = 0 ; } post ( 0.02 * ( a + 1 ) ) from owed to due ;", cost: 23, acts: "owed due 2"},
		{words: "repeat ( 1000000000000 + 1 ) { }", cost: 5, code: impl.ErrRange},
		// At the end of a go nothing stays to be paid, if the block ends the hook.
		{words: "repeat 5 { let a = ( 1000000000000 + 1 ) ; }", cost: 8, code: impl.ErrRange},
	}, hookList()...)
	for _, hook := range hookList() {
		for _, count := range []string{"999", "1000", "1000000000000"} {
			p := hookedProduct(t, hook, "repeat "+count+" { }")
			checkMean(t, "repeat "+count, p, hook, plainEnv(), impl.Outcome{Code: impl.ErrGas})
		}
		// The last go is done, and its end can't be paid: what it did is not told.
		e := envWith(func(e *impl.Env) { e.Gas = 14 })
		checkMean(t, "the last go's end", hookedProduct(t, hook, "repeat 3 { "+one+"}"), hook, e, impl.Outcome{Code: impl.ErrGas})
		e.Gas = 15
		checkMean(t, "nothing left for what follows", hookedProduct(t, hook, "repeat 3 { "+one+"} { }"), hook, e, impl.Outcome{Code: impl.ErrGas})
	}
}

func TestMeanOfPosts(t *testing.T) {
	twenty := strings.Repeat("owed due 1 ", impl.MaxLegs)
	checkMeans(t, []meanCase{
		// A balance is what it was at first.
		{words: "post bal owed from owed to till ; post bal owed from owed to due ; post bal due from due to till ;", cost: 7, acts: "owed till 100000 owed due 100000 due till 2500"},
		{words: "repeat 2 { post ( bal due + 1.00 ) from due to due ; }", cost: 15, acts: "due due 2600 due due 2600"},
		{words: "post 0.00 from owed to due ;", cost: 3, acts: "owed due 0"}, {words: "post 0.01 from income to till ;", cost: 3, acts: "income till 1"},
		{words: "post 10000000000.00 from till to income ;", cost: 3, acts: "till income 1000000000000"},
		{words: "post -0.01 from owed to due ;", cost: 3, code: impl.ErrRange}, {words: "post -10000000000.00 from owed to due ;", cost: 3, code: impl.ErrRange},
		{words: "post ( 1.00 - 1.01 ) from owed to due ;", cost: 5, code: impl.ErrRange}, {words: "post 1.00 from owed to due ; post -0.01 from owed to due ;", cost: 5, code: impl.ErrRange},
		{words: "post 2.00 from owed to due ; post 1.00 from due to owed ; { post 3.00 from till to owed ; }", cost: 8, acts: "owed due 200 due owed 100 till owed 300"},
		{words: "repeat 20 { post 0.01 from owed to due ; }", cost: 83, acts: twenty}, {words: "repeat 21 { post 0.01 from owed to due ; }", cost: 86, code: impl.ErrFull},
		{words: "repeat 20 { post 0.01 from owed to due ; } post 0.00 from owed to due ;", cost: 85, code: impl.ErrFull},
		{words: "repeat 20 { post 0.00 from owed to due ; }", cost: 83, acts: strings.Repeat("owed due 0 ", 20)},
		{words: "repeat 21 { post 0.00 from owed to due ; }", cost: 86, code: impl.ErrFull},
		// ErrRange is named ahead of ErrFull, and the kid is done ahead of both.
		{words: "repeat 20 { post 0.01 from owed to due ; } post -0.01 from owed to due ;", cost: 85, code: impl.ErrRange},
		{words: "repeat 20 { post 0.01 from owed to due ; } post ( 10000000000.00 + 0.01 ) from owed to due ;", cost: 87, code: impl.ErrRange},
	}, hookList()...)
}

func TestMeanOfNext(t *testing.T) {
	ahead, far := dayAt(2026, 4, 1), dayAt(2026, 7, 31)
	checkMeans(t, []meanCase{
		{words: "next 2026-04-01 ;", cost: 3, next: ahead}, {words: "next today ;", cost: 3, code: impl.ErrTime}, {words: "next 2026-03-31 ;", cost: 3, code: impl.ErrTime},
		{words: "next 2026-03-30 ;", cost: 3, code: impl.ErrTime}, {words: "next since ;", cost: 3, code: impl.ErrTime}, {words: "next 2000-01-01 ;", cost: 3, code: impl.ErrTime},
		{words: "next 2099-12-31 ;", cost: 3, next: 36524}, {words: "next d ;", cost: 3, next: 9600}, {words: "next later ( today 4 ) ;", cost: 5, next: far},
		{words: "next later ( today 0 ) ;", cost: 5, code: impl.ErrTime}, {words: "next later ( today 1200 ) ;", cost: 5, code: impl.ErrRange},
		// The last one of several holds, whichever is the later day.
		{words: "next 2026-04-01 ; next 2026-07-31 ;", cost: 5, next: far}, {words: "next 2026-07-31 ; next 2026-04-01 ;", cost: 5, next: ahead},
		{words: "next 2026-07-31 ; next 2026-07-31 ;", cost: 5, next: far}, {words: "next 2026-04-01 ; next today ;", cost: 5, code: impl.ErrTime},
		{words: "next since ; next 2026-04-01 ;", cost: 3, code: impl.ErrTime}, {words: "if y { next d ; } else { next today ; }", cost: 6, next: 9600},
		{words: "let a = today ; repeat 3 { set a = later ( a 1 ) ; next a ; }", cost: 29, next: dayAt(2026, 6, 30)},
		{words: "post 1.00 from owed to due ; next 2026-04-01 ; post 2.00 from owed to due ;", cost: 7, acts: "owed due 100 owed due 200", next: ahead},
		{words: "post 1.00 from owed to due ; next today ;", cost: 5, code: impl.ErrTime},
	}, impl.HookOpen, impl.HookTick)
	// On the last day there is none to come, on the first one each other one is.
	for _, hook := range []int64{impl.HookOpen, impl.HookTick} {
		e := envWith(func(e *impl.Env) { e.Today = impl.MaxDay })
		checkGas(t, meanCase{words: "next 2099-12-31 ;", cost: 3, code: impl.ErrTime}, hookedProduct(t, hook, "next 2099-12-31 ;"), hook, e)
		e.Today, e.Since = 0, 0
		checkGas(t, meanCase{words: "next 2000-01-02 ;", cost: 3, next: 1}, hookedProduct(t, hook, "next 2000-01-02 ;"), hook, e)
		checkGas(t, meanCase{words: "next 2000-01-01 ;", cost: 3, code: impl.ErrTime}, hookedProduct(t, hook, "next 2000-01-01 ;"), hook, e)
	}
}

func TestMeanOfReject(t *testing.T) {
	checkMeans(t, []meanCase{
		{words: "reject 1 ;", cost: 2, code: impl.ErrReject, reject: 1}, {words: "reject 99 ;", cost: 2, code: impl.ErrReject, reject: 99},
		{words: "reject 7 ; reject 8 ;", cost: 2, code: impl.ErrReject, reject: 7}, {words: "{ { reject 5 ; } } reject 6 ;", cost: 4, code: impl.ErrReject, reject: 5},
		{words: "post 1.00 from owed to due ; reject 3 ; post 1.00 from owed to due ;", cost: 4, code: impl.ErrReject, reject: 3},
		{words: "if y { reject 1 ; } else { reject 2 ; }", cost: 5, code: impl.ErrReject, reject: 1}, {words: "if not y { reject 1 ; } else { }", cost: 5},
		{words: "if not y { reject 1 ; } else { reject 2 ; }", cost: 6, code: impl.ErrReject, reject: 2}, {words: "repeat 0 { reject 1 ; }", cost: 3},
		{words: "repeat 5 { post 1.00 from owed to due ; reject 4 ; }", cost: 7, code: impl.ErrReject, reject: 4},
		{words: "let a = 0 ; repeat 5 { set a = ( a + 1 ) ; if ( a = 3 ) { reject 9 ; } else { } }", cost: 38, code: impl.ErrReject, reject: 9},
		{words: "let a = ( 1000000000000 + 1 ) ; reject 1 ;", cost: 5, code: impl.ErrRange}, {words: "reject 1 ; let a = ( 1000000000000 + 1 ) ;", cost: 2, code: impl.ErrReject, reject: 1},
	}, impl.HookOpen, impl.HookPay)
	checkMeans(t, []meanCase{{words: "next d ; reject 1 ;", cost: 4, code: impl.ErrReject, reject: 1}}, impl.HookOpen)
}

// Each N that there is.
func TestMeanOfEachReject(t *testing.T) {
	for n := int64(1); n <= 99; n++ {
		p := hookedProduct(t, impl.HookPay, "reject "+strconv.FormatInt(n, 10)+" ;")
		checkMean(t, "reject", p, impl.HookPay, plainEnv(), impl.Outcome{Reject: n, Code: impl.ErrReject})
	}
}

// ErrForm alone, whatever else the hook would come to.
func TestMeanOfWrongThings(t *testing.T) {
	form := impl.Outcome{Code: impl.ErrForm}
	for i, p := range wrongProducts() {
		for _, hook := range hookList() {
			checkMean(t, "wrong product "+strconv.Itoa(i), p, hook, plainEnv(), form)
		}
	}
	words := "post 1.00 from owed to due ;"
	right := typedProduct(t, words, words, words)
	for _, hook := range []int64{0, -1, 4, 5, 27, 257, 1<<32 + 1, math.MaxInt64, math.MinInt64} {
		checkMean(t, "no hook", right, hook, plainEnv(), form)
	}
	for _, hook := range hookList() {
		checkMean(t, "right", right, hook, plainEnv(), impl.Outcome{Acts: actsIn("owed due 100"), Gas: impl.MaxGas - 3})
		checkMean(t, "the zero Env", right, hook, impl.Env{}, form)
		checkMean(t, "no gas at all", right, hook, envWith(func(e *impl.Env) { e.Gas = -1 }), form)
		checkMean(t, "a Param too few", right, hook, envWith(func(e *impl.Env) { e.Params = e.Params[1:] }), form)
		checkMean(t, "a balance too many", right, hook, envWith(func(e *impl.Env) { e.Balances = append(e.Balances, 0) }), form)
		// A fault refuses each hook, also those that do not have it.
		for _, other := range hookList() {
			checkMean(t, "a fault", hookedProduct(t, other, words+" set zzz = 1 ;"), hook, plainEnv(), form)
		}
		checkMean(t, "a fault in tick", hookedProduct(t, impl.HookTick, "post amount from till to owed ;"), hook, plainEnv(), form)
		checkMean(t, "a fault in pay", hookedProduct(t, impl.HookPay, "next d ;"), hook, plainEnv(), form)
	}
}

// Each hook is done, and no other one.
func TestMeanOfEachHook(t *testing.T) {
	p := typedProduct(t, "post 1.00 from till to owed ; next d ;", "post 2.00 from owed to till ; { }", "post 3.00 from income to due ;")
	checkMean(t, "open", p, impl.HookOpen, plainEnv(), impl.Outcome{Acts: actsIn("till owed 100"), Next: 9600, Gas: 1995})
	checkMean(t, "pay", p, impl.HookPay, plainEnv(), impl.Outcome{Acts: actsIn("owed till 200"), Gas: 1996})
	checkMean(t, "tick", p, impl.HookTick, plainEnv(), impl.Outcome{Acts: actsIn("income due 300"), Gas: 1997})
}

// The library's products, with what they are for.
func TestMeanOfTheLibrary(t *testing.T) {
	read := func(i int) impl.Product { return impl.ProductRead(libraryTexts()[i]).Product }
	start := dayAt(2026, 1, 31)
	e := impl.Env{Params: []int64{50000, 12, start}, Balances: []int64{0, 0}, Today: start, Since: start, Amount: 1000000, Gas: 100}
	checkMean(t, "annuity opened", read(0), impl.HookOpen, e, impl.Outcome{Acts: actsIn("till owed 1000000"), Next: dayAt(2026, 2, 28), Gas: 84})
	late := e
	late.Today = start + 1
	checkMean(t, "annuity opened late", read(0), impl.HookOpen, late, impl.Outcome{Reject: 1, Code: impl.ErrReject})
	e.Balances, e.Today, e.Since, e.Amount = []int64{0, 1000000}, dayAt(2026, 2, 28), start, 0
	checkMean(t, "annuity ticked", read(0), impl.HookTick, e, impl.Outcome{Acts: actsIn("income due 3836"), Next: dayAt(2026, 3, 31), Gas: 80})
	e.Count = 11
	checkMean(t, "annuity ticked last", read(0), impl.HookTick, e, impl.Outcome{Acts: actsIn("income due 3836"), Gas: 86})
	e.Balances, e.Amount = []int64{3836, 1000000}, 85592
	checkMean(t, "annuity paid", read(0), impl.HookPay, e, impl.Outcome{Acts: actsIn("due till 3836 owed till 81756"), Gas: 82})
	e.Amount = 1003837
	checkMean(t, "annuity paid too much", read(0), impl.HookPay, e, impl.Outcome{Reject: 2, Code: impl.ErrReject})
	e = impl.Env{Params: []int64{120000, 1000000}, Balances: []int64{1000, 20000}, Today: dayAt(2026, 2, 28), Since: dayAt(2026, 1, 28), Gas: 2000}
	checkMean(t, "credit ticked", read(2), impl.HookTick, e, impl.Outcome{Acts: actsIn("income due 200 income due 10"), Next: dayAt(2026, 3, 28), Gas: 1983})
	e.Amount = 1000001
	checkMean(t, "credit opened beyond", read(2), impl.HookOpen, e, impl.Outcome{Reject: 1, Code: impl.ErrReject})
}

// What is told shares no list and no text with what was handed in, nor with another answer.
func TestMeanIsNew(t *testing.T) {
	from, to := strings.Clone("first_of_its_own"), strings.Clone("second_of_its_own")
	for _, hook := range hookList() {
		p := emptyProduct()
		p.Slots, p.Contras, p.Params = []string{from}, []string{to}, nil
		*hookIn(&p, hook) = append(make([]impl.Node, 0, 200), block(post(bal(from), from, to), post(bal(from), to, from))...)
		e := impl.Env{Params: make([]int64, 0, 9), Balances: append(make([]int64, 0, 9), 500), Gas: 50}
		want := impl.Outcome{Acts: []impl.Act{{From: from, To: to, Amount: 500}, {From: to, To: from, Amount: 500}}, Gas: 45}
		first, second := impl.Mean(p, hook, e), impl.Mean(p, hook, e)
		for _, a := range slices.Concat(first.Acts, second.Acts) {
			for _, name := range []string{from, to} {
				if shares(a.From, name) || shares(a.To, name) {
					t.Errorf("%+v lies in the product", a)
				}
			}
		}
		acts := first.Acts[:cap(first.Acts)]
		for i := range acts {
			acts[i] = impl.Act{From: "spoilt", To: "spoilt", Amount: 77}
		}
		if !sameOutcome(second, want) || !sameOutcome(impl.Mean(p, hook, e), want) {
			t.Errorf("what Mean of hook %d handed out is shared", hook)
		}
		if roomUsed(p) || e.Balances[:2][1] != 0 || len(e.Params[:9]) != 9 || slices.Max(e.Params[:9]) != 0 {
			t.Error("room behind what was handed in was used")
		}
	}
}

// Nothing stays from one call to the next: neither gas, nor Acts, nor a variable, nor a Next.
func TestMeanKeepsNothing(t *testing.T) {
	p := typedProduct(t, "let a = 7 ; post 1.00 from owed to due ; next d ;", "reject 4 ;", "let a = 1 ; post ( 0.01 * a ) from owed to due ;")
	for range 3 {
		checkMean(t, "open", p, impl.HookOpen, plainEnv(), impl.Outcome{Acts: actsIn("owed due 100"), Next: 9600, Gas: 1993})
		checkMean(t, "pay", p, impl.HookPay, plainEnv(), impl.Outcome{Reject: 4, Code: impl.ErrReject})
		checkMean(t, "tick", p, impl.HookTick, plainEnv(), impl.Outcome{Acts: actsIn("owed due 1"), Gas: 1993})
		checkMean(t, "no gas", p, impl.HookTick, envWith(func(e *impl.Env) { e.Gas = 6 }), impl.Outcome{Code: impl.ErrGas})
	}
}
