package tests

import (
	"slices"
	"strconv"
	"testing"

	"loop.example/g00221/impl"
)

// checkDone: does the machine do with the hook's code what the hook means (promise 20)? It tells the latter.
func checkDone(t *testing.T, what string, p impl.Product, m impl.Module, hook int64, e impl.Env) impl.Outcome {
	t.Helper()
	want := impl.Mean(p, hook, e)
	ran := impl.VmRun(m, e)
	if got := impl.VmNamed(p, ran); !sameOutcome(got, want) {
		t.Errorf("%.300s: hook %d with gas %d is %+v, and %+v by its code", what, hook, e.Gas, want, got)
	}
	if ran.Code != want.Code || ran.Next != want.Next || ran.Gas != want.Gas || ran.Reject != want.Reject || len(ran.Acts) != len(want.Acts) {
		t.Errorf("%.300s: hook %d with gas %d is %+v, and %+v ahead of its names", what, hook, e.Gas, want, ran)
	}
	return want
}

// checkDoneByGas: with each amount of gas up to what the hook costs, one more, and the most.
func checkDoneByGas(t *testing.T, what string, p impl.Product, hook int64, e impl.Env) {
	t.Helper()
	made := impl.Compile(p, hook)
	if made.Code != impl.OK {
		t.Fatalf("%.300s: hook %d has no code", what, hook)
	}
	more := 0
	for e.Gas = 0; e.Gas <= impl.MaxGas && more < 2 && !t.Failed(); e.Gas++ {
		if got := checkDone(t, what, p, made.Module, hook, e); got.Code != impl.ErrGas {
			more++
		}
	}
	e.Gas = impl.MaxGas
	checkDone(t, what, p, made.Module, hook, e)
}

// hookPieces: words of hooks in which each kind of node is, but amount, reject and next.
func hookPieces() []string {
	return []string{
		"", "{ } { { } }", "let a = 7 ; set a = ( a - 9 ) ; post ( 0.01 * ( 5 - a ) ) from owed to due ;", "let a = 7.00 ; let b = ( a - m ) ; post b from till to income ;",
		"post share ( bal owed 5.0000% ) from due to till ; post share ( bal owed r ) from due to till ;", "let a = 2026-04-01 ; post ( 0.01 * days ( a d ) ) from till to owed ;",
		"let f = true ; set f = not f ; if f { post 1.00 from owed to due ; } else { post 2.00 from due to owed ; }", "if y { } else { post 1.00 from owed to due ; }",
		"if not y { post 1.00 from owed to due ; } else { if ( y and not y ) { } else { post 3.00 from till to due ; } }",
		"if ( ( n < 6 ) or ( since = today ) ) { post bal due from due to till ; } else { }", "if ( ( n <= 4 ) and ( m < bal owed ) ) { } else { post m from income to due ; }",
		"post ( 0.01 * ( count + 1 ) ) from owed to due ; post ( 0.01 * days ( since today ) ) from owed to due ;",
		"post interest ( bal owed r since today ) from income to due ;", "post instalment ( bal owed r n d ) from owed to due ;", "post instalment ( m 1.0000% 61 d ) from owed to due ;",
		"let a = later ( today n ) ; post ( 0.01 * days ( today a ) ) from owed to due ;", "post least ( bal owed m ) from owed to till ; post most ( bal owed m ) from owed to till ;",
		"let a = later ( today 1200 ) ;", "post interest ( -0.01 r since today ) from income to due ;", "let a = ( 1000000000000 + n ) ;", "post ( bal due - bal owed ) from owed to due ;",
		"repeat n { post m from owed to due ; }", "repeat ( n - 5 ) { post m from owed to due ; } repeat -1 { let a = 1 ; }", "repeat count { repeat n { let a = n ; set a = ( a * a ) ; } }",
		"repeat 3 { repeat 0 { } repeat 2 { post 0.01 from till to owed ; } }", "repeat 20 { post 0.01 from owed to due ; }", "repeat 21 { post 0.01 from owed to due ; }",
		"repeat 21 { post 0.00 from owed to due ; }", "repeat 20 { post 0.01 from owed to due ; } post -0.01 from owed to due ;", "repeat 1000000000000 { }", "repeat 999 { }", "repeat 998 { }",
		"let a = 3 ; repeat a { set a = 0 ; post 0.01 from owed to due ; }", "repeat 2 { post instalment ( m r n d ) from owed to due ; }",
		letsOf("v", impl.MaxVars) + " set v29 = ( v0 + v28 ) ; post ( 0.01 * v29 ) from owed to due ;",
		"{ let a = 1 ; let b = 2 ; } let c = 3 ; { let a = ( c + 1 ) ; post ( 0.01 * a ) from owed to due ; } repeat c { let a = c ; set c = ( c + a ) ; post ( 0.01 * c ) from due to owed ; }",
	}
}

// hookWordsFor: these, with what may stand in that hook alone.
func hookWordsFor(hook int64) []string {
	list := hookPieces()
	if hook != impl.HookTick {
		list = append(list, "post amount from till to owed ; reject 7 ;", "reject 1 ; reject 2 ;", "if ( amount < bal owed ) { reject 99 ; } else { post amount from owed to till ; }",
			"repeat 3 { post amount from till to owed ; } post ( amount + -100.00 ) from owed to till ;", "let a = 1 ; repeat 5 { if ( a = 4 ) { reject 5 ; } else { set a = ( a + 1 ) ; } }",
			"post 1.00 from owed to due ; { { reject 3 ; } }")
	}
	if hook != impl.HookPay {
		list = append(list, "next d ;", "next later ( today 1 ) ; next d ;", "next today ;", "next since ;", "next d ; next today ;", "if ( today < d ) { next d ; } else { }",
			"let a = today ; repeat 4 { set a = later ( a 1 ) ; next a ; post 0.01 from owed to due ; }")
	}
	return list
}

// hookEnvs: right Envs for typedText's product, among them such that each condition goes both ways.
func hookEnvs() []impl.Env {
	return []impl.Env{
		plainEnv(),
		envWith(func(e *impl.Env) { e.Params[4], e.Params[0], e.Count = 0, 0, 0 }),
		envWith(func(e *impl.Env) { e.Since, e.Balances[0], e.Balances[1], e.Amount = e.Today, -500, 0, 0 }),
		envWith(func(e *impl.Env) {
			e.Today, e.Since, e.Params[0], e.Params[3], e.Balances[0], e.Amount = impl.MaxDay, 0, 60, 0, impl.MaxMoney, impl.MaxMoney
		}),
	}
}

// Each kind of node in each hook, with each amount of gas.
func TestVmOfHooksByGas(t *testing.T) {
	for _, hook := range hookList() {
		kinds := map[int64]bool{}
		codes := map[int64]bool{}
		for _, words := range hookWordsFor(hook) {
			p := hookedProduct(t, hook, words)
			for _, n := range *hookIn(&p, hook) {
				kinds[n.Kind] = true
			}
			for i, e := range hookEnvs() {
				p.Basis = 1 + int64(i%3)
				checkDoneByGas(t, words, p, hook, e)
				codes[impl.Mean(p, hook, e).Code] = true
			}
			if t.Failed() {
				return
			}
		}
		for _, kind := range kindList() {
			barred := hook == impl.HookTick && (kind == impl.KAmount || kind == impl.KReject) || hook == impl.HookPay && kind == impl.KNext
			if !kinds[kind] && !barred {
				t.Errorf("no node of kind %d is in hook %d", kind, hook)
			}
		}
		for _, code := range []int64{impl.OK, impl.ErrGas, impl.ErrRange, impl.ErrFull} {
			if !codes[code] {
				t.Errorf("hook %d never ends with code %d", hook, code)
			}
		}
		if codes[impl.ErrReject] != (hook != impl.HookTick) || codes[impl.ErrTime] != (hook != impl.HookPay) {
			t.Errorf("hook %d ends with the codes %v", hook, codes)
		}
	}
}

// What is told by hand of some hooks, by their code as by their meaning.
func TestVmOfHooks(t *testing.T) {
	p := typedProduct(t, "post amount from till to owed ; next d ;", "if ( amount < 50.00 ) { reject 9 ; } else { }", "repeat 2 { post bal due from due to income ; }")
	e := plainEnv()
	run := func(hook int64) impl.VmOut { return impl.VmRun(impl.Compile(p, hook).Module, e) }
	if got := run(impl.HookOpen); !sameVm(got, impl.VmOut{Acts: actsAt("2 0 4000"), Next: 9600, Gas: 1995}) {
		t.Errorf("open is %+v", got)
	}
	if got := run(impl.HookPay); !sameVm(got, impl.VmOut{Reject: 9, Code: impl.ErrReject}) {
		t.Errorf("pay is %+v", got)
	}
	if got := run(impl.HookTick); !sameVm(got, impl.VmOut{Acts: actsAt("1 3 2500 1 3 2500"), Gas: 1989}) {
		t.Errorf("tick is %+v", got)
	}
	e.Gas = 10
	if got := run(impl.HookTick); !sameVm(got, impl.VmOut{Code: impl.ErrGas}) {
		t.Errorf("tick with too little gas is %+v", got)
	}
}

func TestVmOfMadeHooks(t *testing.T) {
	for i, c := range doneCases(t, 400) {
		m := impl.Compile(c.p, c.hook).Module
		got := checkDone(t, "made case "+strconv.Itoa(i)+": "+impl.ProductText(c.p), c.p, m, c.hook, c.e)
		if !sameOutcome(got, c.want) {
			t.Errorf("made case %d: %+v, not %+v", i, got, c.want)
		}
		checkVmBounds(t, m, c.e)
		if t.Failed() {
			return
		}
	}
}

func TestVmOfMadeHooksByGas(t *testing.T) {
	for i, c := range doneCases(t, 25) {
		if i%4 == 0 {
			checkDoneByGas(t, "made case "+strconv.Itoa(i)+": "+impl.ProductText(c.p), c.p, c.hook, c.e)
		}
		if t.Failed() {
			return
		}
	}
}

// The greatest hooks, and those with all slots, contras and Params that may be.
func TestVmOfGreatHooks(t *testing.T) {
	for i, l := range greatHooks() {
		for _, hook := range hookList() {
			p := emptyProduct()
			*hookIn(&p, hook) = l
			checkDoneByGas(t, "great hook "+strconv.Itoa(i), p, hook, plainEnv())
		}
	}
	for slots := 1; slots <= 6; slots++ {
		for contras := 0; contras <= 4; contras++ {
			p := sized(slots, contras, 8)
			e := impl.Env{Today: 9, Since: 9}
			for i, a := range p.Params {
				e.Params = append(e.Params, min(a.High, max(a.Low, int64(i))))
			}
			for i := range p.Slots {
				e.Balances = append(e.Balances, int64(100+i))
			}
			for _, hook := range hookList() {
				checkDoneByGas(t, "a product of some size", p, hook, e)
			}
		}
	}
	for _, hook := range hookList() {
		p := hookedProduct(t, hook, "repeat 30 { post instalment ( m r n d ) from owed to due ; }")
		checkDone(t, "instalments without an end", p, impl.Compile(p, hook).Module, hook, plainEnv())
	}
	// Blocks done within blocks, each more often than the gas lasts.
	body := block()
	for range 9 {
		body = block(repeat(number(impl.KInt, impl.MaxMoney), body))
	}
	for _, hook := range hookList() {
		p := emptyProduct()
		*hookIn(&p, hook) = body
		checkDoneByGas(t, "a hook without an end", p, hook, plainEnv())
	}
}

func TestVmOfTheLibrary(t *testing.T) {
	start := dayAt(2026, 1, 31)
	envs := []impl.Env{
		{Today: start, Since: start, Amount: 1000000}, {Today: start + 1, Since: start, Amount: 500, Count: 11}, {Today: start + 28, Since: start, Count: 2, Amount: 85592},
		{Today: start + 28, Since: start, Count: 59}, {Today: start, Since: start},
	}
	params := [][]int64{{50000, 12, start}, {50000, start + 300}, {120000, 1000000}}
	for i, text := range libraryTexts() {
		p := impl.ProductRead(text).Product
		for _, e := range envs {
			for _, balances := range [][]int64{{0, 0}, {3836, 1000000}, {1000, 20000}, {0, 5}} {
				e.Params, e.Balances = params[i], balances
				for _, hook := range hookList() {
					if !impl.EnvRight(p, e) {
						t.Fatalf("%+v is not right", e)
					}
					checkDoneByGas(t, text, p, hook, e)
				}
			}
		}
	}
}

// What is not right for the hook is refused by its code as well, where the code knows of it.
func TestVmOfHooksRefused(t *testing.T) {
	for _, hook := range hookList() {
		p := hookedProduct(t, hook, "post m from owed to due ;")
		m := impl.Compile(p, hook).Module
		changes := []func(e *impl.Env){
			func(e *impl.Env) { e.Gas = -1 }, func(e *impl.Env) { e.Gas = impl.MaxGas + 1 }, func(e *impl.Env) { e.Params = e.Params[1:] }, func(e *impl.Env) { e.Balances = nil },
			func(e *impl.Env) { e.Today = e.Since - 1 }, func(e *impl.Env) { e.Count = -1 }, func(e *impl.Env) { e.Count = impl.MaxCount + 1 }, func(e *impl.Env) { e.Amount = -1 },
			func(e *impl.Env) { e.Balances = slices.Repeat([]int64{impl.MaxMoney + 1}, 2) }, func(e *impl.Env) { e.Params[1] = impl.MaxMoney + 1 },
		}
		for _, change := range changes {
			if got := checkDone(t, "a wrong Env", p, m, hook, envWith(change)); got.Code != impl.ErrForm {
				t.Errorf("a wrong Env is told as %+v", got)
			}
		}
	}
}
