package tests

import (
	"math"
	"reflect"
	"slices"
	"testing"

	"loop.example/g00221/impl"
)

// loan: a Loan by its fields, in their order.
func loan(principal int64, rate int64, basis int64, start int64, term int64) impl.Loan {
	return impl.Loan{Principal: principal, Rate: rate, Basis: basis, Start: start, Term: term}
}

// plainLoan: a right loan in which one field at a time is turned.
func plainLoan() impl.Loan {
	return loan(1000000, 50000, impl.BasisAct365, dayAt(2026, 1, 31), 12)
}

// with: the plain loan with one thing turned.
func with(turn func(l *impl.Loan)) impl.Loan {
	l := plainLoan()
	turn(&l)
	return l
}

// rightLoans: at each edge of each field, and others.
func rightLoans() []impl.Loan {
	var list []impl.Loan
	starts := []int64{0, dayAt(2003, 12, 31), dayAt(2024, 1, 29), dayAt(2026, 1, 30), dayAt(2027, 10, 31)}
	for _, principal := range []int64{1, 2, 99, 1200, 100000, 123456789, impl.MaxPrincipal - 1, impl.MaxPrincipal} {
		for _, rate := range []int64{0, 1, 52500, 120000, impl.MaxRate} {
			for _, term := range []int64{1, 2, 7, 24, impl.MaxTerm} {
				start := starts[(principal+rate+term)%int64(len(starts))]
				for basis := int64(impl.BasisAct365); basis <= impl.Basis30E; basis++ {
					list = append(list, loan(principal, rate, basis, start, term))
				}
			}
		}
	}
	return append(list,
		loan(5000000, 80000, impl.Basis30E, dayAt(2094, 12, 31), impl.MaxTerm),
		loan(5000000, 80000, impl.BasisAct360, dayAt(2099, 11, 30), 1))
}

// wrongLoans: each has one field beyond its edge.
func wrongLoans() []impl.Loan {
	list := []impl.Loan{{}, loan(-1, -1, -1, -1, -1), loan(0, impl.MaxRate+1, 0, 0, 0)}
	far := []int64{math.MinInt64, math.MinInt64 + 1, -1 << 40, 1 << 40, 1 << 62, math.MaxInt64}
	for _, n := range append(far, 0, -1, -1000000, impl.MaxPrincipal+1, 2*impl.MaxPrincipal) {
		list = append(list, with(func(l *impl.Loan) { l.Principal = n }))
	}
	for _, n := range append(far, -1, -50000, impl.MaxRate+1, impl.RateUnit) {
		list = append(list, with(func(l *impl.Loan) { l.Rate = n }))
	}
	for _, n := range append(far, 0, -1, 4, 5) {
		list = append(list, with(func(l *impl.Loan) { l.Basis = n }))
	}
	for _, n := range append(far, 0, -1, -12, impl.MaxTerm+1) {
		list = append(list, with(func(l *impl.Loan) { l.Term = n }))
	}
	for _, n := range append(noDays(), impl.MaxDay, dayAt(2099, 1, 1)) {
		list = append(list, with(func(l *impl.Loan) { l.Start = n }))
	}
	return append(list,
		loan(1000, 50000, impl.BasisAct365, impl.MaxDay, 1),
		loan(1000, 50000, impl.BasisAct365, dayAt(2099, 12, 1), 1),
		loan(1000, 50000, impl.BasisAct365, dayAt(2095, 1, 1), impl.MaxTerm))
}

// rowsOf: what comes about at each due day of a right loan, by numbers without bounds and the library's calendar.
func rowsOf(l impl.Loan, pay int64) []impl.Row {
	var rows []impl.Row
	left, from := l.Principal, l.Start
	for i := int64(1); i <= l.Term; i++ {
		due := monthsBehind(l.Start, i).Day
		interest := interestOf(left, l.Rate, l.Basis, from, due).N
		paid := pay
		if paid > left+interest {
			paid = left + interest
		}
		left, from = left+interest-paid, due
		rows = append(rows, impl.Row{Due: due, Interest: interest, Pay: paid, Left: left})
	}
	return rows
}

// leftOf: what rowsOf leaves at the end.
func leftOf(l impl.Loan, pay int64) int64 {
	return rowsOf(l, pay)[l.Term-1].Left
}

func TestPlanConstants(t *testing.T) {
	if impl.MaxPrincipal != 10000000000 || impl.MaxRate != 500000 || impl.MaxTerm != 60 {
		t.Error("a bound is another one")
	}
}

func TestLoanRight(t *testing.T) {
	for _, l := range append(rightLoans(), plainLoan()) {
		if !impl.LoanRight(l) {
			t.Errorf("%+v is right", l)
		}
	}
	for _, l := range wrongLoans() {
		if impl.LoanRight(l) {
			t.Errorf("%+v is not right", l)
		}
	}
}

// Whatever the term, a loan is right up to the last Start whose last due day is a day.
func TestLoanRightLastDue(t *testing.T) {
	for start := dayAt(2094, 10, 1); start <= impl.MaxDay; start++ {
		for term := int64(1); term <= impl.MaxTerm; term++ {
			want := monthsBehind(start, term).Code == impl.OK
			l := loan(1000, 50000, impl.Basis30E, start, term)
			if got := impl.LoanRight(l); got != want {
				t.Fatalf("LoanRight of %+v is %v", l, got)
			}
		}
	}
}

func TestWrongLoans(t *testing.T) {
	for _, l := range wrongLoans() {
		for _, pay := range []int64{0, 1, 100000, -1, 2*impl.MaxPrincipal + 1} {
			if got := impl.LoanLeft(l, pay); got != refused(impl.ErrForm) {
				t.Errorf("LoanLeft(%+v, %d) is %+v", l, pay, got)
			}
		}
		if got := impl.Instalment(l); got != refused(impl.ErrForm) {
			t.Errorf("Instalment(%+v) is %+v", l, got)
		}
		got := impl.Plan(l)
		if got.Instalment != 0 || len(got.Rows) != 0 || got.Code != impl.ErrForm {
			t.Errorf("Plan(%+v) is %+v", l, got)
		}
	}
}

func TestLoanLeft(t *testing.T) {
	const most = impl.MaxPrincipal
	free := loan(1200, 0, impl.BasisAct365, 0, 12)
	two := loan(100000, 120000, impl.Basis30E, 0, 2)
	cases := []struct {
		l    impl.Loan
		pay  int64
		want impl.MoneyOut
	}{
		{free, 0, money(1200)},
		{free, 1, money(1188)},
		{free, 99, money(12)},
		{free, 100, money(0)},
		{free, 101, money(0)},
		// Nothing is left long ahead of the last due day.
		{free, 600, money(0)},
		{free, 1200, money(0)},
		{free, 2 * most, money(0)},
		{free, -1, refused(impl.ErrForm)},
		{free, 2*most + 1, refused(impl.ErrForm)},
		{free, math.MaxInt64, refused(impl.ErrForm)},
		{free, math.MinInt64, refused(impl.ErrForm)},
		// Interest of 1000 on 100000, then of 1010 on 101000.
		{two, 0, money(102010)},
		{two, 1000, money(100000)},
		{two, 50750, money(2)},
		{two, 50751, money(0)},
		{two, 101000, money(0)},
		{loan(1, 0, impl.BasisAct365, 0, 1), 0, money(1)},
		{loan(1, 0, impl.BasisAct365, 0, 1), 1, money(0)},
		{loan(most, 0, impl.BasisAct360, 0, impl.MaxTerm), 0, money(most)},
		{loan(most, impl.MaxRate, impl.BasisAct360, 0, 1), 0, money(10430555556)},
		{loan(most, impl.MaxRate, impl.BasisAct360, 0, 1), 10430555555, money(1)},
		{loan(most, impl.MaxRate, impl.BasisAct360, 0, 1), 10430555556, money(0)},
		{loan(most, impl.MaxRate, impl.BasisAct360, 0, impl.MaxTerm), 2 * most, money(0)},
		{loan(most, impl.MaxRate, impl.BasisAct360, 0, impl.MaxTerm), 2*most + 1, refused(impl.ErrForm)},
		{loan(most, impl.MaxRate, impl.BasisAct360, 0, impl.MaxTerm), -1, refused(impl.ErrForm)},
		// From January 31st on 28, 31 and 30 days.
		{loan(1000000, 365000, impl.BasisAct365, dayAt(2026, 1, 31), 1), 0, money(1028000)},
		{loan(1000000, 365000, impl.BasisAct365, dayAt(2026, 1, 31), 2), 28000, money(1003000)},
		{loan(1000000, 365000, impl.BasisAct365, dayAt(2026, 1, 31), 3), 1000000, money(0)},
	}
	for _, c := range cases {
		if got := impl.LoanLeft(c.l, c.pay); got != c.want {
			t.Errorf("LoanLeft(%+v, %d) is %+v, not %+v", c.l, c.pay, got, c.want)
		}
	}
}

// What is left is that of the document's steps, and a greater pay leaves no more.
func TestLoanLeftOfSteps(t *testing.T) {
	for _, l := range rightLoans() {
		last := int64(math.MaxInt64)
		part := l.Principal / l.Term
		pays := []int64{0, part / 2, part, part + part/5, part + part/2, l.Principal, 2 * l.Principal}
		slices.Sort(pays)
		for _, pay := range pays {
			got := impl.LoanLeft(l, pay)
			if want := money(leftOf(l, pay)); got != want {
				t.Fatalf("LoanLeft(%+v, %d) is %+v, not %+v", l, pay, got, want)
			}
			if got.N > last {
				t.Fatalf("LoanLeft(%+v, %d) is %d, of a lesser pay %d", l, pay, got.N, last)
			}
			last = got.N
		}
	}
}

func TestInstalment(t *testing.T) {
	const most = impl.MaxPrincipal
	cases := []struct {
		l    impl.Loan
		want int64
	}{
		{loan(1200, 0, impl.BasisAct365, 0, 12), 100},
		{loan(100000, 120000, impl.Basis30E, 0, 2), 50751},
		// Parts that do not come out even are rounded up.
		{loan(1000, 0, impl.BasisAct365, 0, 3), 334},
		{loan(1001, 0, impl.Basis30E, 0, 10), 101},
		{loan(1199, 0, impl.BasisAct360, 0, 12), 100},
		{loan(1201, 0, impl.BasisAct360, 0, 12), 101},
		{loan(most, 0, impl.BasisAct360, 0, 3), 3333333334},
		{loan(most, 0, impl.BasisAct360, 0, 1), most},
		{loan(1, 0, impl.BasisAct365, 0, 1), 1},
		{loan(1, 0, impl.BasisAct365, 0, impl.MaxTerm), 1},
		{loan(1, impl.MaxRate, impl.BasisAct365, 0, impl.MaxTerm), 1},
		{loan(2, impl.MaxRate, impl.BasisAct365, 0, 1), 2},
		{loan(most, impl.MaxRate, impl.BasisAct360, 0, 1), 10430555556},
		{loan(most, impl.MaxRate, impl.BasisAct365, 0, 1), 10424657534},
		{loan(most, impl.MaxRate, impl.Basis30E, 0, 1), 10416666667},
		{loan(1000000, 365000, impl.BasisAct365, dayAt(2026, 1, 31), 1), 1028000},
		{loan(1000000, 365000, impl.BasisAct365, dayAt(2024, 1, 31), 1), 1029000},
	}
	for _, c := range cases {
		if got := impl.Instalment(c.l); got != money(c.want) {
			t.Errorf("Instalment(%+v) is %+v, not %d", c.l, got, c.want)
		}
	}
}

// Promise 8: the instalment leaves nothing, one hundredth less leaves something.
func TestInstalmentIsLeast(t *testing.T) {
	for _, l := range rightLoans() {
		got := impl.Instalment(l)
		if got.Code != impl.OK || got.N < 1 || got.N > 2*impl.MaxPrincipal {
			t.Fatalf("Instalment(%+v) is %+v", l, got)
		}
		if leftOf(l, got.N) != 0 || impl.LoanLeft(l, got.N) != money(0) {
			t.Fatalf("Instalment(%+v) is %d, which leaves something", l, got.N)
		}
		less := impl.LoanLeft(l, got.N-1)
		if leftOf(l, got.N-1) < 1 || less.N < 1 || less.Code != impl.OK {
			t.Fatalf("Instalment(%+v) is %d, but one less leaves nothing", l, got.N)
		}
	}
}

// Promise 8, of all small loans without interest: the parts, rounded up.
func TestInstalmentOfParts(t *testing.T) {
	for principal := int64(1); principal <= 130; principal++ {
		for term := int64(1); term <= impl.MaxTerm; term++ {
			l := loan(principal, 0, 1+principal%3, 100*principal, term)
			if got := impl.Instalment(l); got != money((principal+term-1)/term) {
				t.Fatalf("Instalment(%+v) is %+v", l, got)
			}
		}
	}
}

// rising: the instalments of loans do not fall.
func rising(t *testing.T, loans []impl.Loan) {
	t.Helper()
	last := int64(0)
	for _, l := range loans {
		got := impl.Instalment(l)
		if got.Code != impl.OK || got.N < last {
			t.Fatalf("Instalment(%+v) is %+v, of one less %d", l, got, last)
		}
		last = got.N
	}
}

// Promise 8: a greater loan, or one at a higher rate, has no lesser instalment.
func TestInstalmentRises(t *testing.T) {
	for _, term := range []int64{1, 5, 24, impl.MaxTerm} {
		for basis := int64(impl.BasisAct365); basis <= impl.Basis30E; basis++ {
			var greater, higher []impl.Loan
			for n := int64(1); n <= 60; n++ {
				greater = append(greater, loan(n, 130000, basis, 30, term))
			}
			for _, n := range []int64{99, 100, 101, 12345, 1000000, 1000001, 123456789, impl.MaxPrincipal - 1, impl.MaxPrincipal} {
				greater = append(greater, loan(n, 130000, basis, 30, term))
			}
			for _, n := range []int64{0, 1, 2, 100, 9999, 10000, 52500, 52501, 300000, impl.MaxRate - 1, impl.MaxRate} {
				higher = append(higher, loan(777777, n, basis, 30, term))
			}
			rising(t, greater)
			rising(t, higher)
		}
	}
}

func TestPlan(t *testing.T) {
	cases := []struct {
		l    impl.Loan
		want impl.PlanOut
	}{
		{loan(100000, 120000, impl.Basis30E, 0, 2), impl.PlanOut{Instalment: 50751, Rows: []impl.Row{
			{Due: 31, Interest: 1000, Pay: 50751, Left: 50249}, {Due: 60, Interest: 502, Pay: 50751}}}},
		{loan(1000, 0, impl.BasisAct365, 30, 3), impl.PlanOut{Instalment: 334, Rows: []impl.Row{
			{Due: 59, Pay: 334, Left: 666}, {Due: 90, Pay: 334, Left: 332}, {Due: 120, Pay: 332}}}},
		// All is paid ahead of the last due day.
		{loan(2, 0, impl.Basis30E, 0, 4), impl.PlanOut{Instalment: 1, Rows: []impl.Row{
			{Due: 31, Pay: 1, Left: 1}, {Due: 60, Pay: 1}, {Due: 91}, {Due: 121}}}},
		{loan(1000000, 365000, impl.BasisAct365, dayAt(2026, 1, 31), 1), impl.PlanOut{Instalment: 1028000,
			Rows: []impl.Row{{Due: dayAt(2026, 2, 28), Interest: 28000, Pay: 1028000}}}},
	}
	for _, c := range cases {
		if got := impl.Plan(c.l); !reflect.DeepEqual(got, c.want) {
			t.Errorf("Plan(%+v) is %+v, not %+v", c.l, got, c.want)
		}
	}
}

// A Start late in a month: each due day is counted from Start, so that a short month shortens no later one.
func TestPlanDueDays(t *testing.T) {
	for _, number := range []int64{28, 29, 30, 31} {
		for _, year := range []int64{2023, 2024, 2025, 2026} {
			start := dayAt(year, 1, number)
			rows := impl.Plan(loan(1000000, 50000, impl.BasisAct365, start, impl.MaxTerm)).Rows
			if len(rows) != impl.MaxTerm {
				t.Fatalf("of %d months there are %d rows", impl.MaxTerm, len(rows))
			}
			for i, row := range rows {
				if row.Due != monthsBehind(start, int64(i)+1).Day {
					t.Fatalf("due day %d behind %s is %s", i+1, impl.DateText(start), impl.DateText(row.Due))
				}
			}
		}
	}
}

// Promise 9: all rows pay what was lent and all interest, none more than the instalment, and nothing is left.
func TestPlanPays(t *testing.T) {
	for _, l := range rightLoans() {
		got := impl.Plan(l)
		if got.Code != impl.OK || money(got.Instalment) != impl.Instalment(l) || int64(len(got.Rows)) != l.Term {
			t.Fatalf("Plan(%+v) is %+v", l, got)
		}
		if want := rowsOf(l, got.Instalment); !reflect.DeepEqual(got.Rows, want) {
			t.Fatalf("the rows of %+v are %+v, not %+v", l, got.Rows, want)
		}
		paid, borne := int64(0), int64(0)
		for _, row := range got.Rows {
			if row.Pay < 0 || row.Pay > got.Instalment {
				t.Fatalf("a row of %+v pays %+v by %d", l, row, got.Instalment)
			}
			paid, borne = paid+row.Pay, borne+row.Interest
		}
		if paid != l.Principal+borne || got.Rows[l.Term-1].Left != 0 {
			t.Fatalf("the plan of %+v pays %d, where it bears %d", l, paid, borne)
		}
	}
}

// One plan's rows are not another one's.
func TestPlanIsNew(t *testing.T) {
	l := plainLoan()
	first := impl.Plan(l)
	for i := range first.Rows {
		first.Rows[i] = impl.Row{}
	}
	if second := impl.Plan(l); !reflect.DeepEqual(second.Rows, rowsOf(l, second.Instalment)) {
		t.Errorf("the second plan is %+v", second)
	}
}
