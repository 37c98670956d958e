package meter_test

import (
	"math/big"
	"math/rand"
	"reflect"
	"testing"

	"meter/meter"
)

// product is a times b, rounded, without a bound on what lies between.
func product(a int, b int) int {
	n := new(big.Int).Mul(big.NewInt(int64(a)), big.NewInt(int64(b)))
	n.Add(n.Mul(n, big.NewInt(2)), big.NewInt(1000))
	n.Div(n, big.NewInt(2000))
	return int(n.Int64())
}

// credit is what is left of one period's credit.
type credit struct{ period, left int }

// billOf tells the bill of some periods, with the credits as a queue.
func billOf(periods []meter.Period, t meter.Tariff) []meter.Line {
	var lines []meter.Line
	var queue []credit
	for now, p := range periods {
		l := meter.Line{In: p.In, Out: p.Out, Peak: p.Peak, Billed: p.Peak}
		for then, q := range periods[:now] {
			if now-then <= t.Demand.Periods {
				l.Billed = max(l.Billed, q.Peak*t.Demand.Percent/100)
			}
		}
		l.Power = product(l.Billed, t.Demand.Price)
		for class, b := range t.Blocks {
			l.Energy += product(min(p.In[class], b.Limit), b.Low) + product(max(p.In[class]-b.Limit, 0), b.High)
		}
		for len(queue) > 0 && queue[0].period < now-t.Net.Periods {
			l.Expired += queue[0].left
			queue = queue[1:]
		}
		for open := l.Energy; open > 0 && len(queue) > 0; {
			part := min(open, queue[0].left)
			open -= part
			queue[0].left -= part
			l.Applied += part
			if queue[0].left == 0 {
				queue = queue[1:]
			}
		}
		l.Paid = product(p.Out, t.Net.Price)
		queue = append(queue, credit{now, l.Paid})
		for _, c := range queue {
			l.Bank += c.left
		}
		l.Sum = max(t.Fixed+l.Energy-l.Applied+l.Power, t.Minimum)
		l.Tax = product(l.Sum, t.Tax)
		l.Total = l.Sum + l.Tax
		lines = append(lines, l)
	}
	return lines
}

func checkBill(t *testing.T, m meter.Meter, u meter.Tariff, want []meter.Line, e meter.Errno, at int) {
	t.Helper()
	got, gotE, gotAt := meter.Bill(m, u)
	if gotE != e || gotAt != at || len(got) != len(want) || (len(want) > 0 && !reflect.DeepEqual(got, want)) {
		t.Errorf("Bill(%.300v, %+v) = %+v, %d, %d, want %+v, %d, %d", m, u, got, gotE, gotAt, want, e, at)
	}
}

// freeTariff has periods of one day and no price at all. Every day begins with
// an hour A and an hour B, and the rest of it is C.
func freeTariff() meter.Tariff {
	hours := "AB" + sunday[2:]
	return meter.Tariff{Days: 1, First: 1, Last: 12, Hours: [4]string{hours, hours, hours, hours}}
}

// use is what a day has in the classes A, B and C, and what was fed in.
type use struct{ a, b, c, out int }

// daily has the uses of days in a row, each in the first three hours of its day.
func daily(uses ...use) meter.Meter {
	values := make([]meter.Value, 24*len(uses)-21)
	for i, u := range uses {
		values[24*i] = meter.Value{In: u.a, Out: u.out}
		values[24*i+1].In = u.b
		values[24*i+2].In = u.c
	}
	return meter.Meter{Step: 60, Start: 100 * 1440, Values: values}
}

func billLines(t *testing.T, m meter.Meter, u meter.Tariff, count int) []meter.Line {
	t.Helper()
	lines, e, at := meter.Bill(m, u)
	if e != meter.OK || at != 0 || len(lines) != count {
		t.Fatalf("Bill(%.300v, %+v) = %+v, %d, %d, want %d lines", m, u, lines, e, at, count)
	}
	return lines
}

func TestP12TheDocumentsInstance(t *testing.T) {
	u := freeTariff()
	u.Blocks = [3]meter.Block{{Limit: 1000, Low: 100, High: 200}, {Limit: 500, Low: 1, High: 77}, {Limit: 5, Low: 6, High: 7}}
	u.Demand.Price = 10
	u.Fixed, u.Minimum, u.Tax = 40, 100, 190
	want := meter.Line{In: [3]int{1500, 499, 0}, Peak: 1500, Billed: 1500, Energy: 200, Power: 15, Sum: 255, Tax: 48, Total: 303}
	checkBill(t, daily(use{a: 1500, b: 499}), u, []meter.Line{want}, meter.OK, 0)
}

func TestP10ALineForEveryPeriod(t *testing.T) {
	u := freeTariff()
	m := daily(use{1, 2, 3, 4}, use{50, 60, 40, 70}, use{out: 9}, use{a: 1}, use{})
	want := []meter.Line{
		{In: [3]int{1, 2, 3}, Out: 4, Peak: 3, Billed: 3},
		{In: [3]int{50, 60, 40}, Out: 70, Peak: 60, Billed: 60},
		{Out: 9},
		{In: [3]int{1, 0, 0}, Peak: 1, Billed: 1},
		{},
	}
	checkBill(t, m, u, want, meter.OK, 0)
	u.Days = 3
	want = []meter.Line{{In: [3]int{51, 62, 43}, Out: 83, Peak: 60, Billed: 60}, {In: [3]int{1, 0, 0}, Peak: 1, Billed: 1}}
	checkBill(t, m, u, want, meter.OK, 0)
}

func TestP10Billed(t *testing.T) {
	for _, c := range []struct {
		percent, periods int
		peaks, billed    []int
	}{
		{60, 2, []int{1000, 0, 0, 0, 601, 600, 0}, []int{1000, 600, 600, 0, 601, 600, 360}},
		{50, 1, []int{999, 498, 499, 500, 0, 0}, []int{999, 499, 499, 500, 250, 0}},
		{50, 1, []int{999, 500, 0}, []int{999, 500, 250}},
		{100, 1, []int{7, 6, 5, 9, 0, 0}, []int{7, 7, 6, 9, 9, 0}},
		{100, 3, []int{7, 8, 5, 0, 0, 0, 0}, []int{7, 8, 8, 8, 8, 5, 0}},
		{100, 3, []int{8, 7, 5, 0, 0, 0, 0}, []int{8, 8, 8, 8, 7, 5, 0}},
		{100, 12, []int{3, 0, 0, 0, 0, 0, 0, 0, 2}, []int{3, 3, 3, 3, 3, 3, 3, 3, 3}},
		{100, 8, []int{3, 0, 0, 0, 0, 0, 0, 0, 2}, []int{3, 3, 3, 3, 3, 3, 3, 3, 3}},
		{100, 7, []int{3, 0, 0, 0, 0, 0, 0, 0, 2}, []int{3, 3, 3, 3, 3, 3, 3, 3, 2}},
		{100, 0, []int{9, 0, 1, 0}, []int{9, 0, 1, 0}},
		{0, 12, []int{9, 0, 1, 0}, []int{9, 0, 1, 0}},
		{1, 1, []int{99, 0, 100, 0, 199, 0, 200, 0}, []int{99, 0, 100, 1, 199, 1, 200, 2}},
		{99, 2, []int{100, 99, 98, 98}, []int{100, 99, 99, 98}},
		{80, 4, []int{1, 2, 3, 4}, []int{1, 2, 3, 4}}, // later peaks do not count back
	} {
		u := freeTariff()
		u.Demand = meter.Demand{Price: 1000, Percent: c.percent, Periods: c.periods}
		var uses []use
		for i, peak := range c.peaks {
			uses = append(uses, []use{{a: peak}, {b: peak}, {c: peak}}[i%3])
		}
		for i, l := range billLines(t, daily(uses...), u, len(uses)) {
			if l.Peak != c.peaks[i] || l.Billed != c.billed[i] || l.Power != c.billed[i] || l.Total != c.billed[i] {
				t.Errorf("%d percent of %d periods ahead, peaks %v: line %d: %+v, want %d", c.percent, c.periods, c.peaks, i, l, c.billed[i])
			}
		}
	}
}

// The Peak is in watts: an interval of 15 minutes has four times its watt-hours.
func TestP10PowerOfShortIntervals(t *testing.T) {
	u := freeTariff()
	u.Demand.Price = 125
	for _, c := range []struct{ step, peak, power int }{{15, 12, 2}, {30, 6, 1}, {60, 3, 0}} {
		m := meter.Meter{Step: c.step, Values: []meter.Value{{In: 1}, {In: 3}, {In: 2}}}
		l := billLines(t, m, u, 1)[0]
		if l.Peak != c.peak || l.Billed != c.peak || l.Power != c.power {
			t.Errorf("step %d: %+v, want Peak %d, Power %d", c.step, l, c.peak, c.power)
		}
	}
}

func TestP10PowerIsRounded(t *testing.T) {
	for _, c := range []struct{ peak, price, power int }{{1, 499, 0}, {1, 500, 1}, {499, 1, 0}, {500, 1, 1}, {501, 1, 1}, {1499, 1, 1}, {3, 500, 2}, {3, 499, 1}, {1, 1000000, 1000}, {0, 1000000, 0}, {7, 0, 0}, {999999999, 1, 1000000}, {999999999, 1000000, 999999999000}} {
		u := freeTariff()
		u.Demand = meter.Demand{Price: c.price, Percent: 100, Periods: 12}
		if l := billLines(t, daily(use{c: c.peak}), u, 1)[0]; l.Power != c.power {
			t.Errorf("%d watts at %d: %+v, want Power %d", c.peak, c.price, l, c.power)
		}
	}
}

func TestP10Energy(t *testing.T) {
	for _, c := range []struct {
		in     int
		block  meter.Block
		energy int
	}{
		{0, meter.Block{Limit: 1000, Low: 100000, High: 100000}, 0},
		{999, meter.Block{Limit: 1000, Low: 1000, High: 0}, 999}, {1000, meter.Block{Limit: 1000, Low: 1000, High: 0}, 1000}, {1001, meter.Block{Limit: 1000, Low: 1000, High: 0}, 1000}, {5000, meter.Block{Limit: 1000, Low: 1000, High: 0}, 1000},
		{999, meter.Block{Limit: 1000, Low: 0, High: 1000}, 0}, {1000, meter.Block{Limit: 1000, Low: 0, High: 1000}, 0}, {1001, meter.Block{Limit: 1000, Low: 0, High: 1000}, 1}, {5000, meter.Block{Limit: 1000, Low: 0, High: 1000}, 4000},
		{10, meter.Block{Limit: 0, Low: 100000, High: 1000}, 10},
		{499, meter.Block{Limit: 1000, Low: 1, High: 0}, 0}, {500, meter.Block{Limit: 1000, Low: 1, High: 0}, 1}, {1499, meter.Block{Limit: 0, Low: 0, High: 1}, 1}, {1500, meter.Block{Limit: 0, Low: 0, High: 1}, 2},
		{2, meter.Block{Limit: 1, Low: 500, High: 500}, 2}, {2, meter.Block{Limit: 1, Low: 499, High: 499}, 0}, {2, meter.Block{Limit: 1, Low: 499, High: 500}, 1}, // each of the two is rounded
		{999999999, meter.Block{Limit: 1000000, Low: 100000, High: 100000}, 99999999900},
		{999999999, meter.Block{Limit: 1000000, Low: 3, High: 50000}, 3000 + 49949999950},
	} {
		for class := 0; class < 3; class++ {
			u := freeTariff()
			u.Blocks = [3]meter.Block{{Low: 100000, High: 100000}, {Low: 100000, High: 100000}, {Low: 100000, High: 100000}}
			u.Blocks[class] = c.block
			day := []use{{a: c.in}, {b: c.in}, {c: c.in}}[class]
			if l := billLines(t, daily(day), u, 1)[0]; l.Energy != c.energy || l.In[class] != c.in {
				t.Errorf("%d watt-hours of class %d at %+v: %+v, want Energy %d", c.in, class, c.block, l, c.energy)
			}
		}
	}
}

// Six numbers are rounded, each for itself, and begin anew in each period.
func TestP10EnergyIsTheSumOfSix(t *testing.T) {
	u := freeTariff()
	u.Blocks = [3]meter.Block{{Limit: 1, Low: 500, High: 1500}, {Limit: 2, Low: 750, High: 2500}, {Limit: 3, Low: 1500, High: 3500}}
	// 0.5, 1.5, 1.5, 2.5, 4.5, 3.5
	full := use{a: 2, b: 3, c: 4}
	for i, l := range billLines(t, daily(full, full, use{a: 1, b: 2, c: 3}, full), u, 4) {
		want := 1 + 2 + 2 + 3 + 5 + 4
		if i == 2 {
			want = 1 + 2 + 5
		}
		if l.Energy != want {
			t.Errorf("line %d: %+v, want Energy %d", i, l, want)
		}
	}
}

// creditTariff prices a watt-hour at one mill both ways.
func creditTariff(periods int) meter.Tariff {
	u := freeTariff()
	u.Blocks[0] = meter.Block{Low: 1000, High: 1000}
	u.Net = meter.Net{Price: 1000, Periods: periods}
	return u
}

func TestP11Credits(t *testing.T) {
	for _, c := range []struct {
		what                   string
		periods                int
		energy, paid           []int
		applied, expired, bank []int
	}{
		{"a credit is there for the next periods and not for its own", 1, []int{4, 3, 0, 0}, []int{10, 0, 0, 0}, []int{0, 3, 0, 0}, []int{0, 0, 7, 0}, []int{10, 7, 0, 0}},
		{"with 0 periods every credit expires unused", 0, []int{5, 5, 5}, []int{10, 20, 0}, []int{0, 0, 0}, []int{0, 10, 20}, []int{10, 20, 0}},
		{"the oldest credit is used first", 2, []int{0, 0, 15, 0, 0}, []int{10, 20, 0, 0, 0}, []int{0, 0, 15, 0, 0}, []int{0, 0, 0, 0, 15}, []int{10, 30, 15, 15, 0}},
		{"a part of the oldest credit", 2, []int{0, 0, 6, 0, 0}, []int{10, 20, 0, 0, 0}, []int{0, 0, 6, 0, 0}, []int{0, 0, 0, 4, 20}, []int{10, 30, 24, 20, 0}},
		{"all of the oldest credit", 2, []int{0, 0, 10, 0, 0}, []int{10, 20, 0, 0, 0}, []int{0, 0, 10, 0, 0}, []int{0, 0, 0, 0, 20}, []int{10, 30, 20, 20, 0}},
		{"no more than there is", 3, []int{0, 9, 9}, []int{3, 4, 0}, []int{0, 3, 4}, []int{0, 0, 0}, []int{3, 4, 0}},
		{"no more than Energy", 3, []int{0, 2, 2}, []int{3, 4, 0}, []int{0, 2, 2}, []int{0, 0, 0}, []int{3, 5, 3}},
		{"as much as Energy", 3, []int{0, 3, 4, 1}, []int{3, 4, 0, 0}, []int{0, 3, 4, 0}, []int{0, 0, 0, 0}, []int{3, 4, 0, 0}},
		{"what expires is not used", 1, []int{0, 0, 9, 9}, []int{5, 2, 1, 0}, []int{0, 0, 2, 1}, []int{0, 0, 5, 0}, []int{5, 7, 1, 0}},
		{"of several credits", 4, []int{0, 0, 0, 0, 7, 1, 0, 0, 0}, []int{1, 2, 3, 4, 5, 0, 0, 0, 0}, []int{0, 0, 0, 0, 7, 1, 0, 0, 0}, []int{0, 0, 0, 0, 0, 0, 0, 0, 2}, []int{1, 3, 6, 10, 8, 7, 7, 7, 5}},
		{"twelve periods are more than there are here", 12, []int{0, 0, 0, 0, 0, 0, 0, 0, 8}, []int{9, 0, 0, 0, 0, 0, 0, 0, 5}, []int{0, 0, 0, 0, 0, 0, 0, 0, 8}, []int{0, 0, 0, 0, 0, 0, 0, 0, 0}, []int{9, 9, 9, 9, 9, 9, 9, 9, 6}},
	} {
		var uses []use
		for i := range c.energy {
			uses = append(uses, use{a: c.energy[i], out: c.paid[i]})
		}
		for i, l := range billLines(t, daily(uses...), creditTariff(c.periods), len(uses)) {
			due := c.energy[i] - c.applied[i]
			want := meter.Line{In: [3]int{c.energy[i], 0, 0}, Out: c.paid[i], Peak: c.energy[i], Billed: c.energy[i], Energy: c.energy[i], Applied: c.applied[i], Expired: c.expired[i], Paid: c.paid[i], Bank: c.bank[i], Sum: due, Total: due}
			if l != want {
				t.Errorf("%s: line %d: %+v, want %+v", c.what, i, l, want)
			}
		}
	}
}

// A credit can be used for as many periods as Net.Periods says, and expires in the next one.
func TestP11TheAgeOfACredit(t *testing.T) {
	for periods := 0; periods <= 12; periods++ {
		for day := 1; day < 9; day++ {
			uses := make([]use, 9)
			uses[0].out = 10
			uses[day].a = 4
			for i, l := range billLines(t, daily(uses...), creditTariff(periods), 9) {
				applied, expired := 0, 0
				if i == day && day <= periods {
					applied = 4
				}
				if i == periods+1 && day <= periods {
					expired = 6
				} else if i == periods+1 {
					expired = 10
				}
				if l.Applied != applied || l.Expired != expired {
					t.Errorf("%d periods, energy in period %d: line %d: %+v, want Applied %d, Expired %d", periods, day, i, l, applied, expired)
				}
			}
		}
	}
}

func TestP11PaidIsRounded(t *testing.T) {
	for _, c := range []struct{ out, price, paid int }{{1, 499, 0}, {1, 500, 1}, {499, 1, 0}, {500, 1, 1}, {1499, 1, 1}, {1500, 1, 2}, {402, 250, 101}, {401, 250, 100}, {7, 0, 0}, {0, 100000, 0}, {999999999, 100000, 99999999900}} {
		u := freeTariff()
		u.Net = meter.Net{Price: c.price, Periods: 1}
		l := billLines(t, daily(use{out: c.out}, use{}), u, 2)
		if l[0].Paid != c.paid || l[0].Bank != c.paid || l[0].Expired != 0 || l[1].Paid != 0 || l[1].Bank != c.paid {
			t.Errorf("%d watt-hours at %d: %+v, want %d", c.out, c.price, l, c.paid)
		}
	}
}

// Paid is of the sum of Out, and not the sum of what each interval would be paid.
func TestP11PaidIsOfTheWholePeriod(t *testing.T) {
	u := freeTariff()
	u.Net.Price = 250
	m := meter.Meter{Step: 15, Values: []meter.Value{{Out: 1}, {Out: 1}, {Out: 1}, {Out: 1}}}
	if l := billLines(t, m, u, 1)[0]; l.Out != 4 || l.Paid != 1 {
		t.Errorf("%+v, want Paid 1", l)
	}
}

func TestP12SumAndMinimum(t *testing.T) {
	for _, c := range []struct{ fixed, minimum, energy, power, sum int }{
		{0, 0, 0, 0, 0}, {40, 0, 30, 20, 90}, {40, 89, 30, 20, 90}, {40, 90, 30, 20, 90}, {40, 91, 30, 20, 91}, {40, 1000000, 30, 20, 1000000}, {1000000, 0, 1, 2, 1000003}, {0, 100, 0, 0, 100}, {5, 0, 0, 0, 5}, {0, 0, 6, 0, 6}, {0, 0, 0, 7, 7},
	} {
		u := freeTariff()
		u.Blocks[1] = meter.Block{Low: c.energy * 1000, High: c.energy * 1000}
		u.Demand.Price = c.power * 1000
		u.Fixed, u.Minimum = c.fixed, c.minimum
		l := billLines(t, daily(use{b: 1}), u, 1)[0]
		if l.Energy != c.energy || l.Power != c.power || l.Sum != c.sum || l.Tax != 0 || l.Total != c.sum {
			t.Errorf("%+v: %+v", c, l)
		}
	}
}

// Credits pay for energy alone, and are used even if the minimum takes the place of the sum.
func TestP12CreditsAndTheMinimum(t *testing.T) {
	u := creditTariff(3)
	u.Demand.Price = 1000
	u.Fixed, u.Minimum, u.Tax = 5, 20, 100
	m := daily(use{out: 100}, use{a: 30}, use{a: 7}, use{a: 70})
	want := []meter.Line{
		{Out: 100, Paid: 100, Bank: 100, Sum: 20, Tax: 2, Total: 22},
		{In: [3]int{30, 0, 0}, Peak: 30, Billed: 30, Energy: 30, Power: 30, Applied: 30, Bank: 70, Sum: 35, Tax: 4, Total: 39},
		{In: [3]int{7, 0, 0}, Peak: 7, Billed: 7, Energy: 7, Power: 7, Applied: 7, Bank: 63, Sum: 20, Tax: 2, Total: 22},
		{In: [3]int{70, 0, 0}, Peak: 70, Billed: 70, Energy: 70, Power: 70, Applied: 63, Sum: 82, Tax: 8, Total: 90},
	}
	checkBill(t, m, u, want, meter.OK, 0)
}

func TestP12TaxIsRounded(t *testing.T) {
	for _, c := range []struct{ fixed, minimum, tax, want int }{{255, 0, 190, 48}, {5, 0, 100, 1}, {4, 0, 100, 0}, {499, 0, 1, 0}, {500, 0, 1, 1}, {1499, 0, 1, 1}, {1500, 0, 1, 2}, {77, 0, 0, 0}, {77, 0, 1000, 77}, {0, 0, 1000, 0}, {3, 500, 1, 1}, {1000000, 0, 1000, 1000000}, {1000000, 0, 999, 999000}} {
		u := freeTariff()
		u.Fixed, u.Minimum, u.Tax = c.fixed, c.minimum, c.tax
		l := billLines(t, daily(use{c: 3}), u, 1)[0]
		if l.Tax != c.want || l.Total != max(c.fixed, c.minimum)+c.want {
			t.Errorf("%+v: %+v", c, l)
		}
	}
}

// Nothing wraps round, and a bill can be printed, whatever the tariff asks.
func TestP10P11P12TheLargestNumbers(t *testing.T) {
	u := freeTariff()
	for i := range bounds(&u) {
		if b := bounds(&u)[i]; b.line >= 7 {
			*b.number = b.high
		}
	}
	for _, step := range []int{15, 30, 60} {
		for _, days := range []int{1, 2, 31} {
			for _, limit := range []int{0, 1000000} {
				u.Days = days
				for i := range u.Blocks {
					u.Blocks[i].Limit = limit
				}
				m := meter.Meter{Step: step, Values: make([]meter.Value, 200)}
				for i := range m.Values {
					m.Values[i] = meter.Value{In: 999999999, Out: 999999999}
				}
				periods, e, at := splitOf(m, u)
				want := billOf(periods, u)
				checkBill(t, m, u, want, e, at)
				if meter.PrintBill(want) != billText(want) {
					t.Errorf("%+v is not printed", want)
				}
			}
		}
	}
}

// smallOften is a number below n that is often a small one.
func smallOften(r *rand.Rand, n int) int {
	switch r.Intn(4) {
	case 0:
		return 0
	case 1:
		return r.Intn(min(n, 10))
	case 2:
		return r.Intn(min(n, 2000))
	}
	return r.Intn(n)
}

func randomPrices(r *rand.Rand) meter.Tariff {
	u := freeTariff()
	u.Zone = randomZone(r)
	u.Days = []int{1, 1, 1, 1, 2, 3, 8, 31}[r.Intn(8)]
	u.Gap = 8
	u.First = 1 + r.Intn(12)
	u.Last = u.First + r.Intn(13-u.First)
	u.Hours = randomHours(r)
	for i := range u.Blocks {
		u.Blocks[i] = meter.Block{Limit: smallOften(r, 1000001), Low: smallOften(r, 100001), High: smallOften(r, 100001)}
	}
	u.Demand = meter.Demand{Price: smallOften(r, 1000001), Percent: r.Intn(101), Periods: r.Intn(13)}
	u.Net = meter.Net{Price: smallOften(r, 100001), Periods: r.Intn(13)}
	u.Fixed, u.Minimum, u.Tax = smallOften(r, 1000001), smallOften(r, 1000001), r.Intn(1001)
	return u
}

func randomReads(r *rand.Rand, z meter.Zone) meter.Meter {
	m := meter.Meter{Step: []int{15, 30, 60, 60, 60}[r.Intn(5)]}
	most := []int{2, 100, 100000, 1000000000}[r.Intn(4)]
	m.Values = make([]meter.Value, 1+r.Intn(200))
	for i := range m.Values {
		if r.Intn(2) == 0 {
			m.Values[i].In = r.Intn(most)
		}
		if r.Intn(2) == 0 {
			m.Values[i].Out = r.Intn(most)
		}
		if r.Intn(10) == 0 && 0 < i && i < len(m.Values)-1 {
			m.Values[i] = meter.Value{Missing: true}
		}
	}
	start := max(0, min(randomStart(r, z), lastMinute+1-m.Step*len(m.Values)))
	m.Start = start - start%m.Step
	return m
}

func TestP10P11P12AgainstAQueueOfCredits(t *testing.T) {
	r := rand.New(rand.NewSource(10))
	var count, expired, applied, held, low int
	for turn := 0; turn < 6000; turn++ {
		u := randomPrices(r)
		m := randomReads(r, u.Zone)
		if firstBadRow(m.Values, u.Gap) >= 0 {
			continue
		}
		periods, e, at := splitOf(m, u)
		want := billOf(periods, u)
		checkBill(t, m, u, want, e, at)
		for _, l := range want {
			count++
			if l.Expired > 0 {
				expired++
			}
			if l.Applied > 0 && l.Applied < l.Energy {
				applied++
			}
			if l.Billed > l.Peak {
				held++
			}
			if l.Sum == u.Minimum {
				low++
			}
		}
	}
	for _, n := range []int{expired, applied, held, low} {
		if n < 500 || count < 10000 {
			t.Errorf("of %d lines %d have expired credits, %d applied ones, %d earlier peaks, %d the minimum", count, expired, applied, held, low)
		}
	}
}

// The errors are those of Split, in its order.
func TestP10Errors(t *testing.T) {
	for _, m := range badMeters() {
		checkBill(t, m, someTariff(), nil, meter.ErrRange, 0)
		checkBill(t, m, meter.Tariff{}, nil, meter.ErrRange, 0)
	}
	for _, bad := range badTariffs() {
		checkBill(t, meter.Meter{Step: 60, Start: 60000, Values: ins(1, 2, 3)}, bad, nil, meter.ErrTerm, 0)
		checkBill(t, meter.Meter{Step: 60, Start: 60000, Values: ins(1, 2, -1)}, bad, nil, meter.ErrTerm, 0)
	}
	u := freeTariff()
	u.Gap = 1
	for _, c := range []struct {
		values []meter.Value
		at     int
	}{{ins(-1, 1, 2), 0}, {ins(1, -1, 2, -1), 3}, {ins(1, -1, 2, -1, -1, 3), 3}} {
		checkBill(t, meter.Meter{Step: 30, Values: c.values}, u, nil, meter.ErrGap, c.at)
	}
	u.Zone.Offset = 120
	late := meter.Meter{Step: 60, Start: lastMinute + 1 - 240, Values: ins(1, 2, 3, 4)}
	checkBill(t, late, u, nil, meter.ErrRange, 2)
	late.Values = ins(1, 2, -1, -1)
	checkBill(t, late, u, nil, meter.ErrGap, 2)
	u.Zone.Offset = -1
	checkBill(t, meter.Meter{Step: 15, Values: ins(1, 2)}, u, nil, meter.ErrRange, 0)
}

// What was missing is billed with the value that it was filled with.
func TestP10MissingValues(t *testing.T) {
	u := creditTariff(1)
	u.Gap = 2
	u.Demand.Price = 1000
	u.Hours = [4]string{sunday, sunday, sunday, sunday}
	u.Blocks[2] = meter.Block{Low: 1000, High: 1000}
	m := meter.Meter{Step: 30, Values: []meter.Value{{In: 9, Out: 50}, {Missing: true}, {Missing: true}, {In: 5, Out: 60}}}
	want := meter.Line{In: [3]int{0, 0, 27}, Out: 219, Peak: 18, Billed: 18, Energy: 27, Power: 18, Paid: 219, Bank: 219, Sum: 45, Total: 45}
	checkBill(t, m, u, []meter.Line{want}, meter.OK, 0)
}
