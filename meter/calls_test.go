package meter_test

import (
	"math/rand"
	"reflect"
	"slices"
	"strings"
	"testing"
	"unsafe"

	"meter/meter"
)

// oddNumbers are small ones, bounds, and the far ends.
var oddNumbers = append([]int{-1, 0, 1, 2, 12, 15, 60, 720, 36524, 52595999, 52596000, 999999999}, farNumbers...)

func oddMeters() []meter.Meter {
	meters := []meter.Meter{{}, {Values: []meter.Value{}}, {Step: 15, Values: make([]meter.Value, 100000)}}
	for _, n := range oddNumbers {
		values := []meter.Value{{In: n}, {Out: n, Missing: true}, {In: n, Out: n}}
		meters = append(meters, meter.Meter{Step: n, Start: n, Values: values}, meter.Meter{Step: n, Values: values}, meter.Meter{Step: 15, Start: n, Values: values}, meter.Meter{Step: 60, Values: values})
	}
	return meters
}

func oddTariffs() []meter.Tariff {
	tariffs := []meter.Tariff{{}, someTariff()}
	proto := someTariff()
	for i := range bounds(&proto) {
		for _, n := range oddNumbers {
			u := someTariff()
			*bounds(&u)[i].number = n
			tariffs = append(tariffs, u)
		}
	}
	for _, hours := range []string{"", "A", "\x00", strings.Repeat("\xff", 24), strings.Repeat("B", 5000)} {
		u := someTariff()
		u.Hours[3] = hours
		tariffs = append(tariffs, u)
	}
	return tariffs
}

func oddTexts() []string {
	texts := []string{"", "\x00", "\n", "-", "T", "T 0 0\n", "\xff\xfe", strings.Repeat("9", 8000), strings.Repeat("H 15 0\n", 1000), strings.Repeat("-\n", 4000), strings.Repeat("A", 100000), "P 0 0\n"}
	texts = append(texts, strings.Repeat("9", 80000), strings.Repeat("P 0 0", 16000), strings.Repeat("P", 100000), billText(someLines(200)), billText(someLines(201)))
	texts = append(texts, variants("H 15 0\n1 2\n-\nT 2 3\n")...)
	texts = append(texts, variants(billText(someLines(1)))...)
	return append(texts, tariffText(someTariff()))
}

func oddBills() [][]meter.Line {
	bills := [][]meter.Line{nil, {}, make([]meter.Line, 200), make([]meter.Line, 1000), make([]meter.Line, 1000000)}
	for _, n := range oddNumbers {
		bills = append(bills, []meter.Line{{Out: n, Total: n}}, []meter.Line{{}, {In: [3]int{n, n, n}}})
	}
	return bills
}

func TestP1EveryCallEnds(t *testing.T) {
	for _, m := range oddMeters() {
		meter.PrintMeter(m)
		for _, n := range oddNumbers {
			meter.Fill(m, n)
		}
		for _, u := range oddTariffs() {
			meter.Split(m, u)
			meter.Bill(m, u)
		}
	}
	good := meter.Meter{Step: 60, Values: someValues(7)}
	for _, u := range oddTariffs() {
		meter.PrintTariff(u)
		meter.Split(good, u)
		meter.Bill(good, u)
		for _, n := range oddNumbers {
			meter.Clock(u.Zone, n)
		}
	}
	for _, n := range oddNumbers {
		meter.Date(n)
		for _, k := range oddNumbers {
			meter.Day(n, k, 1)
			meter.Day(2000, n, k)
		}
	}
	for _, l := range oddBills() {
		meter.PrintBill(l)
	}
	for _, s := range oddTexts() {
		meter.ReadMeter(s)
		meter.ReadTariff(s)
		meter.ReadBill(s)
		meter.Run(s, s)
		meter.Run(s, tariffText(someTariff()))
		meter.Run(meterText(15, 0, someValues(3)), s)
	}
}

func TestP1AnErrorStandsAlone(t *testing.T) {
	for _, s := range oddTexts() {
		m, e, at := meter.ReadMeter(s)
		if e != meter.OK && !reflect.DeepEqual(m, meter.Meter{}) {
			t.Errorf("ReadMeter(%.40q) = %+v beside %d", s, m, e)
		}
		if e == meter.OK && at != 0 {
			t.Errorf("ReadMeter(%.40q) has place %d beside OK", s, at)
		}
		u, e, at := meter.ReadTariff(s)
		if e != meter.OK && u != (meter.Tariff{}) {
			t.Errorf("ReadTariff(%.40q) = %+v beside %d", s, u, e)
		}
		if e == meter.OK && at != 0 {
			t.Errorf("ReadTariff(%.40q) has place %d beside OK", s, at)
		}
	}
}

func TestP1AnErrorOfTheReadsStandsAlone(t *testing.T) {
	for _, m := range oddMeters() {
		for _, n := range oddNumbers {
			values, e, at := meter.Fill(m, n)
			if (e == meter.OK && (at != 0 || len(values) != len(m.Values))) || (e != meter.OK && len(values) > 0) {
				t.Errorf("Fill(%.60v, %d) = %.60v, %d, %d", m, n, values, e, at)
			}
		}
		for _, u := range oddTariffs() {
			periods, e, at := meter.Split(m, u)
			if (e == meter.OK) != (len(periods) > 0) || (e == meter.OK && at != 0) {
				t.Errorf("Split(%.60v, %+v) = %v, %d, %d", m, u, periods, e, at)
			}
		}
	}
}

func TestP1AnErrorOfTheBillStandsAlone(t *testing.T) {
	for _, m := range oddMeters() {
		for _, u := range oddTariffs() {
			lines, e, at := meter.Bill(m, u)
			if (e == meter.OK) != (len(lines) > 0) || (e == meter.OK && at != 0) {
				t.Errorf("Bill(%.60v, %+v) = %v, %d, %d", m, u, lines, e, at)
			}
		}
	}
	for _, s := range oddTexts() {
		lines, e, at := meter.ReadBill(s)
		if (e != meter.OK && len(lines) > 0) || (e == meter.OK && at != 0) {
			t.Errorf("ReadBill(%.40q) = %v, %d, %d", s, lines, e, at)
		}
		for _, pair := range [][2]string{{s, s}, {s, tariffText(someTariff())}, {meterText(15, 0, someValues(3)), s}} {
			text, e, at := meter.Run(pair[0], pair[1])
			if (e == meter.OK) != (text != "") || (e == meter.OK && at != 0) {
				t.Errorf("Run(%.40q, %.40q) = %.40q, %d, %d", pair[0], pair[1], text, e, at)
			}
		}
	}
}

func TestP1TheBillKeepsNothing(t *testing.T) {
	r := rand.New(rand.NewSource(1))
	values := daily(use{1, 2, 3, 40000}, use{500, 6, 7, 8}, use{900, 10, 11, 12}).Values
	m := meter.Meter{Step: 60, Start: 6000, Values: values[:len(values)-1]}
	u := someTariff()
	u.Days = 1
	same, sameTariff := slices.Clone(values), u
	first, e, _ := meter.Bill(m, u)
	if e != meter.OK || len(first) < 3 || first[0].Bank == 0 {
		t.Fatalf("Bill: %v, %d", first, e)
	}
	for turn := 0; turn < 20; turn++ {
		other := randomPrices(r)
		meter.Bill(randomReads(r, other.Zone), other)
		meter.ReadBill(billText(someLines(turn)))
	}
	again, _, _ := meter.Bill(m, u)
	if !reflect.DeepEqual(first, again) {
		t.Errorf("Bill answers otherwise the second time")
	}
	text := meter.PrintBill(first)
	if !reflect.DeepEqual(first, again) || meter.PrintBill(first) != text {
		t.Errorf("PrintBill changed its argument or its answer")
	}
	for i := range first {
		first[i] = meter.Line{}
	}
	if !reflect.DeepEqual(values, same) || u != sameTariff || again[0].Bank == 0 {
		t.Errorf("Bill changed an argument, or its answers share memory")
	}
	one, _, _ := meter.ReadBill(text)
	two, _, _ := meter.ReadBill(text)
	one[0].Bank = -1
	if !reflect.DeepEqual(two, again) {
		t.Errorf("two answers of ReadBill share their lines")
	}
}

func TestP1TheReadsStayAsTheyWere(t *testing.T) {
	values := someValues(200)
	m := meter.Meter{Step: 15, Start: 6000, Values: values[:199]}
	u := someTariff()
	filled, e, _ := meter.Fill(m, 1)
	periods, e2, _ := meter.Split(m, u)
	if e != meter.OK || e2 != meter.OK {
		t.Fatalf("Fill: %d, Split: %d", e, e2)
	}
	if !reflect.DeepEqual(values, someValues(200)) || u != someTariff() {
		t.Errorf("Fill or Split changed an argument")
	}
	meter.Fill(meter.Meter{Step: 60, Values: someValues(3)}, 8)
	meter.Split(meter.Meter{Step: 60, Values: someValues(3)}, meter.Tariff{})
	again, _, _ := meter.Fill(m, 1)
	periodsAgain, _, _ := meter.Split(m, u)
	if !reflect.DeepEqual(filled, again) || !reflect.DeepEqual(periods, periodsAgain) {
		t.Errorf("Fill or Split answers otherwise the second time")
	}
	for i := range filled {
		filled[i] = meter.Value{In: 77, Missing: true}
	}
	periods[0] = meter.Period{}
	if !reflect.DeepEqual(values, someValues(200)) || again[0].Missing || periodsAgain[0] == periods[0] {
		t.Errorf("an answer of Fill or Split shares memory")
	}
}

func TestP1ArgumentsStayAsTheyWere(t *testing.T) {
	values := someValues(9)
	m := meter.Meter{Step: 15, Start: 30, Values: values[:8]}
	first := meter.PrintMeter(m)
	if !reflect.DeepEqual(values, someValues(9)) {
		t.Errorf("PrintMeter changed its argument: %+v", values)
	}
	meter.PrintMeter(meter.Meter{Step: 60, Values: someValues(3)})
	if again := meter.PrintMeter(m); again != first {
		t.Errorf("PrintMeter(%+v) = %q, then %q", m, first, again)
	}
}

func TestP1AnswersAreNewMemory(t *testing.T) {
	text := "H 15 0\n1 2\n-\nT 2 3\n"
	one, _, _ := meter.ReadMeter(text)
	two, _, _ := meter.ReadMeter(text)
	one.Values[0].In = 77
	if two.Values[0].In != 1 {
		t.Errorf("two answers of ReadMeter share their values")
	}
	source := tariffText(someTariff())
	low := uintptr(unsafe.Pointer(unsafe.StringData(source)))
	u, _, _ := meter.ReadTariff(source)
	for _, hours := range u.Hours {
		at := uintptr(unsafe.Pointer(unsafe.StringData(hours)))
		if low <= at && at < low+uintptr(len(source)) {
			t.Errorf("Hours lie inside of the text")
		}
	}
}

func TestP1TheErrorsHaveTheirNumbers(t *testing.T) {
	for i, e := range []meter.Errno{meter.OK, meter.ErrLong, meter.ErrSyntax, meter.ErrRange, meter.ErrSum, meter.ErrTerm, meter.ErrGap} {
		if int(e) != i {
			t.Errorf("error %d has the number %d", i, int(e))
		}
	}
}
