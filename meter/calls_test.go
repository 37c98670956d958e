package meter_test

import (
	"reflect"
	"strings"
	"testing"
	"unsafe"

	"meter/meter"
)

// oddNumbers are small ones, bounds, and the far ends.
var oddNumbers = append([]int{-1, 0, 1, 2, 12, 15, 60, 720, 36524, 52595999, 52596000, 999999999}, farNumbers...)

func oddMeters() []meter.Meter {
	meters := []meter.Meter{{}, {Values: []meter.Value{}}, {Step: 15, Values: make([]meter.Value, 100000)}}
	for _, n := range oddNumbers {
		values := []meter.Value{{In: n}, {Out: n, Missing: true}, {In: n, Out: n}}
		meters = append(meters, meter.Meter{Step: n, Start: n, Values: values}, meter.Meter{Step: n, Values: values}, meter.Meter{Step: 15, Start: n, Values: values}, meter.Meter{Step: 60, Values: values})
	}
	return meters
}

func oddTariffs() []meter.Tariff {
	tariffs := []meter.Tariff{{}, someTariff()}
	proto := someTariff()
	for i := range bounds(&proto) {
		for _, n := range oddNumbers {
			u := someTariff()
			*bounds(&u)[i].number = n
			tariffs = append(tariffs, u)
		}
	}
	for _, hours := range []string{"", "A", "\x00", strings.Repeat("\xff", 24), strings.Repeat("B", 5000)} {
		u := someTariff()
		u.Hours[3] = hours
		tariffs = append(tariffs, u)
	}
	return tariffs
}

func oddTexts() []string {
	texts := []string{"", "\x00", "\n", "-", "T", "T 0 0\n", "\xff\xfe", strings.Repeat("9", 8000), strings.Repeat("H 15 0\n", 1000), strings.Repeat("-\n", 4000), strings.Repeat("A", 100000), "P 0 0\n"}
	texts = append(texts, variants("H 15 0\n1 2\n-\nT 2 3\n")...)
	return append(texts, tariffText(someTariff()))
}

func TestP1EveryCallEnds(t *testing.T) {
	for _, m := range oddMeters() {
		meter.PrintMeter(m)
		for _, n := range oddNumbers {
			meter.Fill(m, n)
		}
		meter.Split(m, someTariff())
		meter.Bill(m, someTariff())
	}
	good := meter.Meter{Step: 60, Values: someValues(7)}
	for _, u := range oddTariffs() {
		meter.PrintTariff(u)
		meter.Split(good, u)
		meter.Bill(good, u)
		for _, n := range oddNumbers {
			meter.Clock(u.Zone, n)
		}
	}
	for _, n := range oddNumbers {
		meter.Date(n)
		for _, k := range oddNumbers {
			meter.Day(n, k, 1)
			meter.Day(2000, n, k)
		}
		meter.PrintBill([]meter.Line{{Out: n, Total: n}})
	}
	meter.PrintBill(nil)
	meter.PrintBill(make([]meter.Line, 1000))
	for _, s := range oddTexts() {
		meter.ReadMeter(s)
		meter.ReadTariff(s)
		meter.ReadBill(s)
		meter.Run(s, s)
	}
}

func TestP1AnErrorStandsAlone(t *testing.T) {
	for _, s := range oddTexts() {
		m, e, at := meter.ReadMeter(s)
		if e != meter.OK && !reflect.DeepEqual(m, meter.Meter{}) {
			t.Errorf("ReadMeter(%.40q) = %+v beside %d", s, m, e)
		}
		if e == meter.OK && at != 0 {
			t.Errorf("ReadMeter(%.40q) has place %d beside OK", s, at)
		}
		u, e, at := meter.ReadTariff(s)
		if e != meter.OK && u != (meter.Tariff{}) {
			t.Errorf("ReadTariff(%.40q) = %+v beside %d", s, u, e)
		}
		if e == meter.OK && at != 0 {
			t.Errorf("ReadTariff(%.40q) has place %d beside OK", s, at)
		}
	}
}

func TestP1ArgumentsStayAsTheyWere(t *testing.T) {
	values := someValues(9)
	m := meter.Meter{Step: 15, Start: 30, Values: values[:8]}
	first := meter.PrintMeter(m)
	if !reflect.DeepEqual(values, someValues(9)) {
		t.Errorf("PrintMeter changed its argument: %+v", values)
	}
	meter.PrintMeter(meter.Meter{Step: 60, Values: someValues(3)})
	if again := meter.PrintMeter(m); again != first {
		t.Errorf("PrintMeter(%+v) = %q, then %q", m, first, again)
	}
}

func TestP1AnswersAreNewMemory(t *testing.T) {
	text := "H 15 0\n1 2\n-\nT 2 3\n"
	one, _, _ := meter.ReadMeter(text)
	two, _, _ := meter.ReadMeter(text)
	one.Values[0].In = 77
	if two.Values[0].In != 1 {
		t.Errorf("two answers of ReadMeter share their values")
	}
	source := tariffText(someTariff())
	low := uintptr(unsafe.Pointer(unsafe.StringData(source)))
	u, _, _ := meter.ReadTariff(source)
	for _, hours := range u.Hours {
		at := uintptr(unsafe.Pointer(unsafe.StringData(hours)))
		if low <= at && at < low+uintptr(len(source)) {
			t.Errorf("Hours lie inside of the text")
		}
	}
}

func TestP1TheErrorsHaveTheirNumbers(t *testing.T) {
	for i, e := range []meter.Errno{meter.OK, meter.ErrLong, meter.ErrSyntax, meter.ErrRange, meter.ErrSum, meter.ErrTerm, meter.ErrGap} {
		if int(e) != i {
			t.Errorf("error %d has the number %d", i, int(e))
		}
	}
}
