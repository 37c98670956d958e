package meter_test

import (
	"fmt"
	"reflect"
	"strings"
	"testing"

	"meter/meter"
)

// meterText writes a meter file's text whether or not it is a valid one.
func meterText(step int, start int, values []meter.Value) string {
	text := fmt.Sprintf("H %d %d\n", step, start)
	sum := 0
	for _, v := range values {
		if v.Missing {
			text += "-\n"
		} else {
			text += fmt.Sprintf("%d %d\n", v.In, v.Out)
		}
		sum += v.In + v.Out
	}
	return text + fmt.Sprintf("T %d %d\n", len(values), sum%10000)
}

func someValues(n int) []meter.Value {
	values := make([]meter.Value, n)
	for i := range values {
		switch i % 4 {
		case 1:
			values[i].Missing = true
		case 2:
			values[i] = meter.Value{In: 999999999, Out: 999999999 - i}
		case 3:
			values[i] = meter.Value{In: i * 37, Out: i * 1234567}
		}
	}
	return values
}

func checkReadMeter(t *testing.T, text string, want meter.Meter, e meter.Errno, at int) {
	t.Helper()
	m, gotE, gotAt := meter.ReadMeter(text)
	if !reflect.DeepEqual(m, want) || gotE != e || gotAt != at {
		t.Errorf("ReadMeter(%.60q) = %+v, %d, %d, want %+v, %d, %d", text, m, gotE, gotAt, want, e, at)
	}
}

func refuseMeter(t *testing.T, text string, e meter.Errno, at int) {
	t.Helper()
	checkReadMeter(t, text, meter.Meter{}, e, at)
}

func TestP4P5MeterFilesThereAndBack(t *testing.T) {
	for _, step := range []int{15, 30, 60} {
		for _, n := range []int{1, 2, 3, 4, 5, 17, 96, 199, 200} {
			for _, start := range []int{0, step, 60 * 777, lastMinute + 1 - step*n} {
				want := meter.Meter{Step: step, Start: start, Values: someValues(n)}
				text := meterText(step, start, want.Values)
				checkReadMeter(t, text, want, meter.OK, 0)
				if got := meter.PrintMeter(want); got != text {
					t.Errorf("PrintMeter of %d values = %.60q, want %.60q", n, got, text)
				}
			}
		}
	}
}

func TestP4P5TheLongestMeterFile(t *testing.T) {
	values := make([]meter.Value, 200)
	for i := range values {
		values[i] = meter.Value{In: 999999999, Out: 999999999}
	}
	want := meter.Meter{Step: 15, Start: 52590000, Values: values}
	text := meter.PrintMeter(want)
	if text != meterText(15, 52590000, values) {
		t.Errorf("PrintMeter = %.60q", text)
	}
	checkReadMeter(t, text, want, meter.OK, 0)
}

func TestP4Long(t *testing.T) {
	head := "H 15 0\n"
	tail := "T 3990 0\n"
	body := strings.Repeat("-\n", 4000)
	fits := head + body[:8000-len(head)-len(tail)] + tail
	if len(fits) != 8000 {
		t.Fatalf("%d bytes", len(fits))
	}
	refuseMeter(t, fits, meter.ErrRange, 0)
	refuseMeter(t, fits+"\n", meter.ErrLong, 0)
	refuseMeter(t, fits[:7999]+"--", meter.ErrLong, 0)
	refuseMeter(t, (head + body)[:8001], meter.ErrLong, 0)
	refuseMeter(t, (head + body)[:8000], meter.ErrSyntax, 8000)
	refuseMeter(t, strings.Repeat("x", 8000), meter.ErrSyntax, 0)
	refuseMeter(t, strings.Repeat("x", 8001), meter.ErrLong, 0)
	refuseMeter(t, strings.Repeat("x", 1000000), meter.ErrLong, 0)
}

func TestP4SyntaxByTheForm(t *testing.T) {
	f := meterForm()
	for _, text := range []string{"H 15 1500\n10 0\n-\n7 99990\nT 3 7\n", "H 60 0\n999999999 123456789\nT 1 6788\n", "H 1 0\nT 0 0\n", "H 30 60\n-\n-\n0 0\n0 10\n20 0\nT 5 30\n"} {
		for _, s := range variants(text) {
			_, e, at := meter.ReadMeter(s)
			f.check(t, s, e, at)
		}
	}
}

func TestP4NumbersInATextAreShort(t *testing.T) {
	refuseMeter(t, "H 1000000000 0\n1 1\nT 1 2\n", meter.ErrSyntax, 11)
	refuseMeter(t, "H 15 0\n1000000000 1\nT 1 1\n", meter.ErrSyntax, 16)
	refuseMeter(t, "H 15 0\n1 1234567890\nT 1 1\n", meter.ErrSyntax, 18)
	refuseMeter(t, "H 15 0\n1 00\nT 1 1\n", meter.ErrSyntax, 10)
	refuseMeter(t, "H 15 0\n1 1\nT 01 2\n", meter.ErrSyntax, 14)
	refuseMeter(t, "H 15 0\n1 1\nT 1 0000000002\n", meter.ErrSyntax, 16)
	refuseMeter(t, "H 15 0\n1 1\nT 1 99999999999999999999999999\n", meter.ErrSyntax, 24)
}

func TestP4Range(t *testing.T) {
	one := []meter.Value{{In: 5, Out: 5}}
	for step := 0; step <= 121; step++ {
		if step != 15 && step != 30 && step != 60 {
			refuseMeter(t, meterText(step, 0, one), meter.ErrRange, 0)
		}
	}
	refuseMeter(t, meterText(999999999, 0, one), meter.ErrRange, 0)
	for _, step := range []int{15, 30, 60} {
		for start := 1; start < step; start++ {
			refuseMeter(t, meterText(step, 600+start, one), meter.ErrRange, 0)
		}
		for _, n := range []int{1, 2, 3, 200} {
			late := lastMinute + 1 - step*n + step
			refuseMeter(t, meterText(step, late, someValues(n)), meter.ErrRange, 0)
		}
		refuseMeter(t, meterText(step, 999999960, one), meter.ErrRange, 0)
		refuseMeter(t, meterText(step, 0, nil), meter.ErrRange, 0)
		refuseMeter(t, meterText(step, 0, make([]meter.Value, 201)), meter.ErrRange, 0)
		refuseMeter(t, meterText(step, 0, make([]meter.Value, 1500)), meter.ErrRange, 0)
	}
}

func TestP4Sum(t *testing.T) {
	body := "H 15 0\n9000 900\n-\n99 7\nT "
	want := meter.Meter{Step: 15, Values: []meter.Value{{In: 9000, Out: 900}, {Missing: true}, {In: 99, Out: 7}}}
	checkReadMeter(t, body+"3 6\n", want, meter.OK, 0)
	at := len(body) - 2
	for _, last := range []string{"2 6\n", "4 6\n", "0 6\n", "3 5\n", "3 7\n", "3 0\n", "3 10006\n", "3 99\n", "3 999999999\n", "999999999 6\n", "6 3\n"} {
		refuseMeter(t, body+last, meter.ErrSum, at)
	}
	checkReadMeter(t, "H 15 0\n10000 0\nT 1 0\n", meter.Meter{Step: 15, Values: []meter.Value{{In: 10000}}}, meter.OK, 0)
	refuseMeter(t, "H 15 0\n10000 0\nT 1 10000\n", meter.ErrSum, 15)
}

func TestP4TheErrorNamedFirst(t *testing.T) {
	refuseMeter(t, "H 20 0\n5 5\nT 7 7\nx", meter.ErrSyntax, 17)
	refuseMeter(t, "H 20 0\n5 5\nT 7 7", meter.ErrSyntax, 16)
	refuseMeter(t, "H 20 0\n5 5\nT 7 7\n", meter.ErrRange, 0)
	refuseMeter(t, "H 15 1\n5 5\nT 1 7\n", meter.ErrRange, 0)
	refuseMeter(t, "H 15 0\nT 1 7\n", meter.ErrRange, 0)
}

func refusePrint(t *testing.T, m meter.Meter) {
	t.Helper()
	if s := meter.PrintMeter(m); s != "" {
		t.Errorf("PrintMeter(%+v) = %.60q", m, s)
	}
}

func TestP5MeterFilesThatAreNone(t *testing.T) {
	one := []meter.Value{{In: 1, Out: 2}}
	for _, far := range append([]int{-60, -15, -1, 0, 1, 14, 20, 45, 120}, farNumbers...) {
		refusePrint(t, meter.Meter{Step: far, Values: one})
	}
	for _, step := range []int{15, 30, 60} {
		for _, far := range append([]int{-60, -1, 1, step - 1, step + 1, lastMinute + 1, lastMinute + 1 + step}, farNumbers...) {
			refusePrint(t, meter.Meter{Step: step, Start: far, Values: one})
		}
		for n := 1; n <= 200; n++ {
			refusePrint(t, meter.Meter{Step: step, Start: lastMinute + 1 - step*n + step, Values: someValues(n)})
		}
		refusePrint(t, meter.Meter{Step: step})
		refusePrint(t, meter.Meter{Step: step, Values: []meter.Value{}})
		refusePrint(t, meter.Meter{Step: step, Values: make([]meter.Value, 201)})
		refusePrint(t, meter.Meter{Step: step, Values: make([]meter.Value, 100000)})
	}
	for _, far := range append([]int{-1, 1000000000}, farNumbers...) {
		for _, v := range []meter.Value{{In: far}, {Out: far}, {In: far, Out: far}, {In: far, Missing: true}, {Out: far, Missing: true}} {
			refusePrint(t, meter.Meter{Step: 15, Values: []meter.Value{v}})
			refusePrint(t, meter.Meter{Step: 15, Values: []meter.Value{{}, {In: 1}, v}})
			refusePrint(t, meter.Meter{Step: 15, Values: []meter.Value{v, {In: 1}}})
		}
	}
	refusePrint(t, meter.Meter{Step: 15, Values: []meter.Value{{In: 1, Missing: true}}})
	refusePrint(t, meter.Meter{Step: 15, Values: []meter.Value{{Out: 1, Missing: true}}})
}
