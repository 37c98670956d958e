package meter_test

import (
	"fmt"
	"math/big"
	"reflect"
	"regexp"
	"testing"

	"meter/meter"
)

// pattern tells which values are there (v) and which are missing (-).
func pattern(values []meter.Value) string {
	text := ""
	for _, v := range values {
		if v.Missing {
			text += "-"
		} else {
			text += "v"
		}
	}
	return text
}

// patterned has values that go up and down by turns.
func patterned(pattern string) []meter.Value {
	values := make([]meter.Value, len(pattern))
	for i := range values {
		if pattern[i] == '-' {
			values[i].Missing = true
		} else {
			values[i] = meter.Value{In: (i*i*7919 + 5) % 101, Out: (i*104729 + 9) % 997}
		}
	}
	return values
}

// firstBadRow answers where the first row begins that may not be filled, or -1.
func firstBadRow(values []meter.Value, gap int) int {
	found := regexp.MustCompile(fmt.Sprintf("^-+|-{%d,}|-+$", gap+1)).FindStringIndex(pattern(values))
	if found == nil {
		return -1
	}
	return found[0]
}

func floorBetween(a int, b int, i int, k int) int {
	n := big.NewInt(int64(b - a))
	n.Mul(n, big.NewInt(int64(i)))
	n.Div(n, big.NewInt(int64(k+1))) // the floor, as the divisor is above 0
	return a + int(n.Int64())
}

// filled looks for the two neighbours of each missing value on its own.
func filled(values []meter.Value) []meter.Value {
	var all []meter.Value
	for at, v := range values {
		if v.Missing {
			left, right := at, at
			for values[left].Missing {
				left--
			}
			for values[right].Missing {
				right++
			}
			a, b, k := values[left], values[right], right-left-1
			v = meter.Value{In: floorBetween(a.In, b.In, at-left, k), Out: floorBetween(a.Out, b.Out, at-left, k)}
		}
		all = append(all, v)
	}
	return all
}

func checkFill(t *testing.T, m meter.Meter, gap int, want []meter.Value, e meter.Errno, at int) {
	t.Helper()
	got, gotE, gotAt := meter.Fill(m, gap)
	if gotE != e || gotAt != at || len(got) != len(want) || (len(want) > 0 && !reflect.DeepEqual(got, want)) {
		t.Errorf("Fill(%.300v, %d) = %.300v, %d, %d, want %.300v, %d, %d", m, gap, got, gotE, gotAt, want, e, at)
	}
}

func checkPattern(t *testing.T, values []meter.Value, gap int) {
	t.Helper()
	m := meter.Meter{Step: 15, Start: 45, Values: values}
	if at := firstBadRow(values, gap); at >= 0 {
		checkFill(t, m, gap, nil, meter.ErrGap, at)
	} else {
		checkFill(t, m, gap, filled(values), meter.OK, 0)
	}
}

func TestP8EveryPatternAndGap(t *testing.T) {
	for n := 1; n <= 11; n++ {
		for bits := 0; bits < 1<<n; bits++ {
			text := ""
			for i := 0; i < n; i++ {
				text += string("v-"[bits>>i&1])
			}
			for gap := 0; gap <= 8; gap++ {
				checkPattern(t, patterned(text), gap)
			}
		}
	}
}

func ins(numbers ...int) []meter.Value {
	var values []meter.Value
	for _, n := range numbers {
		if n < 0 {
			values = append(values, meter.Value{Missing: true})
		} else {
			values = append(values, meter.Value{In: n, Out: 1000 - n})
		}
	}
	return values
}

func TestP8ByHand(t *testing.T) {
	for _, c := range []struct {
		from []meter.Value
		gap  int
		want []meter.Value
		e    meter.Errno
		at   int
	}{
		{[]meter.Value{{In: 9, Out: 5}, {Missing: true}, {Missing: true}, {In: 5, Out: 9}}, 2, []meter.Value{{In: 9, Out: 5}, {In: 7, Out: 6}, {In: 6, Out: 7}, {In: 5, Out: 9}}, meter.OK, 0},
		{[]meter.Value{{In: 1}, {Missing: true}, {Out: 1}}, 1, []meter.Value{{In: 1}, {}, {Out: 1}}, meter.OK, 0},
		{[]meter.Value{{Out: 999999999}, {Missing: true}, {In: 999999999}}, 8, []meter.Value{{Out: 999999999}, {In: 499999999, Out: 499999999}, {In: 999999999}}, meter.OK, 0},
		{ins(4, -1, 6, -1, -1, 0), 2, []meter.Value{{In: 4, Out: 996}, {In: 5, Out: 995}, {In: 6, Out: 994}, {In: 4, Out: 996}, {In: 2, Out: 998}, {In: 0, Out: 1000}}, meter.OK, 0},
		{ins(4, -1, 6, -1, -1, 0), 1, nil, meter.ErrGap, 3},
		{ins(4, -1, 6, -1, -1, 0), 0, nil, meter.ErrGap, 1},
		{ins(-1, 4, -1, -1, 4), 1, nil, meter.ErrGap, 0},
		{ins(4, -1, -1, 4, -1), 1, nil, meter.ErrGap, 1},
		{ins(4, -1, -1, 4, -1, -1), 2, nil, meter.ErrGap, 4},
		{ins(-1, -1, -1), 8, nil, meter.ErrGap, 0},
		{ins(3), 0, ins(3), meter.OK, 0},
		{ins(-1), 0, nil, meter.ErrGap, 0},
	} {
		checkFill(t, meter.Meter{Step: 60, Values: c.from}, c.gap, c.want, c.e, c.at)
	}
}

// Eight in a row are the most, and between the largest numbers nothing wraps round.
func TestP8LongRowsOfLargeNumbers(t *testing.T) {
	for _, ends := range [][4]int{{0, 0, 999999999, 999999999}, {999999999, 999999999, 0, 0}, {999999999, 0, 0, 999999999}, {999999999, 999999999, 999999999, 999999999}, {1, 0, 0, 1}, {999999998, 999999999, 999999999, 999999998}} {
		for k := 1; k <= 10; k++ {
			values := []meter.Value{{In: ends[0], Out: ends[1]}}
			for i := 0; i < k; i++ {
				values = append(values, meter.Value{Missing: true})
			}
			values = append(values, meter.Value{In: ends[2], Out: ends[3]})
			for gap := 0; gap <= 8; gap++ {
				checkPattern(t, values, gap)
			}
		}
	}
}

func TestP8AsManyValuesAsThereMayBe(t *testing.T) {
	text := "v"
	for len(text) < 191 {
		text += "--------v-v"
	}
	text = text[:199] + "v"
	values := patterned(text)
	for gap := 0; gap <= 8; gap++ {
		checkPattern(t, values, gap)
	}
	checkPattern(t, patterned(text[:199]+"-"), 8)
	checkFill(t, meter.Meter{Step: 15, Start: 45, Values: append(values, meter.Value{})}, 8, nil, meter.ErrRange, 0)
}

// What is wrong with the meter file or the gap is told ahead of missing values.
func TestP8Range(t *testing.T) {
	for _, gap := range append([]int{-1, -8, 9, 10, 200}, farNumbers...) {
		checkFill(t, meter.Meter{Step: 30, Values: ins(1, -1, 2)}, gap, nil, meter.ErrRange, 0)
		checkFill(t, meter.Meter{Step: 30, Values: ins(1, 2)}, gap, nil, meter.ErrRange, 0)
		checkFill(t, meter.Meter{Step: 30, Values: ins(1, -1)}, gap, nil, meter.ErrRange, 0)
	}
	for _, m := range badMeters() {
		for gap := 0; gap <= 8; gap++ {
			checkFill(t, m, gap, nil, meter.ErrRange, 0)
		}
	}
}

// badMeters break one rule each, most of them beside a row that may not be filled.
func badMeters() []meter.Meter {
	lone := ins(5, -1)
	all := []meter.Meter{{}, {Step: 15}, {Step: 15, Values: []meter.Value{}}, {Step: 15, Values: make([]meter.Value, 201)}}
	for _, step := range append([]int{-15, 0, 1, 14, 20, 45, 61, 120}, farNumbers...) {
		all = append(all, meter.Meter{Step: step, Values: lone})
	}
	for _, start := range append([]int{-60, -1, 1, 59, lastMinute + 1 - 60, lastMinute + 1}, farNumbers...) {
		all = append(all, meter.Meter{Step: 60, Start: start, Values: lone})
	}
	for _, n := range append([]int{-1, 1000000000}, farNumbers...) {
		for _, v := range []meter.Value{{In: n}, {Out: n}, {In: n, Missing: true}, {Out: n, Missing: true}} {
			all = append(all, meter.Meter{Step: 60, Values: []meter.Value{{}, v, {}}}, meter.Meter{Step: 60, Values: []meter.Value{{Missing: true}, {}, v}})
		}
	}
	return append(all, meter.Meter{Step: 60, Values: []meter.Value{{In: 1}, {In: 1, Missing: true}, {In: 1}}})
}
