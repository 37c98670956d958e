package meter_test

import (
	"fmt"
	"strings"
	"testing"

	"meter/meter"
)

const tariffLines = 13

var (
	workday = "AAAAAAABBBBBBBBBBBBBCCCC"
	sunday  = "CCCCCCCCCCCCCCCCCCCCCCCC"
	mixed   = "ABCABCABCABCABCABCABCABC"
	back    = "CBACBACBACBACBACBACBACBA"
)

func someTariff() meter.Tariff {
	return meter.Tariff{
		Zone: north, Days: 30, Gap: 4, First: 4, Last: 9,
		Hours:  [4]string{workday, sunday, mixed, back},
		Blocks: [3]meter.Block{{Limit: 1000, Low: 101, High: 202}, {Limit: 0, Low: 3, High: 300}, {Limit: 1000000, Low: 50, High: 7}},
		Demand: meter.Demand{Price: 20, Percent: 80, Periods: 3},
		Net:    meter.Net{Price: 70, Periods: 1},
		Fixed:  500, Minimum: 900, Tax: 190,
	}
}

// textLines writes a tariff's lines whether or not it is a valid one.
func textLines(t meter.Tariff) []string {
	lines := []string{
		fmt.Sprintln("Z", t.Zone.Offset+720, t.Zone.From.Month, t.Zone.From.Week, t.Zone.From.Weekday, t.Zone.From.Hour, t.Zone.To.Month, t.Zone.To.Week, t.Zone.To.Weekday, t.Zone.To.Hour),
		fmt.Sprintln("D", t.Days, t.Gap),
		fmt.Sprintln("S", t.First, t.Last),
	}
	for _, hours := range t.Hours {
		lines = append(lines, "W "+hours+"\n")
	}
	for _, b := range t.Blocks {
		lines = append(lines, fmt.Sprintln("B", b.Limit, b.Low, b.High))
	}
	return append(lines,
		fmt.Sprintln("M", t.Demand.Price, t.Demand.Percent, t.Demand.Periods),
		fmt.Sprintln("N", t.Net.Price, t.Net.Periods),
		fmt.Sprintln("F", t.Fixed, t.Minimum, t.Tax))
}

func tariffText(t meter.Tariff) string { return strings.Join(textLines(t), "") }

// bound is what a tariff may have in one number: where it is, which line has it, and its ends.
type bound struct {
	number    *int
	line      int
	low, high int
}

func bounds(t *meter.Tariff) []bound {
	all := []bound{
		{&t.Zone.Offset, 0, -720, 720},
		{&t.Zone.From.Week, 0, 1, 5}, {&t.Zone.From.Weekday, 0, 0, 6}, {&t.Zone.From.Hour, 0, 0, 23},
		{&t.Zone.To.Week, 0, 1, 5}, {&t.Zone.To.Weekday, 0, 0, 6}, {&t.Zone.To.Hour, 0, 0, 23},
		{&t.Zone.From.Month, 0, 1, 9}, {&t.Zone.To.Month, 0, 4, 12},
		{&t.Days, 1, 1, 31}, {&t.Gap, 1, 0, 8},
		{&t.First, 2, 1, t.Last}, {&t.Last, 2, t.First, 12},
		{&t.Demand.Price, 10, 0, 1000000}, {&t.Demand.Percent, 10, 0, 100}, {&t.Demand.Periods, 10, 0, 12},
		{&t.Net.Price, 11, 0, 100000}, {&t.Net.Periods, 11, 0, 12},
		{&t.Fixed, 12, 0, 1000000}, {&t.Minimum, 12, 0, 1000000}, {&t.Tax, 12, 0, 1000},
	}
	for i := range t.Blocks {
		b := &t.Blocks[i]
		all = append(all, bound{&b.Limit, 7 + i, 0, 1000000}, bound{&b.Low, 7 + i, 0, 100000}, bound{&b.High, 7 + i, 0, 100000})
	}
	return all
}

func acceptTariff(t *testing.T, want meter.Tariff) {
	t.Helper()
	text := tariffText(want)
	if u, e, at := meter.ReadTariff(text); u != want || e != meter.OK || at != 0 {
		t.Errorf("ReadTariff(%q) = %+v, %d, %d", text, u, e, at)
	}
	if s := meter.PrintTariff(want); s != text {
		t.Errorf("PrintTariff(%+v) = %q", want, s)
	}
}

func refuseText(t *testing.T, text string, e meter.Errno, at int) {
	t.Helper()
	if u, gotE, gotAt := meter.ReadTariff(text); u != (meter.Tariff{}) || gotE != e || gotAt != at {
		t.Errorf("ReadTariff(%q) = %+v, %d, %d, want %d, %d", text, u, gotE, gotAt, e, at)
	}
}

func refuseTariff(t *testing.T, bad meter.Tariff) {
	t.Helper()
	if s := meter.PrintTariff(bad); s != "" {
		t.Errorf("PrintTariff(%+v) = %q", bad, s)
	}
}

// refuseLine asks for ErrTerm at the head of a line.
func refuseLine(t *testing.T, bad meter.Tariff, line int) {
	t.Helper()
	lines := textLines(bad)
	refuseText(t, strings.Join(lines, ""), meter.ErrTerm, len(strings.Join(lines[:line], "")))
	refuseTariff(t, bad)
}

func TestP6P7TheBoundsOfEveryNumber(t *testing.T) {
	proto := someTariff()
	for i := range bounds(&proto) {
		for k := 0; k < 4; k++ {
			u := someTariff()
			b := bounds(&u)[i]
			switch k {
			case 0:
				*b.number = b.low
				acceptTariff(t, u)
			case 1:
				*b.number = b.high
				acceptTariff(t, u)
			case 2:
				*b.number = b.high + 1
				if b.number == &u.Zone.From.Month {
					*b.number = 13
				}
				refuseLine(t, u, b.line)
			case 3:
				*b.number = b.low - 1
				if b.number == &u.Zone.To.Month {
					*b.number = 0
				}
				if *b.number >= 0 {
					refuseLine(t, u, b.line)
				}
				refuseTariff(t, u)
			}
		}
		for _, far := range append([]int{-1000, 1000001}, farNumbers...) {
			u := someTariff()
			*bounds(&u)[i].number = far
			refuseTariff(t, u)
		}
		u := someTariff()
		b := bounds(&u)[i]
		*b.number = 999999999
		if b.number == &u.Zone.Offset {
			*b.number -= 720
		}
		refuseLine(t, u, b.line)
	}
}

func TestP6P7EveryPairOfMonths(t *testing.T) {
	for a := 0; a <= 13; a++ {
		for b := 0; b <= 13; b++ {
			inYear := 1 <= a && a <= 12 && 1 <= b && b <= 12
			u := someTariff()
			u.First, u.Last = a, b
			if inYear && a <= b {
				acceptTariff(t, u)
			} else {
				refuseLine(t, u, 2)
			}
			u = someTariff()
			u.Zone.From.Month, u.Zone.To.Month = a, b
			if inYear && a != b {
				acceptTariff(t, u)
			} else {
				refuseLine(t, u, 0)
			}
		}
	}
}

func TestP6P7Zones(t *testing.T) {
	for offset := -720; offset <= 720; offset++ {
		u := someTariff()
		u.Zone = meter.Zone{Offset: offset}
		acceptTariff(t, u)
	}
	for _, z := range badZones() {
		u := someTariff()
		u.Zone = z
		refuseTariff(t, u)
	}
	for _, part := range []meter.Rule{{Month: 5}, {Week: 1}, {Weekday: 1}, {Hour: 1}, {Month: 5, Week: 1}} {
		u := someTariff()
		u.Zone = meter.Zone{From: part}
		refuseLine(t, u, 0)
		u.Zone = meter.Zone{To: part}
		refuseLine(t, u, 0)
	}
}

func TestP6P7TheLeastAndTheMost(t *testing.T) {
	least := meter.Tariff{Zone: meter.Zone{Offset: -720}, Days: 1, First: 1, Last: 1, Hours: [4]string{back, mixed, sunday, workday}}
	acceptTariff(t, least)
	most := someTariff()
	for i := range bounds(&most) {
		b := bounds(&most)[i]
		*b.number = b.high
	}
	acceptTariff(t, most)
}

func TestP6TheFirstBadLine(t *testing.T) {
	var heads [tariffLines]int
	at := 0
	for i, line := range textLines(someTariff()) {
		heads[i] = at
		at += len(line)
	}
	bad := map[int]string{0: "Z 1441 ", 1: "D 32 ", 2: "S 9 4", 7: "B 1000 100001 202", 8: "B 0 3 100001", 9: "B 1000001 50 7", 10: "M 20 101 3", 11: "N 70 13", 12: "F 500 900 1001"}
	good := map[int]string{0: "Z 780 ", 1: "D 30 ", 2: "S 4 9", 7: "B 1000 101 202", 8: "B 0 3 300", 9: "B 1000000 50 7", 10: "M 20 80 3", 11: "N 70 1", 12: "F 500 900 190"}
	for first := range bad {
		for second := range bad {
			if second < first {
				continue
			}
			text := tariffText(someTariff())
			text = strings.Replace(text, good[second], bad[second], 1)
			if second != first {
				text = strings.Replace(text, good[first], bad[first], 1)
			}
			refuseText(t, text, meter.ErrTerm, heads[first])
			refuseText(t, text[:len(text)-1], meter.ErrSyntax, len(text)-1)
			refuseText(t, text+"Z", meter.ErrSyntax, len(text))
		}
	}
}

func TestP6SyntaxByTheForm(t *testing.T) {
	f := tariffForm()
	small := meter.Tariff{Zone: meter.Zone{Offset: -720}, Days: 1, First: 1, Last: 1, Hours: [4]string{back, mixed, sunday, workday}}
	for _, u := range []meter.Tariff{someTariff(), small} {
		for _, s := range variants(tariffText(u)) {
			_, e, at := meter.ReadTariff(s)
			f.check(t, s, e, at)
		}
	}
}

func TestP6NumbersInATextAreShort(t *testing.T) {
	text := tariffText(someTariff())
	refuseText(t, strings.Replace(text, "Z 780", "Z 1000000000", 1), meter.ErrSyntax, 11)
	refuseText(t, strings.Replace(text, "Z 780", "Z 0780", 1), meter.ErrSyntax, 3)
	refuseText(t, strings.Replace(text, "Z 780", "Z -60", 1), meter.ErrSyntax, 2)
	refuseText(t, strings.Replace(text, " 190\n", " 1900000000\n", 1), meter.ErrSyntax, len(text)-1+6)
}

func TestP6Long(t *testing.T) {
	text := tariffText(someTariff())
	refuseText(t, text+strings.Repeat("\n", 8000-len(text)), meter.ErrSyntax, len(text))
	refuseText(t, text+strings.Repeat("\n", 8001-len(text)), meter.ErrLong, 0)
	refuseText(t, strings.Repeat("Z", 8000), meter.ErrSyntax, 1)
	refuseText(t, strings.Repeat("Z", 8001), meter.ErrLong, 0)
	refuseText(t, strings.Repeat(text, 100), meter.ErrLong, 0)
}

func TestP7HoursThatAreNone(t *testing.T) {
	for i := 0; i < 4; i++ {
		for _, hours := range []string{"", "A", workday[1:], workday + "A", strings.Repeat("A", 48), "D" + workday[1:], workday[:23] + "D", workday[:12] + "a" + workday[13:], workday[:23] + "\n", workday[:23] + "@", strings.Repeat("Ä", 12), strings.Repeat("Ä", 24)} {
			u := someTariff()
			u.Hours[i] = hours
			refuseTariff(t, u)
		}
	}
	refuseTariff(t, meter.Tariff{})
}

func TestP6EveryLetterOfEveryHour(t *testing.T) {
	for i := 0; i < 4; i++ {
		for hour := 0; hour < 24; hour++ {
			for _, letter := range []string{"A", "B", "C"} {
				u := someTariff()
				u.Hours[i] = u.Hours[i][:hour] + letter + u.Hours[i][hour+1:]
				acceptTariff(t, u)
			}
		}
	}
}
