package meter_test

import (
	"math"
	"testing"
	"time"

	"meter/meter"
)

const (
	lastDay    = 36524
	lastMinute = 52595999
)

var farNumbers = []int{math.MinInt, math.MinInt + 1, -1 << 32, math.MaxInt32, 1 << 32, math.MaxInt - 720, math.MaxInt - 1, math.MaxInt}

func dayZero() time.Time { return time.Date(2000, 1, 1, 0, 0, 0, 0, time.UTC) }

func dayOf(t time.Time) int { return int(t.Sub(dayZero()) / (24 * time.Hour)) }

func TestP2EveryDayHasItsDate(t *testing.T) {
	at := dayZero()
	for day := 0; day <= lastDay; day++ {
		y, m, d, e := meter.Date(day)
		if y != at.Year() || m != int(at.Month()) || d != at.Day() || e != meter.OK {
			t.Fatalf("Date(%d) = %d, %d, %d, %d, want %v", day, y, m, d, e, at)
		}
		if n, e := meter.Day(y, m, d); n != day || e != meter.OK {
			t.Fatalf("Day(%d, %d, %d) = %d, %d, want %d", y, m, d, n, e, day)
		}
		at = at.AddDate(0, 0, 1)
	}
}

func TestP2NoDay(t *testing.T) {
	for _, day := range append([]int{-2, -1, lastDay + 1, lastDay + 2, 40000}, farNumbers...) {
		if y, m, d, e := meter.Date(day); y != 0 || m != 0 || d != 0 || e != meter.ErrRange {
			t.Errorf("Date(%d) = %d, %d, %d, %d", day, y, m, d, e)
		}
	}
}

func TestP2DatesThatAreNone(t *testing.T) {
	for year := 1996; year <= 2104; year++ {
		for month := -1; month <= 14; month++ {
			for date := -1; date <= 33; date++ {
				at := time.Date(year, time.Month(month), date, 0, 0, 0, 0, time.UTC)
				exists := at.Year() == year && int(at.Month()) == month && at.Day() == date
				n, e := meter.Day(year, month, date)
				if exists && 2000 <= year && year <= 2099 {
					if n != dayOf(at) || e != meter.OK {
						t.Fatalf("Day(%d, %d, %d) = %d, %d, want %d", year, month, date, n, e, dayOf(at))
					}
				} else if n != 0 || e != meter.ErrRange {
					t.Fatalf("Day(%d, %d, %d) = %d, %d, want none", year, month, date, n, e)
				}
			}
		}
	}
	for _, far := range farNumbers {
		for _, c := range [][3]int{{far, 1, 1}, {2000, far, 1}, {2000, 1, far}, {far, far, far}} {
			if n, e := meter.Day(c[0], c[1], c[2]); n != 0 || e != meter.ErrRange {
				t.Errorf("Day(%v) = %d, %d", c, n, e)
			}
		}
	}
}

// momentOf counts the weekdays of a month one by one, and knows nothing of sevens.
func momentOf(r meter.Rule, year int) int {
	found := 0
	seen := 0
	for at := time.Date(year, time.Month(r.Month), 1, 0, 0, 0, 0, time.UTC); int(at.Month()) == r.Month; at = at.AddDate(0, 0, 1) {
		if int(at.Weekday()) == r.Weekday {
			seen++
			if seen == r.Week || r.Week == 5 {
				found = dayOf(at)
			}
		}
	}
	return found*1440 + r.Hour*60
}

func checkClock(t *testing.T, z meter.Zone, minute int, summer bool) {
	t.Helper()
	standard := minute + z.Offset
	there := standard
	if summer {
		there += 60
	}
	day, inside, e := meter.Clock(z, minute)
	if minute < 0 || minute > lastMinute || standard < 0 || standard > lastMinute || there > lastMinute {
		if day != 0 || inside != 0 || e != meter.ErrRange {
			t.Fatalf("Clock(%+v, %d) = %d, %d, %d, want none", z, minute, day, inside, e)
		}
	} else if day*1440+inside != there || inside < 0 || inside > 1439 || e != meter.OK {
		t.Fatalf("Clock(%+v, %d) = %d, %d, %d, want %d, %d", z, minute, day, inside, e, there/1440, there%1440)
	}
}

func checkYear(t *testing.T, z meter.Zone, year int) {
	t.Helper()
	first := dayOf(time.Date(year, 1, 1, 0, 0, 0, 0, time.UTC)) * 1440
	next := dayOf(time.Date(year+1, 1, 1, 0, 0, 0, 0, time.UTC)) * 1440
	from := momentOf(z.From, year)
	to := momentOf(z.To, year)
	for _, edge := range []int{first, from, from + 60, from + 1440, (from + to) / 2, to - 60, to, to + 60, to + 1440, next} {
		for standard := edge - 1; standard <= edge+1; standard++ {
			if standard < first || standard >= next {
				continue
			}
			summer := from <= standard && standard < to
			if z.From.Month > z.To.Month {
				summer = standard < to || from <= standard
			}
			checkClock(t, z, standard-z.Offset, summer)
		}
	}
}

func TestP3SummerTimeOfEveryRule(t *testing.T) {
	offsets := []int{-720, -719, -300, -1, 0, 1, 60, 345, 719, 720}
	years := []int{2000, 2001, 2003, 2004, 2024, 2098, 2099}
	turn := 0
	for from := 1; from <= 12; from++ {
		for to := 1; to <= 12; to++ {
			for week := 1; week <= 5; week++ {
				for weekday := 0; weekday <= 6; weekday++ {
					if from == to {
						continue
					}
					turn++
					z := meter.Zone{Offset: offsets[turn%len(offsets)]}
					z.From = meter.Rule{Month: from, Week: week, Weekday: weekday, Hour: turn % 24}
					z.To = meter.Rule{Month: to, Week: 1 + (week+turn)%5, Weekday: (weekday + turn) % 7, Hour: (turn / 3) % 24}
					for _, year := range years {
						checkYear(t, z, year)
					}
				}
			}
		}
	}
}

func TestP3EveryYear(t *testing.T) {
	for year := 2000; year <= 2099; year++ {
		checkYear(t, north, year)
		checkYear(t, south, year)
		checkYear(t, meter.Zone{From: meter.Rule{Month: 2, Week: 5, Weekday: 2, Hour: 23}, To: meter.Rule{Month: 3, Week: 1, Weekday: 1}}, year)
	}
}

var (
	north = meter.Zone{Offset: 60, From: meter.Rule{Month: 3, Week: 5, Weekday: 0, Hour: 2}, To: meter.Rule{Month: 10, Week: 5, Weekday: 0, Hour: 2}}
	south = meter.Zone{Offset: 600, From: meter.Rule{Month: 10, Week: 1, Weekday: 0, Hour: 2}, To: meter.Rule{Month: 4, Week: 1, Weekday: 0, Hour: 2}}
)

func TestP3TheDocumentsInstance(t *testing.T) {
	for _, c := range [][3]int{{646619, 449, 119}, {646620, 449, 180}} {
		if day, minute, e := meter.Clock(north, c[0]); day != c[1] || minute != c[2] || e != meter.OK {
			t.Errorf("Clock(north, %d) = %d, %d, %d", c[0], day, minute, e)
		}
	}
}

func TestP3NoSummerTime(t *testing.T) {
	for offset := -720; offset <= 720; offset++ {
		for _, minute := range []int{-1, 0, 1, 719, 720, 721, -offset - 1, -offset, 1439, 1440, 9999999, lastMinute - offset, lastMinute - offset + 1, lastMinute - 1, lastMinute, lastMinute + 1} {
			checkClock(t, meter.Zone{Offset: offset}, minute, false)
		}
	}
}

func TestP3TheEndsOfTime(t *testing.T) {
	for _, offset := range []int{-720, -60, -1, 0, 1, 60, 720} {
		z := south
		z.Offset = offset
		for d := -900; d <= 900; d++ {
			checkClock(t, z, d, true)
			checkClock(t, z, lastMinute+d, true)
		}
	}
}

// badZones are one step beyond each bound of Words.
func badZones() []meter.Zone {
	var zones []meter.Zone
	for _, offset := range append([]int{-721, 721}, farNumbers...) {
		zones = append(zones, meter.Zone{Offset: offset})
		z := north
		z.Offset = offset
		zones = append(zones, z)
	}
	rules := []meter.Rule{{}, {Month: 3}, {Week: 1}, {Weekday: 1}, {Hour: 1}}
	for _, n := range append([]int{-1, 13}, farNumbers...) {
		rules = append(rules, meter.Rule{Month: n, Week: 1}, meter.Rule{Month: 5, Week: n}, meter.Rule{Month: 5, Week: 1, Weekday: n})
	}
	for _, n := range append([]int{-1, 24}, farNumbers...) {
		rules = append(rules, meter.Rule{Month: 5, Week: 1, Hour: n})
	}
	rules = append(rules, meter.Rule{Month: 0, Week: 1}, meter.Rule{Month: 5, Week: 0}, meter.Rule{Month: 5, Week: 6}, meter.Rule{Month: 5, Week: 1, Weekday: 7})
	for _, r := range rules {
		zones = append(zones, meter.Zone{From: r, To: north.To}, meter.Zone{From: north.From, To: r})
		if r != (meter.Rule{}) {
			zones = append(zones, meter.Zone{From: r}, meter.Zone{To: r}, meter.Zone{From: r, To: r})
		}
	}
	for month := 1; month <= 12; month++ {
		zones = append(zones, meter.Zone{From: meter.Rule{Month: month, Week: 1}, To: meter.Rule{Month: month, Week: 5}})
	}
	return append(zones, meter.Zone{From: north.From}, meter.Zone{To: north.To})
}

func TestP3ZonesThatAreNone(t *testing.T) {
	for _, z := range badZones() {
		for _, minute := range []int{0, 1000000, lastMinute} {
			if day, inside, e := meter.Clock(z, minute); day != 0 || inside != 0 || e != meter.ErrRange {
				t.Errorf("Clock(%+v, %d) = %d, %d, %d", z, minute, day, inside, e)
			}
		}
	}
}

func TestP3MinutesThatAreNone(t *testing.T) {
	for _, z := range []meter.Zone{{}, {Offset: 720}, {Offset: -720}, north, south} {
		for _, minute := range append([]int{-1, -720, lastMinute + 1, lastMinute + 720}, farNumbers...) {
			if day, inside, e := meter.Clock(z, minute); day != 0 || inside != 0 || e != meter.ErrRange {
				t.Errorf("Clock(%+v, %d) = %d, %d, %d", z, minute, day, inside, e)
			}
		}
	}
}
