package meter_test

import (
	"math/rand"
	"reflect"
	"strings"
	"testing"
	"time"

	"meter/meter"
)

type yearRule struct {
	rule meter.Rule
	year int
}

var moments = map[yearRule]int{}

func knownMoment(r meter.Rule, year int) int {
	key := yearRule{r, year}
	if _, known := moments[key]; !known {
		moments[key] = momentOf(r, year)
	}
	return moments[key]
}

// timeThere is the time at the customer's place by Go's own calendar, and false if there is none.
func timeThere(z meter.Zone, minute int) (time.Time, bool) {
	standard := minute + z.Offset
	if standard < 0 || standard > lastMinute {
		return time.Time{}, false
	}
	there := standard
	if z.From.Month > 0 {
		year := dayZero().Add(time.Duration(standard) * time.Minute).Year()
		from, to := knownMoment(z.From, year), knownMoment(z.To, year)
		if from < to && from <= standard && standard < to || from > to && (standard < to || from <= standard) {
			there += 60
		}
	}
	return dayZero().Add(time.Duration(there) * time.Minute), there <= lastMinute
}

// rowOf answers which of the four Hours counts at a time.
func rowOf(t meter.Tariff, at time.Time) int {
	row := map[time.Weekday]int{time.Saturday: 1, time.Sunday: 1}[at.Weekday()]
	if t.First <= int(at.Month()) && int(at.Month()) <= t.Last {
		return row + 2
	}
	return row
}

// splitOf tells the periods of a valid meter file whose rows may all be filled.
func splitOf(m meter.Meter, t meter.Tariff) ([]meter.Period, meter.Errno, int) {
	var periods []meter.Period
	first := 0
	for i, v := range filled(m.Values) {
		at, exists := timeThere(t.Zone, m.Start+i*m.Step)
		if !exists {
			return nil, meter.ErrRange, i
		}
		if i == 0 {
			first = dayOf(at)
		}
		for len(periods) <= (dayOf(at)-first)/t.Days {
			periods = append(periods, meter.Period{})
		}
		p := &periods[(dayOf(at)-first)/t.Days]
		p.In[strings.IndexByte("ABC", t.Hours[rowOf(t, at)][at.Hour()])] += v.In
		p.Out += v.Out
		p.Peak = max(p.Peak, 60*v.In/m.Step)
	}
	return periods, meter.OK, 0
}

func checkSplit(t *testing.T, m meter.Meter, u meter.Tariff, want []meter.Period, e meter.Errno, at int) {
	t.Helper()
	got, gotE, gotAt := meter.Split(m, u)
	if gotE != e || gotAt != at || len(got) != len(want) || (len(want) > 0 && !reflect.DeepEqual(got, want)) {
		t.Errorf("Split(%.300v, %+v) = %+v, %d, %d, want %+v, %d, %d", m, u, got, gotE, gotAt, want, e, at)
	}
}

func refuseSplit(t *testing.T, m meter.Meter, u meter.Tariff, e meter.Errno, at int) {
	t.Helper()
	checkSplit(t, m, u, nil, e, at)
}

func randomHours(r *rand.Rand) [4]string {
	var hours [4]string
	for i := range hours {
		for len(hours[i]) < 24 {
			hours[i] += string("ABC"[r.Intn(3)])
		}
	}
	return hours
}

func randomZone(r *rand.Rand) meter.Zone {
	z := meter.Zone{Offset: []int{-720, -210, -60, 0, 1, 60, 345, 720, r.Intn(1441) - 720}[r.Intn(9)]}
	if r.Intn(4) == 0 {
		return z
	}
	hours := []int{0, 1, 2, 3, 22, 23, r.Intn(24)}
	z.From = meter.Rule{Month: 1 + r.Intn(12), Week: 1 + r.Intn(5), Weekday: r.Intn(7), Hour: hours[r.Intn(7)]}
	z.To = meter.Rule{Month: 1 + (z.From.Month+r.Intn(11))%12, Week: 1 + r.Intn(5), Weekday: r.Intn(7), Hour: hours[r.Intn(7)]}
	return z
}

// randomStart is a minute shortly ahead of something: a change of summer time, a new month, or the ends of time.
func randomStart(r *rand.Rand, z meter.Zone) int {
	year := 2000 + r.Intn(100)
	ahead := r.Intn(7*1440) - 720
	switch r.Intn(6) {
	case 0:
		return r.Intn(1440)
	case 1:
		return lastMinute + 1 - r.Intn(4*1440)
	case 2:
		return dayOf(time.Date(year, time.Month(1+r.Intn(12)), 1, 0, 0, 0, 0, time.UTC))*1440 - ahead
	case 3, 4:
		if z.From.Month > 0 {
			return knownMoment([]meter.Rule{z.From, z.To}[r.Intn(2)], year) - ahead
		}
	}
	return r.Intn(lastMinute)
}

func TestP9AgainstGosCalendar(t *testing.T) {
	r := rand.New(rand.NewSource(9))
	refused := 0
	for turn := 0; turn < 6000; turn++ {
		u := someTariff()
		u.Zone = randomZone(r)
		u.Days = []int{1, 1, 2, 3, 4, 7, 8, 1 + r.Intn(31)}[r.Intn(8)]
		u.Gap = r.Intn(9)
		u.First = 1 + r.Intn(12)
		u.Last = u.First + r.Intn(13-u.First)
		u.Hours = randomHours(r)
		m := meter.Meter{Step: []int{15, 30, 60}[r.Intn(3)]}
		values := make([]meter.Value, 1+r.Intn(200))
		for i := range values {
			values[i] = meter.Value{In: r.Intn(1000000000), Out: r.Intn(1000000000)}
		}
		if u.Gap > 0 && len(values) > 40 {
			for k := 0; k < u.Gap; k++ {
				values[len(values)/2+k] = meter.Value{Missing: true}
			}
		}
		m.Values = values
		start := randomStart(r, u.Zone)
		start = max(0, min(start, lastMinute+1-m.Step*len(values)))
		m.Start = start - start%m.Step
		want, e, at := splitOf(m, u)
		if e != meter.OK {
			refused++
		}
		checkSplit(t, m, u, want, e, at)
	}
	if refused < 100 || refused > 3000 {
		t.Errorf("%d of the meter files lie beyond the ends of time", refused)
	}
}

// bits gives every hour an In of its own, so that a sum tells which hours are in it.
func bits(n int) []meter.Value {
	values := make([]meter.Value, n)
	for i := range values {
		values[i] = meter.Value{In: 1 << i, Out: 1}
	}
	return values
}

func dayNumber(t *testing.T, year int, month int, date int) int {
	t.Helper()
	day, e := meter.Day(year, month, date)
	if e != meter.OK {
		t.Fatalf("Day(%d, %d, %d): %d", year, month, date, e)
	}
	return day
}

func TestP9TheHoursOfADay(t *testing.T) {
	u := someTariff()
	u.Zone = meter.Zone{}
	for _, c := range []struct{ year, month, date, row int }{
		{2000, 1, 1, 1}, {2000, 1, 2, 1}, {2000, 1, 3, 0}, {2000, 1, 4, 0}, {2000, 1, 5, 0}, {2000, 1, 6, 0}, {2000, 1, 7, 0}, {2000, 1, 8, 1},
		{2000, 3, 31, 0}, {2000, 4, 1, 3}, {2000, 4, 2, 3}, {2000, 4, 3, 2}, {2000, 4, 7, 2}, {2000, 9, 29, 2}, {2000, 9, 30, 3}, {2000, 10, 1, 1}, {2000, 10, 2, 0},
		{2001, 3, 31, 1}, {2001, 4, 1, 3}, {2099, 9, 30, 2}, {2099, 12, 31, 0},
	} {
		var want meter.Period
		for hour := 0; hour < 24; hour++ {
			want.In[u.Hours[c.row][hour]-'A'] += 1 << hour
		}
		want.Out = 24
		want.Peak = 1 << 23
		m := meter.Meter{Step: 60, Start: dayNumber(t, c.year, c.month, c.date) * 1440, Values: bits(24)}
		checkSplit(t, m, u, []meter.Period{want}, meter.OK, 0)
	}
}

func TestP9EachHourHasItsOwnLetter(t *testing.T) {
	for row := 0; row < 4; row++ {
		for hour := 0; hour < 24; hour++ {
			u := someTariff()
			u.Zone = meter.Zone{}
			plain := strings.Repeat("A", 24)
			u.Hours = [4]string{plain, plain, plain, plain}
			u.Hours[row] = plain[:hour] + "C" + plain[hour+1:]
			u.First, u.Last = 2, 2
			// Wednesday and Saturday of January and of February 2000
			day := [4]int{4, 7, 32, 35}[row]
			want := meter.Period{In: [3]int{1<<24 - 1 - 1<<hour, 0, 1 << hour}, Out: 24, Peak: 1 << 23}
			checkSplit(t, meter.Meter{Step: 60, Start: day * 1440, Values: bits(24)}, u, []meter.Period{want}, meter.OK, 0)
		}
	}
}

// An interval that reaches into the next hour or day there belongs where its first minute is.
func TestP9TheFirstMinuteCounts(t *testing.T) {
	u := someTariff()
	u.Days = 1
	u.Zone = meter.Zone{Offset: 45}
	u.Hours[0] = "A" + strings.Repeat("B", 22) + "C"
	// Monday 3 January 2000, 22:45 there, is 22:00 in universal time.
	m := meter.Meter{Step: 60, Start: 2*1440 + 22*60, Values: bits(4)}
	checkSplit(t, m, u, []meter.Period{{In: [3]int{0, 1, 2}, Out: 2, Peak: 2}, {In: [3]int{4, 8, 0}, Out: 2, Peak: 8}}, meter.OK, 0)
	u.Zone.Offset = -59
	m.Start = 3 * 1440
	checkSplit(t, m, u, []meter.Period{{In: [3]int{0, 0, 1}, Out: 1, Peak: 1}, {In: [3]int{2, 12, 0}, Out: 3, Peak: 8}}, meter.OK, 0)
}

// The month and the weekday are those there, and not those of universal time.
func TestP9TheDayThere(t *testing.T) {
	u := someTariff()
	u.Days = 31
	u.First, u.Last = 4, 4
	u.Hours = [4]string{strings.Repeat("A", 24), strings.Repeat("B", 24), strings.Repeat("C", 24), strings.Repeat("C", 24)}
	for _, c := range []struct {
		offset, year, month, date, hour int
		in                              [3]int
	}{
		{120, 2002, 3, 31, 21, [3]int{0, 1, 2}}, {120, 2002, 4, 30, 21, [3]int{2, 0, 1}}, {-120, 2002, 4, 1, 1, [3]int{0, 1, 2}}, {-120, 2002, 5, 1, 1, [3]int{2, 0, 1}},
		{720, 2003, 1, 3, 11, [3]int{1, 2, 0}}, {-720, 2003, 1, 6, 11, [3]int{2, 1, 0}},
	} {
		u.Zone = meter.Zone{Offset: c.offset}
		m := meter.Meter{Step: 60, Start: dayNumber(t, c.year, c.month, c.date)*1440 + c.hour*60, Values: bits(2)}
		checkSplit(t, m, u, []meter.Period{{In: c.in, Out: 2, Peak: 2}}, meter.OK, 0)
	}
}

// The first period has whole days too: it begins with the first interval's day, not with its minute.
func TestP9Periods(t *testing.T) {
	for days := 1; days <= 31; days++ {
		for hour := 0; hour < 24; hour++ {
			u := someTariff()
			u.Zone = meter.Zone{}
			u.Days = days
			u.Hours = [4]string{sunday, sunday, sunday, sunday}
			values := make([]meter.Value, 200)
			var want []meter.Period
			for i := range values {
				values[i] = meter.Value{In: 5 + i%7, Out: 2}
				if i == 0 || (hour+i)%(24*days) == 0 {
					want = append(want, meter.Period{})
				}
				p := &want[len(want)-1]
				p.In[2] += 5 + i%7
				p.Out += 2
				p.Peak = max(p.Peak, 5+i%7)
			}
			checkSplit(t, meter.Meter{Step: 60, Start: 700*1440 + hour*60, Values: values}, u, want, meter.OK, 0)
		}
	}
}

func TestP9DaysOfSummerTime(t *testing.T) {
	u := someTariff()
	u.Days = 1
	u.Hours = [4]string{mixed, mixed, mixed, mixed}
	ones := make([]meter.Value, 50)
	for i := range ones {
		ones[i].In = 1
	}
	// Saturday 24 March 2001 has 24 hours, the Sunday behind it 23: hour 2, a C, is left out.
	m := meter.Meter{Step: 60, Start: 448*1440 - 60, Values: ones[:48]}
	checkSplit(t, m, u, []meter.Period{{In: [3]int{8, 8, 8}, Peak: 1}, {In: [3]int{8, 8, 7}, Peak: 1}, {In: [3]int{1, 0, 0}, Peak: 1}}, meter.OK, 0)
	// Sunday 28 October 2001 has 25: hour 2 comes twice.
	m = meter.Meter{Step: 60, Start: 666*1440 - 120, Values: ones[:26]}
	checkSplit(t, m, u, []meter.Period{{In: [3]int{8, 8, 9}, Peak: 1}, {In: [3]int{1, 0, 0}, Peak: 1}}, meter.OK, 0)
}

// Summer time that ends in the first or last hour of a day does not tear the day apart.
func TestP9SummerTimeEndsAtTheEdgeOfADay(t *testing.T) {
	u := someTariff()
	u.Days = 1
	u.Hours = [4]string{sunday, sunday, sunday, sunday}
	for _, hour := range []int{0, 23} {
		u.Zone = meter.Zone{From: meter.Rule{Month: 3, Week: 1, Hour: hour}, To: meter.Rule{Month: 10, Week: 1, Hour: hour}}
		// 1 October 2000 is a Sunday, day 274.
		m := meter.Meter{Step: 60, Start: 274*1440 - 180, Values: make([]meter.Value, 28)}
		for i := range m.Values {
			m.Values[i].In = 1
		}
		checkSplit(t, m, u, []meter.Period{{In: [3]int{0, 0, 2}, Peak: 1}, {In: [3]int{0, 0, 25}, Peak: 1}, {In: [3]int{0, 0, 1}, Peak: 1}}, meter.OK, 0)
	}
}

func TestP9Peak(t *testing.T) {
	u := someTariff()
	u.Zone = meter.Zone{}
	u.Days = 1
	u.Hours = [4]string{workday, mixed, workday, mixed}
	for _, c := range []struct{ step, times int }{{15, 4}, {30, 2}, {60, 1}} {
		// the last two intervals of Monday and the first two of Tuesday, a C and an A
		m := meter.Meter{Step: c.step, Start: 3*1440 - 2*c.step, Values: []meter.Value{{In: 999999999, Out: 3}, {In: 7}, {In: 6, Out: 999999999}, {In: 6}}}
		want := []meter.Period{{In: [3]int{0, 0, 1000000006}, Out: 3, Peak: 999999999 * c.times}, {In: [3]int{12, 0, 0}, Out: 999999999, Peak: 6 * c.times}}
		checkSplit(t, m, u, want, meter.OK, 0)
	}
	m := meter.Meter{Step: 15, Values: []meter.Value{{Out: 77}}}
	checkSplit(t, m, u, []meter.Period{{Out: 77}}, meter.OK, 0)
	most := make([]meter.Value, 200)
	for i := range most {
		most[i] = meter.Value{In: 999999999, Out: 999999999}
	}
	u.Days = 31
	u.Hours = [4]string{sunday, sunday, sunday, sunday}
	checkSplit(t, meter.Meter{Step: 15, Values: most}, u, []meter.Period{{In: [3]int{0, 0, 199999999800}, Out: 199999999800, Peak: 3999999996}}, meter.OK, 0)
}

// What was missing counts with the value that it was filled with.
func TestP9MissingValues(t *testing.T) {
	u := someTariff()
	u.Zone = meter.Zone{}
	u.Gap = 2
	m := meter.Meter{Step: 30, Start: 2 * 1440, Values: []meter.Value{{In: 9, Out: 50}, {Missing: true}, {Missing: true}, {In: 5, Out: 60}}}
	checkSplit(t, m, u, []meter.Period{{In: [3]int{27, 0, 0}, Out: 50 + 53 + 56 + 60, Peak: 18}}, meter.OK, 0)
	u.Gap = 1
	refuseSplit(t, m, u, meter.ErrGap, 1)
	u.Gap = 8
	for _, c := range []struct {
		values []meter.Value
		at     int
	}{{ins(-1, 1, 1), 0}, {ins(1, -1, 1, -1, -1), 3}, {ins(1, -1, 2, -1, -1, -1, -1, -1, -1, -1, -1, -1, 3), 3}} {
		refuseSplit(t, meter.Meter{Step: 15, Start: 15, Values: c.values}, u, meter.ErrGap, c.at)
	}
}

func TestP9NoValidMeterFile(t *testing.T) {
	bad := someTariff()
	bad.Days = 0
	far := someTariff()
	far.Zone = meter.Zone{Offset: -720}
	for _, m := range badMeters() {
		refuseSplit(t, m, someTariff(), meter.ErrRange, 0)
		refuseSplit(t, m, bad, meter.ErrRange, 0)
		refuseSplit(t, m, far, meter.ErrRange, 0)
	}
}

// badTariffs break one rule each.
func badTariffs() []meter.Tariff {
	var all []meter.Tariff
	proto := someTariff()
	for i := range bounds(&proto) {
		low, high := someTariff(), someTariff()
		b := bounds(&low)[i]
		*b.number = min(b.low-1, 0)
		b = bounds(&high)[i]
		*b.number = max(b.high+1, 13)
		all = append(all, low, high)
	}
	for i := 0; i < 4; i++ {
		for _, hours := range []string{"", workday[:23], workday + "A", workday[:23] + "D", "a" + workday[1:]} {
			u := someTariff()
			u.Hours[i] = hours
			all = append(all, u)
		}
	}
	for _, z := range badZones() {
		u := someTariff()
		u.Zone = z
		all = append(all, u)
	}
	return append(all, meter.Tariff{})
}

// A tariff that is none is told ahead of missing values and of times that there are not.
func TestP9NoValidTariff(t *testing.T) {
	for _, bad := range badTariffs() {
		if meter.PrintTariff(bad) != "" {
			t.Errorf("%+v is valid", bad)
		}
		refuseSplit(t, meter.Meter{Step: 60, Start: 60000, Values: ins(1, 2, 3)}, bad, meter.ErrTerm, 0)
		refuseSplit(t, meter.Meter{Step: 60, Start: 60000, Values: ins(1, 2, -1)}, bad, meter.ErrTerm, 0)
		refuseSplit(t, meter.Meter{Step: 60, Start: lastMinute + 1 - 180, Values: ins(1, 2, 3)}, bad, meter.ErrTerm, 0)
	}
}

func TestP9TheEndsOfTime(t *testing.T) {
	three := ins(1, 2, 3)
	end := lastMinute + 1
	late := meter.Meter{Step: 60, Start: end - 180, Values: three}
	early := meter.Meter{Step: 60, Values: three}
	for _, c := range []struct {
		m  meter.Meter
		z  meter.Zone
		at int // the value that Clock errs for, or -1
	}{
		{late, meter.Zone{}, -1}, {late, meter.Zone{Offset: 59}, -1}, {late, meter.Zone{Offset: 60}, 2}, {late, meter.Zone{Offset: 119}, 2}, {late, meter.Zone{Offset: 120}, 1}, {late, meter.Zone{Offset: 180}, 0}, {late, meter.Zone{Offset: -720}, -1}, {late, meter.Zone{Offset: 720}, 0},
		{early, meter.Zone{}, -1}, {early, meter.Zone{Offset: -1}, 0}, {early, meter.Zone{Offset: -720}, 0}, {early, meter.Zone{Offset: 720}, -1},
		{meter.Meter{Step: 15, Start: 705, Values: three}, meter.Zone{Offset: -720}, 0}, {meter.Meter{Step: 15, Start: 720, Values: three}, meter.Zone{Offset: -720}, -1},
		{late, meter.Zone{From: south.From, To: south.To}, 2}, {late, meter.Zone{Offset: 60, From: south.From, To: south.To}, 1}, {late, meter.Zone{Offset: -1, From: south.From, To: south.To}, -1}, {late, meter.Zone{Offset: 59, From: north.From, To: north.To}, -1},
	} {
		u := someTariff()
		u.Zone = c.z
		if c.at >= 0 {
			refuseSplit(t, c.m, u, meter.ErrRange, c.at)
			// missing values that may not be filled come first
			gaps := c.m
			gaps.Values = ins(1, 2, -1)
			refuseSplit(t, gaps, u, meter.ErrGap, 2)
		} else {
			want, e, at := splitOf(c.m, u)
			if e != meter.OK || at != 0 || len(want) == 0 {
				t.Errorf("%+v: %v, %d, %d", c.z, want, e, at)
			}
			checkSplit(t, c.m, u, want, meter.OK, 0)
		}
	}
}
