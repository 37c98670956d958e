package meter

const (
	sunday   = 0
	saturday = 6
)

// Split adds up periods and classes (P9).
func Split(m Meter, t Tariff) ([]Period, Errno, int) {
	if !validMeter(m) {
		return nil, ErrRange, 0
	}
	if badLine(t) < tariffLines {
		return nil, ErrTerm, 0
	}
	values, wrong, place := Fill(m, t.Gap)
	if wrong != OK {
		return nil, wrong, place
	}
	return periods(Meter{Step: m.Step, Start: m.Start, Values: values}, t)
}

// periods asks for a valid tariff and a valid meter file that misses nothing.
// Days never go back: when summer time ends, the hour that comes twice lies in
// one day, because a rule's hour is a whole one. So a period that a day lies
// behind is complete.
func periods(m Meter, t Tariff) ([]Period, Errno, int) {
	var done []Period
	var p Period
	end := 0
	for i := 0; i < len(m.Values); i++ {
		day, minute, wrong := Clock(t.Zone, m.Start+i*m.Step)
		if wrong != OK {
			return nil, wrong, i
		}
		if i == 0 {
			end = day + t.Days
		}
		for day >= end {
			done = append(done, p)
			p = Period{}
			end += t.Days
		}
		class := classOf(t, day, minute/minutesOfHour)
		p = p.with(m.Values[i], class, m.Step)
	}
	done = append(done, p)
	return done, OK, 0
}

// with answers the period with one more interval in it.
func (p Period) with(v Value, class int, minutes int) Period {
	p.In[class] += v.In
	p.Out += v.Out
	power := minutesOfHour * v.In / minutes
	if power > p.Peak {
		p.Peak = power
	}
	return p
}

func classOf(t Tariff, day int, hour int) int {
	row := 0
	if isWeekend(day) {
		row = 1
	}
	if inSeason(t, day) {
		row += 2
	}
	switch t.Hours[row][hour] {
	case 'A':
		return 0
	case 'B':
		return 1
	}
	return 2
}

func isWeekend(day int) bool {
	d := weekday(day)
	return d == saturday || d == sunday
}

// inSeason tells whether a day lies in the months First to Last.
func inSeason(t Tariff, day int) bool {
	year := yearOf(day)
	first := monthStart(year, t.First)
	last := monthStart(year, t.Last) + monthDays(year, t.Last) - 1
	return within(day, first, last)
}
