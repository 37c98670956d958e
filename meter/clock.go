package meter

const (
	firstYear      = 2000
	yearsInAll     = 100
	daysInFour     = 1461
	daysInLeapYear = 366
	minutesOfDay   = 1440
	minutesOfHour  = 60
	summerMinutes  = 60
	maxOffset      = 720
)

// Date answers the date of a day (P2).
func Date(day int) (int, int, int, Errno) {
	if !within(day, 0, lastDay) {
		return 0, 0, 0, ErrRange
	}
	year := yearOf(day)
	month := 1
	rest := day - yearStart(year)
	for month < 12 && rest >= monthDays(year, month) {
		rest -= monthDays(year, month)
		month++
	}
	return year, month, rest + 1, OK
}

// Day answers the day of a date (P2).
func Day(year int, month int, date int) (int, Errno) {
	if !within(year, firstYear, firstYear+yearsInAll-1) || !within(month, 1, 12) {
		return 0, ErrRange
	}
	if !within(date, 1, monthDays(year, month)) {
		return 0, ErrRange
	}
	return monthStart(year, month) + date - 1, OK
}

// Clock answers the day and the minute there (P3).
func Clock(z Zone, minute int) (int, int, Errno) {
	// The bounds of both come first: the sum of unbounded numbers could wrap round.
	if !validZone(z) || !within(minute, 0, lastMinute) {
		return 0, 0, ErrRange
	}
	standard := minute + z.Offset
	if !within(standard, 0, lastMinute) {
		return 0, 0, ErrRange
	}
	there := standard
	if isSummer(z, standard) {
		there += summerMinutes
	}
	if there > lastMinute {
		return 0, 0, ErrRange
	}
	return there / minutesOfDay, there % minutesOfDay, OK
}

func within(n int, low int, high int) bool {
	return low <= n && n <= high
}

func validZone(z Zone) bool {
	if !within(z.Offset, -maxOffset, maxOffset) {
		return false
	}
	if !hasSummer(z) {
		return true
	}
	return validRule(z.From) && validRule(z.To) && z.From.Month != z.To.Month
}

func hasSummer(z Zone) bool {
	none := Rule{}
	return z.From != none || z.To != none
}

func validRule(r Rule) bool {
	return within(r.Month, 1, 12) && within(r.Week, 1, 5) && within(r.Weekday, 0, 6) && within(r.Hour, 0, 23)
}

func isSummer(z Zone, standard int) bool {
	if !hasSummer(z) {
		return false
	}
	year := yearOf(standard / minutesOfDay)
	from := moment(z.From, year)
	to := moment(z.To, year)
	if z.From.Month < z.To.Month {
		return from <= standard && standard < to
	}
	return standard < to || from <= standard
}

// moment answers the minute in standard time at which a rule strikes in a year.
func moment(r Rule, year int) int {
	first := monthStart(year, r.Month)
	date := 1 + (r.Weekday-weekday(first)+7)%7 + (r.Week-1)*7
	// Week 5 stands for the last one, and that is the fourth in most months.
	if date > monthDays(year, r.Month) {
		date -= 7
	}
	return (first+date-1)*minutesOfDay + r.Hour*minutesOfHour
}

func weekday(day int) int {
	// Day 0 is a Saturday.
	return (day + 6) % 7
}

func yearOf(day int) int {
	year := firstYear + day/daysInFour*4
	rest := day % daysInFour
	if rest < daysInLeapYear {
		return year
	}
	return year + 1 + (rest-daysInLeapYear)/(daysInLeapYear-1)
}

func yearStart(year int) int {
	years := year - firstYear
	leapYears := (years + 3) / 4
	return years*(daysInLeapYear-1) + leapYears
}

func monthStart(year int, month int) int {
	day := yearStart(year)
	for m := 1; m < month; m++ {
		day += monthDays(year, m)
	}
	return day
}

func monthDays(year int, month int) int {
	switch month {
	case 2:
		if year%4 == 0 {
			return 29
		}
		return 28
	case 4, 6, 9, 11:
		return 30
	}
	return 31
}
