// Package meter: electricity bills from interval reads: see DOC.md.
package meter

// Errno is what a call answers: OK or the reason for a refusal.
type Errno int

const (
	OK        Errno = 0
	ErrLong   Errno = 1 // a text above its bound
	ErrSyntax Errno = 2 // a text that is not of its form
	ErrRange  Errno = 3 // no valid reads, or no such date or minute
	ErrSum    Errno = 4 // the last line of a meter file is wrong
	ErrTerm   Errno = 5 // no valid tariff
	ErrGap    Errno = 6 // missing values that may not be filled
)

const (
	maxText    = 8000
	maxReads   = 200
	maxNumber  = 999999999
	maxGap     = 8
	lastDay    = 36524
	lastMinute = 52595999
)

// Value is what was fed out to the customer and in from the customer in one interval.
type Value struct {
	In, Out int
	Missing bool
}

// Meter is a meter file.
type Meter struct {
	Step, Start int
	Values      []Value
}

// Rule is a moment of every year.
type Rule struct{ Month, Week, Weekday, Hour int }

// Zone is where the customer lives.
type Zone struct {
	Offset   int
	From, To Rule
}

// Block is a price in two steps.
type Block struct{ Limit, Low, High int }

// Demand is what power costs.
type Demand struct{ Price, Percent, Periods int }

// Net is what is paid for what was fed in.
type Net struct{ Price, Periods int }

// Tariff is all that a price depends on.
type Tariff struct {
	Zone                Zone
	Days, Gap           int
	First, Last         int
	Hours               [4]string
	Blocks              [3]Block
	Demand              Demand
	Net                 Net
	Fixed, Minimum, Tax int
}

// Period is what was used in one billing period.
type Period struct {
	In        [3]int
	Out, Peak int
}

// Line is a billing period's line of the bill.
type Line struct {
	In                           [3]int
	Out, Peak, Billed            int
	Energy, Power                int
	Applied, Expired, Paid, Bank int
	Sum, Tax, Total              int
}
