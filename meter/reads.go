package meter

import "strconv"

const sumModulus = 10000

// ReadMeter reads a meter file (P4).
func ReadMeter(text string) (Meter, Errno, int) {
	if len(text) > maxText {
		return Meter{}, ErrLong, 0
	}
	s := scanner{text: text}
	m := s.meter()
	last := s.at
	s.take('T')
	count := s.field()
	sum := s.field()
	s.take('\n')
	s.end()
	if s.bad {
		return Meter{}, ErrSyntax, s.at
	}
	if !validMeter(m) {
		return Meter{}, ErrRange, 0
	}
	if count != len(m.Values) || sum != checkSum(m.Values) {
		return Meter{}, ErrSum, last
	}
	return m, OK, 0
}

// PrintMeter writes a meter file (P5).
func PrintMeter(m Meter) string {
	if !validMeter(m) {
		return ""
	}
	text := "H" + fieldText(m.Step) + fieldText(m.Start) + "\n"
	for i := 0; i < len(m.Values); i++ {
		text += valueText(m.Values[i])
	}
	return text + "T" + fieldText(len(m.Values)) + fieldText(checkSum(m.Values)) + "\n"
}

// meter takes all lines ahead of the last one.
func (s *scanner) meter() Meter {
	var m Meter
	s.take('H')
	m.Step = s.field()
	m.Start = s.field()
	s.take('\n')
	for !s.bad && !s.sees('T') {
		v := s.value()
		m.Values = append(m.Values, v)
	}
	return m
}

func (s *scanner) value() Value {
	var v Value
	if s.sees('-') {
		s.at++
		v.Missing = true
	} else {
		v.In = s.number()
		v.Out = s.field()
	}
	s.take('\n')
	return v
}

func valueText(v Value) string {
	if v.Missing {
		return "-\n"
	}
	return strconv.Itoa(v.In) + fieldText(v.Out) + "\n"
}

func validMeter(m Meter) bool {
	if m.Step != 15 && m.Step != 30 && m.Step != 60 {
		return false
	}
	if !within(len(m.Values), 1, maxReads) {
		return false
	}
	// The end is taken from the last minute: Start plus something could wrap round.
	latest := lastMinute + 1 - m.Step*len(m.Values)
	if !within(m.Start, 0, latest) || m.Start%m.Step != 0 {
		return false
	}
	for i := 0; i < len(m.Values); i++ {
		if !validValue(m.Values[i]) {
			return false
		}
	}
	return true
}

func validValue(v Value) bool {
	if v.Missing {
		return v.In == 0 && v.Out == 0
	}
	return within(v.In, 0, maxNumber) && within(v.Out, 0, maxNumber)
}

func checkSum(values []Value) int {
	sum := 0
	for i := 0; i < len(values); i++ {
		sum = (sum + values[i].In + values[i].Out) % sumModulus
	}
	return sum
}
