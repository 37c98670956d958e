package meter

const (
	hoursOfDay = 24
	maxDays    = 31
	maxLimit   = 1000000
	maxPrice   = 100000
	maxCharge  = 1000000
	maxPercent = 100
	maxPeriods = 12
	maxTax     = 1000
)

// The lines of a tariff's text, counted from 0 on.
const (
	lineZone    = 0
	lineDays    = 1
	lineSeason  = 2
	lineHours   = 3
	lineBlocks  = 7
	lineDemand  = 10
	lineNet     = 11
	lineFixed   = 12
	tariffLines = 13
)

// ReadTariff reads a tariff (P6).
func ReadTariff(text string) (Tariff, Errno, int) {
	if len(text) > maxText {
		return Tariff{}, ErrLong, 0
	}
	s := scanner{text: text}
	t := s.tariff()
	s.end()
	if s.bad {
		return Tariff{}, ErrSyntax, s.at
	}
	line := badLine(t)
	if line < tariffLines {
		return Tariff{}, ErrTerm, lineStart(text, line)
	}
	return t, OK, 0
}

// PrintTariff writes a tariff (P7).
func PrintTariff(t Tariff) string {
	if badLine(t) < tariffLines {
		return ""
	}
	text := "Z" + fieldText(t.Zone.Offset+maxOffset) + ruleText(t.Zone.From) + ruleText(t.Zone.To) + "\n"
	text += "D" + fieldText(t.Days) + fieldText(t.Gap) + "\n"
	text += "S" + fieldText(t.First) + fieldText(t.Last) + "\n"
	for i := 0; i < len(t.Hours); i++ {
		text += "W " + t.Hours[i] + "\n"
	}
	for i := 0; i < len(t.Blocks); i++ {
		text += blockText(t.Blocks[i])
	}
	text += "M" + fieldText(t.Demand.Price) + fieldText(t.Demand.Percent) + fieldText(t.Demand.Periods) + "\n"
	text += "N" + fieldText(t.Net.Price) + fieldText(t.Net.Periods) + "\n"
	return text + "F" + fieldText(t.Fixed) + fieldText(t.Minimum) + fieldText(t.Tax) + "\n"
}

func ruleText(r Rule) string {
	return fieldText(r.Month) + fieldText(r.Week) + fieldText(r.Weekday) + fieldText(r.Hour)
}

func blockText(b Block) string {
	return "B" + fieldText(b.Limit) + fieldText(b.Low) + fieldText(b.High) + "\n"
}

func (s *scanner) tariff() Tariff {
	var t Tariff
	t.Zone = s.zone()
	s.take('D')
	t.Days = s.field()
	t.Gap = s.field()
	s.take('\n')
	s.take('S')
	t.First = s.field()
	t.Last = s.field()
	s.take('\n')
	for i := 0; i < len(t.Hours); i++ {
		t.Hours[i] = s.hours()
	}
	for i := 0; i < len(t.Blocks); i++ {
		t.Blocks[i] = s.block()
	}
	t.Demand = s.demand()
	t.Net = s.net()
	s.take('F')
	t.Fixed = s.field()
	t.Minimum = s.field()
	t.Tax = s.field()
	s.take('\n')
	return t
}

func (s *scanner) zone() Zone {
	var z Zone
	s.take('Z')
	shifted := s.field()
	z.Offset = shifted - maxOffset
	z.From = s.rule()
	z.To = s.rule()
	s.take('\n')
	return z
}

func (s *scanner) rule() Rule {
	var r Rule
	r.Month = s.field()
	r.Week = s.field()
	r.Weekday = s.field()
	r.Hour = s.field()
	return r
}

// hours lays the letters into new memory: a part of the text would keep the
// whole text alive for as long as the tariff.
func (s *scanner) hours() string {
	var letters []byte
	s.take('W')
	s.take(' ')
	for i := 0; i < hoursOfDay; i++ {
		c := s.class()
		letters = append(letters, c)
	}
	s.take('\n')
	return string(letters)
}

func (s *scanner) class() byte {
	if s.bad || s.at >= len(s.text) || !isClass(s.text[s.at]) {
		s.bad = true
		return 0
	}
	c := s.text[s.at]
	s.at++
	return c
}

func (s *scanner) block() Block {
	var b Block
	s.take('B')
	b.Limit = s.field()
	b.Low = s.field()
	b.High = s.field()
	s.take('\n')
	return b
}

func (s *scanner) demand() Demand {
	var d Demand
	s.take('M')
	d.Price = s.field()
	d.Percent = s.field()
	d.Periods = s.field()
	s.take('\n')
	return d
}

func (s *scanner) net() Net {
	var n Net
	s.take('N')
	n.Price = s.field()
	n.Periods = s.field()
	s.take('\n')
	return n
}

// badLine answers the first line of a tariff's text that would hold something
// against a rule, or tariffLines if none would.
func badLine(t Tariff) int {
	if !validZone(t.Zone) {
		return lineZone
	}
	if !within(t.Days, 1, maxDays) || !within(t.Gap, 0, maxGap) {
		return lineDays
	}
	if !within(t.First, 1, t.Last) || t.Last > 12 {
		return lineSeason
	}
	for i := 0; i < len(t.Hours); i++ {
		if !validHours(t.Hours[i]) {
			return lineHours + i
		}
	}
	for i := 0; i < len(t.Blocks); i++ {
		if !validBlock(t.Blocks[i]) {
			return lineBlocks + i
		}
	}
	if !validDemand(t.Demand) {
		return lineDemand
	}
	if !within(t.Net.Price, 0, maxPrice) || !within(t.Net.Periods, 0, maxPeriods) {
		return lineNet
	}
	if !within(t.Fixed, 0, maxCharge) || !within(t.Minimum, 0, maxCharge) || !within(t.Tax, 0, maxTax) {
		return lineFixed
	}
	return tariffLines
}

func validHours(hours string) bool {
	if len(hours) != hoursOfDay {
		return false
	}
	for i := 0; i < len(hours); i++ {
		if !isClass(hours[i]) {
			return false
		}
	}
	return true
}

func isClass(c byte) bool {
	return c == 'A' || c == 'B' || c == 'C'
}

func validBlock(b Block) bool {
	return within(b.Limit, 0, maxLimit) && within(b.Low, 0, maxPrice) && within(b.High, 0, maxPrice)
}

func validDemand(d Demand) bool {
	return within(d.Price, 0, maxCharge) && within(d.Percent, 0, maxPercent) && within(d.Periods, 0, maxPeriods)
}

func lineStart(text string, line int) int {
	at := 0
	for at < len(text) && line > 0 {
		if text[at] == '\n' {
			line--
		}
		at++
	}
	return at
}
