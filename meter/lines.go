package meter

const (
	maxBillText   = 200 * 400
	maxBillNumber = 999999999999999
	maxBillDigits = 15
	lineNumbers   = 15
)

// PrintBill writes a bill (P13).
func PrintBill(l []Line) string {
	if len(l) > maxReads {
		return ""
	}
	text := ""
	for i := 0; i < len(l); i++ {
		if !validLine(l[i]) {
			return ""
		}
		text += lineText(i, l[i])
	}
	return text
}

// ReadBill reads a bill (P13).
func ReadBill(text string) ([]Line, Errno, int) {
	if len(text) > maxBillText {
		return nil, ErrLong, 0
	}
	s := scanner{text: text}
	var lines []Line
	for !s.bad && s.at < len(text) && len(lines) < maxReads {
		l := s.line(len(lines))
		lines = append(lines, l)
	}
	s.end()
	if s.bad {
		return nil, ErrSyntax, s.at
	}
	return lines, OK, 0
}

func validLine(l Line) bool {
	numbers := l.numbers()
	for i := 0; i < len(numbers); i++ {
		if !within(numbers[i], 0, maxBillNumber) {
			return false
		}
	}
	return true
}

func lineText(number int, l Line) string {
	text := "P" + fieldText(number)
	numbers := l.numbers()
	for i := 0; i < len(numbers); i++ {
		text += fieldText(numbers[i])
	}
	return text + "\n"
}

// numbers answers a line's numbers in the order of its text.
func (l Line) numbers() [lineNumbers]int {
	return [lineNumbers]int{
		l.In[0], l.In[1], l.In[2],
		l.Out, l.Peak, l.Billed,
		l.Energy, l.Power,
		l.Applied, l.Expired, l.Paid, l.Bank,
		l.Sum, l.Tax, l.Total,
	}
}

func (s *scanner) line(number int) Line {
	var l Line
	s.take('P')
	s.word(fieldText(number))
	for i := 0; i < len(l.In); i++ {
		l.In[i] = s.amount()
	}
	l.Out = s.amount()
	l.Peak = s.amount()
	l.Billed = s.amount()
	l.Energy = s.amount()
	l.Power = s.amount()
	l.Applied = s.amount()
	l.Expired = s.amount()
	l.Paid = s.amount()
	l.Bank = s.amount()
	l.Sum = s.amount()
	l.Tax = s.amount()
	l.Total = s.amount()
	s.take('\n')
	return l
}

// amount takes a number of a bill and the blank ahead of it.
func (s *scanner) amount() int {
	s.take(' ')
	return s.numberUpTo(maxBillDigits)
}
