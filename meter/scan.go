package meter

import "strconv"

// maxDigits is how many digits a number in a text may have.
const maxDigits = 9

// scanner walks over a text. At the first byte that does not fit it turns bad
// and stays there, whatever is asked of it later: so a reader can ask for all
// parts of a text in a row, and look once at the end whether they were there.
type scanner struct {
	text string
	at   int
	bad  bool
}

// sees tells whether the next byte is c.
func (s *scanner) sees(c byte) bool {
	return !s.bad && s.at < len(s.text) && s.text[s.at] == c
}

func (s *scanner) seesDigit() bool {
	return !s.bad && s.at < len(s.text) && '0' <= s.text[s.at] && s.text[s.at] <= '9'
}

func (s *scanner) take(c byte) {
	if s.sees(c) {
		s.at++
		return
	}
	s.bad = true
}

func (s *scanner) word(w string) {
	for i := 0; i < len(w); i++ {
		s.take(w[i])
	}
}

func (s *scanner) number() int {
	return s.numberUpTo(maxDigits)
}

// numberUpTo leaves a digit too many where it stands: whatever part comes next
// does not begin with a digit, and so finds the fault at the right place.
func (s *scanner) numberUpTo(most int) int {
	if s.sees('0') {
		s.at++
		return 0
	}
	if !s.seesDigit() {
		s.bad = true
		return 0
	}
	n := 0
	for digits := 0; digits < most && s.seesDigit(); digits++ {
		n = n*10 + int(s.text[s.at]-'0')
		s.at++
	}
	return n
}

// field takes a number and the blank ahead of it.
func (s *scanner) field() int {
	s.take(' ')
	return s.number()
}

func (s *scanner) end() {
	if s.at < len(s.text) {
		s.bad = true
	}
}

// fieldText is what field takes.
func fieldText(n int) string {
	return " " + strconv.Itoa(n)
}
