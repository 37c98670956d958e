package meter_test

import (
	"fmt"
	"math/rand"
	"reflect"
	"regexp"
	"strings"
	"testing"

	"meter/meter"
)

const (
	mostBill       = 999999999999999
	longNumberForm = `(?:0|[1-9][0-9]{0,14})`
)

// numberPlaces are where a line's numbers lie, in the order of its text.
func numberPlaces(l *meter.Line) []*int {
	return []*int{&l.In[0], &l.In[1], &l.In[2], &l.Out, &l.Peak, &l.Billed, &l.Energy, &l.Power, &l.Applied, &l.Expired, &l.Paid, &l.Bank, &l.Sum, &l.Tax, &l.Total}
}

// billText writes a bill's text whether or not it is one that may be printed.
func billText(lines []meter.Line) string {
	var text strings.Builder
	for i, l := range lines {
		fmt.Fprintf(&text, "P %d", i)
		for _, place := range numberPlaces(&l) {
			fmt.Fprintf(&text, " %d", *place)
		}
		text.WriteString("\n")
	}
	return text.String()
}

// someLines have numbers of all lengths, each line others.
func someLines(n int) []meter.Line {
	r := rand.New(rand.NewSource(int64(n)))
	lines := make([]meter.Line, n)
	for i := range lines {
		for k, place := range numberPlaces(&lines[i]) {
			most := 10
			for d := (i + k) % 15; d > 0; d-- {
				most *= 10
			}
			*place = r.Intn(most)
		}
	}
	return lines
}

func equalLines(a []meter.Line, b []meter.Line) bool {
	return len(a) == len(b) && (len(a) == 0 || reflect.DeepEqual(a, b))
}

func checkReadBill(t *testing.T, text string, want []meter.Line, e meter.Errno, at int) {
	t.Helper()
	lines, gotE, gotAt := meter.ReadBill(text)
	if !equalLines(lines, want) || gotE != e || gotAt != at {
		t.Errorf("ReadBill(%.80q) = %.200v, %d, %d, want %.200v, %d, %d", text, lines, gotE, gotAt, want, e, at)
	}
}

func refuseBillText(t *testing.T, text string, e meter.Errno, at int) {
	t.Helper()
	checkReadBill(t, text, nil, e, at)
}

// acceptLines asks for a text and the way back.
func acceptLines(t *testing.T, lines []meter.Line) {
	t.Helper()
	text := billText(lines)
	if got := meter.PrintBill(lines); got != text {
		t.Errorf("PrintBill(%.200v) = %.80q, want %.80q", lines, got, text)
	}
	checkReadBill(t, text, lines, meter.OK, 0)
}

func refuseLines(t *testing.T, lines []meter.Line) {
	t.Helper()
	if s := meter.PrintBill(lines); s != "" {
		t.Errorf("PrintBill(%.200v) = %.80q", lines, s)
	}
}

func TestP13ByHand(t *testing.T) {
	lines := []meter.Line{
		{In: [3]int{1, 2, 3}, Out: 4, Peak: 5, Billed: 6, Energy: 7, Power: 8, Applied: 9, Expired: 10, Paid: 11, Bank: 12, Sum: 13, Tax: 14, Total: 15},
		{},
		{In: [3]int{30, 20, 10}, Total: mostBill},
	}
	text := "P 0 1 2 3 4 5 6 7 8 9 10 11 12 13 14 15\nP 1 0 0 0 0 0 0 0 0 0 0 0 0 0 0 0\nP 2 30 20 10 0 0 0 0 0 0 0 0 0 0 0 999999999999999\n"
	if got := meter.PrintBill(lines); got != text {
		t.Errorf("PrintBill = %q", got)
	}
	checkReadBill(t, text, lines, meter.OK, 0)
}

func TestP13BillsThereAndBack(t *testing.T) {
	for _, n := range []int{0, 1, 2, 3, 9, 10, 11, 12, 99, 100, 101, 102, 150, 198, 199, 200} {
		acceptLines(t, someLines(n))
	}
	acceptLines(t, nil)
	acceptLines(t, []meter.Line{})
	acceptLines(t, make([]meter.Line, 200))
	for _, n := range []int{201, 202, 400, 100000} {
		refuseLines(t, make([]meter.Line, n))
	}
	refuseLines(t, someLines(201))
}

func TestP13TheLongestBill(t *testing.T) {
	lines := make([]meter.Line, 200)
	for i := range lines {
		for _, place := range numberPlaces(&lines[i]) {
			*place = mostBill
		}
	}
	acceptLines(t, lines)
}

func TestP13TheBoundsOfEveryNumber(t *testing.T) {
	for k := range numberPlaces(&meter.Line{}) {
		for at := 0; at < 3; at++ {
			for _, n := range []int{0, 1, 9, 10, 999999999, 1000000000, mostBill - 1, mostBill} {
				lines := someLines(3)
				*numberPlaces(&lines[at])[k] = n
				acceptLines(t, lines)
			}
			for _, n := range append([]int{-1, -10, -mostBill, mostBill + 1, 9 * mostBill}, farNumbers...) {
				lines := someLines(3)
				if n >= 0 && n <= mostBill {
					continue
				}
				*numberPlaces(&lines[at])[k] = n
				refuseLines(t, lines)
				text := billText(lines)
				if _, e, _ := meter.ReadBill(text); e != meter.ErrSyntax {
					t.Errorf("ReadBill(%q): %d", text, e)
				}
			}
		}
	}
}

// billLineForm is the form of the line of one number.
func billLineForm(number int) form {
	parts := []string{"P", " "}
	for _, digit := range fmt.Sprint(number) {
		parts = append(parts, string(digit))
	}
	for range numberPlaces(&meter.Line{}) {
		parts = append(parts, " ", longNumberForm)
	}
	parts = append(parts, "\n")
	f := form{regexp.MustCompile(`\A` + strings.Join(parts, "")), regexp.MustCompile(`\A` + beginnings(parts))}
	f.beginning.Longest()
	return f
}

func billForms() []form {
	var forms []form
	for i := 0; i < 200; i++ {
		forms = append(forms, billLineForm(i))
	}
	return forms
}

// billFault answers where a text cannot go on as a bill, or -1 if it is one.
func billFault(forms []form, text string) int {
	at := 0
	for _, f := range forms {
		if at == len(text) {
			return -1
		}
		line := f.whole.FindStringIndex(text[at:])
		if line == nil {
			return at + f.beginning.FindStringIndex(text[at:])[1]
		}
		at += line[1]
	}
	if at == len(text) {
		return -1
	}
	return at
}

func checkBillText(t *testing.T, forms []form, text string) {
	t.Helper()
	lines, e, at := meter.ReadBill(text)
	if fault := billFault(forms, text); fault >= 0 {
		if e != meter.ErrSyntax || at != fault || len(lines) > 0 {
			t.Fatalf("ReadBill(%q) = %v, %d, %d, want ErrSyntax, %d", text, lines, e, at, fault)
		}
		return
	}
	if e != meter.OK || at != 0 || meter.PrintBill(lines) != text {
		t.Fatalf("ReadBill(%q) = %v, %d, %d", text, lines, e, at)
	}
}

func billVariants(text string) []string {
	all := variants(text)
	for i := 0; i <= len(text); i++ {
		for _, s := range []string{"P", "2", "5"} {
			all = append(all, text[:i]+s, text[:i]+s+text[i:])
			if i < len(text) {
				all = append(all, text[:i]+s+text[i+1:])
			}
		}
	}
	return all
}

func TestP13SyntaxByTheForm(t *testing.T) {
	forms := billForms()
	full := make([]meter.Line, 1)
	for _, place := range numberPlaces(&full[0]) {
		*place = mostBill
	}
	for _, text := range []string{"", billText(someLines(1)), billText(someLines(2)), billText(make([]meter.Line, 2)), billText(full)} {
		for _, s := range billVariants(text) {
			checkBillText(t, forms, s)
		}
	}
}

// The lines 9 to 12 and 99 to 101 have numbers that begin alike.
func TestP13TheNumberBehindP(t *testing.T) {
	forms := billForms()
	for _, n := range []int{0, 1, 2, 9, 10, 11, 12, 19, 20, 99, 100, 101, 110, 198, 199} {
		head := billText(make([]meter.Line, n))
		for wrong := 0; wrong < 205; wrong++ {
			checkBillText(t, forms, fmt.Sprintf("%sP %d 0 0 0 0 0 0 0 0 0 0 0 0 0 0 0\n", head, wrong))
			checkBillText(t, forms, fmt.Sprintf("%sP 0%d 0 0 0 0 0 0 0 0 0 0 0 0 0 0 0\n", head, wrong))
		}
		checkBillText(t, forms, head+"P")
		checkBillText(t, forms, head+"P ")
		checkBillText(t, forms, head+"P  ")
		checkBillText(t, forms, head+"P\n")
	}
	ten := billText(make([]meter.Line, 10))
	refuseBillText(t, ten+"P 1 0", meter.ErrSyntax, len(ten)+3)
	refuseBillText(t, ten+"P 11 0", meter.ErrSyntax, len(ten)+3)
	refuseBillText(t, ten+"P 100 0", meter.ErrSyntax, len(ten)+4)
	refuseBillText(t, ten+"P 9", meter.ErrSyntax, len(ten)+2)
}

func TestP13NoMoreThan200Lines(t *testing.T) {
	forms := billForms()
	text := billText(someLines(200))
	for _, more := range []string{"P", "\n", " ", "x", "P 200 0 0 0 0 0 0 0 0 0 0 0 0 0 0 0\n", "P 0 0"} {
		refuseBillText(t, text+more, meter.ErrSyntax, len(text))
		checkBillText(t, forms, text+more)
	}
	refuseBillText(t, billText(someLines(201)), meter.ErrSyntax, len(billText(someLines(201)[:200])))
}

func TestP13NumbersInABillHaveFifteenDigits(t *testing.T) {
	zeros := " 0 0 0 0 0 0 0 0 0 0 0 0 0 0\n"
	checkReadBill(t, "P 0 999999999999999"+zeros, []meter.Line{{In: [3]int{mostBill, 0, 0}}}, meter.OK, 0)
	checkReadBill(t, "P 0 100000000000000"+zeros, []meter.Line{{In: [3]int{100000000000000, 0, 0}}}, meter.OK, 0)
	refuseBillText(t, "P 0 1000000000000000"+zeros, meter.ErrSyntax, 19)
	refuseBillText(t, "P 0 9999999999999999999999999"+zeros, meter.ErrSyntax, 19)
	refuseBillText(t, "P 0 00"+zeros, meter.ErrSyntax, 5)
	refuseBillText(t, "P 0 01"+zeros, meter.ErrSyntax, 5)
	refuseBillText(t, "P 0 -1"+zeros, meter.ErrSyntax, 4)
	refuseBillText(t, "P 0 +1"+zeros, meter.ErrSyntax, 4)
	refuseBillText(t, "P 0 "+zeros, meter.ErrSyntax, 4)
	refuseBillText(t, "P 0"+zeros, meter.ErrSyntax, 31)
	refuseBillText(t, "P 0 0 0"+zeros, meter.ErrSyntax, 33)
}

func TestP13Long(t *testing.T) {
	text := billText(someLines(200))
	refuseBillText(t, text+strings.Repeat("\n", 80000-len(text)), meter.ErrSyntax, len(text))
	refuseBillText(t, text+strings.Repeat("\n", 80001-len(text)), meter.ErrLong, 0)
	refuseBillText(t, strings.Repeat("P", 80000), meter.ErrSyntax, 1)
	refuseBillText(t, strings.Repeat("P", 80001), meter.ErrLong, 0)
	refuseBillText(t, strings.Repeat("x", 80000), meter.ErrSyntax, 0)
	refuseBillText(t, strings.Repeat("x", 1000000), meter.ErrLong, 0)
	refuseBillText(t, strings.Repeat(text, 100), meter.ErrLong, 0)
}
