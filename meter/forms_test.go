package meter_test

import (
	"regexp"
	"strings"
	"testing"

	"meter/meter"
)

const (
	numberForm = `(?:0|[1-9][0-9]{0,8})`
	letterForm = `[ABC]`
)

// form is the form of a text twice: as a whole, and as all beginnings of such
// texts. The longest beginning that a text has ends where it cannot go on.
type form struct{ whole, beginning *regexp.Regexp }

// beginnings matches every beginning of the parts in a row.
func beginnings(parts []string) string {
	s := ""
	for i := len(parts) - 1; i >= 0; i-- {
		s = "(?:" + parts[i] + s + ")?"
	}
	return s
}

func lineForm(letter string, numbers int) []string {
	parts := []string{letter}
	for i := 0; i < numbers; i++ {
		parts = append(parts, " ", numberForm)
	}
	return append(parts, "\n")
}

func newForm(whole string, beginning string) form {
	f := form{regexp.MustCompile(`\A` + whole + `\z`), regexp.MustCompile(`\A` + beginning)}
	f.beginning.Longest()
	return f
}

func meterForm() form {
	head := lineForm("H", 2)
	last := lineForm("T", 2)
	value := []string{numberForm, " ", numberForm, "\n"}
	values := "(?:(?:" + numberForm + " " + numberForm + "|-)\n)*"
	rest := values + "(?:" + beginnings(value) + "|" + beginnings([]string{"-", "\n"}) + "|" + beginnings(last) + ")"
	return newForm(strings.Join(head, "")+values+strings.Join(last, ""), beginnings(append(head, rest)))
}

func tariffForm() form {
	var parts []string
	parts = append(parts, lineForm("Z", 9)...)
	parts = append(parts, lineForm("D", 2)...)
	parts = append(parts, lineForm("S", 2)...)
	for i := 0; i < 4; i++ {
		parts = append(parts, "W", " ")
		for hour := 0; hour < 24; hour++ {
			parts = append(parts, letterForm)
		}
		parts = append(parts, "\n")
	}
	for i := 0; i < 3; i++ {
		parts = append(parts, lineForm("B", 3)...)
	}
	parts = append(parts, lineForm("M", 3)...)
	parts = append(parts, lineForm("N", 2)...)
	parts = append(parts, lineForm("F", 3)...)
	return newForm(strings.Join(parts, ""), beginnings(parts))
}

// check tells whether an answer fits what the form says of a text.
func (f form) check(t *testing.T, text string, e meter.Errno, at int) {
	t.Helper()
	if f.whole.MatchString(text) {
		if e == meter.ErrSyntax || e == meter.ErrLong {
			t.Fatalf("%q is of the form, answered %d, %d", text, e, at)
		}
		return
	}
	want := f.beginning.FindStringIndex(text)[1]
	if e != meter.ErrSyntax || at != want {
		t.Fatalf("%q: answered %d, %d, want ErrSyntax, %d", text, e, at, want)
	}
}

// variants are all texts that differ from text in one place, and its beginnings.
func variants(text string) []string {
	var all []string
	for i := 0; i <= len(text); i++ {
		all = append(all, text[:i])
		for _, c := range []byte("\x00\t\n\r -+./019:@ABCDFHMNSTWZa\xff") {
			one := string([]byte{c})
			all = append(all, text[:i]+one, text[:i]+one+text[i:])
			if i < len(text) {
				all = append(all, text[:i]+one+text[i+1:])
			}
		}
		if i < len(text) {
			all = append(all, text[:i]+text[i+1:])
		}
	}
	return all
}
