package meter_test

import (
	"math/rand"
	"strings"
	"testing"

	"meter/meter"
)

func checkRun(t *testing.T, reads string, tariff string, want string, e meter.Errno, at int) {
	t.Helper()
	text, gotE, gotAt := meter.Run(reads, tariff)
	if text != want || gotE != e || gotAt != at {
		t.Errorf("Run(%.80q, %q) = %.80q, %d, %d, want %.80q, %d, %d", reads, tariff, text, gotE, gotAt, want, e, at)
	}
}

func refuseRun(t *testing.T, reads string, tariff string, e meter.Errno, at int) {
	t.Helper()
	checkRun(t, reads, tariff, "", e, at)
}

func TestP14ByHand(t *testing.T) {
	reads := "H 60 0\n1500 0\n499 40\nT 2 2039\n"
	tariff := "Z 720 0 0 0 0 0 0 0 0\nD 1 0\nS 1 12\nW " + sunday + "\nW " + sunday + "\nW AB" + sunday[2:] + "\nW AB" + sunday[2:] + "\nB 1000 100 200\nB 500 1 1\nB 0 0 0\nM 10 0 0\nN 1000 0\nF 40 100 190\n"
	checkRun(t, reads, tariff, "P 0 1500 499 0 40 1500 1500 200 15 0 0 40 40 255 48 303\n", meter.OK, 0)
}

func TestP14TheTextOfTheBill(t *testing.T) {
	r := rand.New(rand.NewSource(14))
	for turn := 0; turn < 1500; turn++ {
		u := randomPrices(r)
		m := randomReads(r, u.Zone)
		reads, tariff := meterText(m.Step, m.Start, m.Values), tariffText(u)
		if at := firstBadRow(m.Values, u.Gap); at >= 0 {
			refuseRun(t, reads, tariff, meter.ErrGap, at)
			continue
		}
		periods, e, at := splitOf(m, u)
		checkRun(t, reads, tariff, billText(billOf(periods, u)), e, at)
	}
}

// What is wrong with the reads comes first, then what is wrong with the tariff, then with both together.
func TestP14Errors(t *testing.T) {
	good := tariffText(someTariff())
	bad := someTariff()
	bad.Tax = 1001
	badText := tariffText(bad)
	badAt := strings.Index(badText, "F")
	reads := meterText(60, 60000, ins(1, 2, 3))
	for _, tariff := range []string{good, badText, "", "x", good[:5], strings.Repeat("Z", 9000)} {
		refuseRun(t, strings.Repeat("H", 8001), tariff, meter.ErrLong, 0)
		refuseRun(t, "", tariff, meter.ErrSyntax, 0)
		refuseRun(t, "H", tariff, meter.ErrSyntax, 1)
		refuseRun(t, reads+"x", tariff, meter.ErrSyntax, len(reads))
		refuseRun(t, meterText(61, 0, ins(1)), tariff, meter.ErrRange, 0)
		refuseRun(t, strings.Replace(reads, "T 3", "T 4", 1), tariff, meter.ErrSum, strings.Index(reads, "T"))
	}
	gap := meterText(60, 60000, ins(1, 2, -1))
	late := meterText(60, lastMinute+1-180, ins(1, 2, 3))
	lateGap := meterText(60, lastMinute+1-180, ins(1, 2, -1))
	for _, sound := range []string{reads, gap, late, lateGap} {
		refuseRun(t, sound, strings.Repeat("Z", 8001), meter.ErrLong, 0)
		refuseRun(t, sound, "", meter.ErrSyntax, 0)
		refuseRun(t, sound, good[:len(good)-1], meter.ErrSyntax, len(good)-1)
		refuseRun(t, sound, strings.Replace(badText, "W C", "W D", 1), meter.ErrSyntax, strings.Index(good, "W C")+2)
		refuseRun(t, sound, badText, meter.ErrTerm, badAt)
	}
	refuseRun(t, gap, good, meter.ErrGap, 2)
	refuseRun(t, lateGap, good, meter.ErrGap, 2)
	refuseRun(t, late, good, meter.ErrRange, 2) // an hour east of universal time
	refuseRun(t, good, reads, meter.ErrSyntax, 0)
}
