package meter

// Run answers the bill of two texts (P14).
func Run(reads string, tariff string) (string, Errno, int) {
	m, wrong, place := ReadMeter(reads)
	if wrong != OK {
		return "", wrong, place
	}
	t, wrong, place := ReadTariff(tariff)
	if wrong != OK {
		return "", wrong, place
	}
	lines, wrong, place := Bill(m, t)
	if wrong != OK {
		return "", wrong, place
	}
	return PrintBill(lines), OK, 0
}
