package meter

// Bill prices the periods (P10 to P12).
func Bill(m Meter, t Tariff) ([]Line, Errno, int) {
	used, wrong, place := Split(m, t)
	if wrong != OK {
		return nil, wrong, place
	}
	var lines []Line
	var credits bank
	for i := 0; i < len(used); i++ {
		l := Line{In: used[i].In, Out: used[i].Out, Peak: used[i].Peak}
		ahead := peakAhead(used, i, t.Demand.Periods)
		l.Billed = larger(l.Peak, ahead*t.Demand.Percent/100)
		l.Energy = energyPrice(l.In, t.Blocks)
		l.Power = rounded(l.Billed * t.Demand.Price)
		l.Paid = rounded(l.Out * t.Net.Price)
		l.Expired = credits.expire(t.Net.Periods)
		l.Applied = credits.apply(l.Energy)
		credits.add(l.Paid)
		l.Bank = credits.left()
		l.Sum = larger(t.Fixed+l.Energy-l.Applied+l.Power, t.Minimum)
		l.Tax = rounded(l.Sum * t.Tax)
		l.Total = l.Sum + l.Tax
		lines = append(lines, l)
	}
	return lines, OK, 0
}

// peakAhead answers the largest Peak of so many periods ahead of one, or of as
// many as there are.
func peakAhead(used []Period, at int, periods int) int {
	largest := 0
	for i := larger(at-periods, 0); i < at; i++ {
		largest = larger(largest, used[i].Peak)
	}
	return largest
}

func energyPrice(in [3]int, blocks [3]Block) int {
	price := 0
	for i := 0; i < len(blocks); i++ {
		low := smaller(in[i], blocks[i].Limit)
		price += rounded(low * blocks[i].Low)
		price += rounded((in[i] - low) * blocks[i].High)
	}
	return price
}

// rounded answers n/1000 as the nearest whole number, up from the middle; n is
// not below 0.
func rounded(n int) int {
	return (n + 500) / 1000
}

func larger(a int, b int) int {
	if a > b {
		return a
	}
	return b
}

func smaller(a int, b int) int {
	if a < b {
		return a
	}
	return b
}
