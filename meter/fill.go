package meter

// Fill fills what is missing (P8).
func Fill(m Meter, gap int) ([]Value, Errno, int) {
	if !validMeter(m) || !within(gap, 0, maxGap) {
		return nil, ErrRange, 0
	}
	var filled []Value
	at := 0
	for at < len(m.Values) {
		if !m.Values[at].Missing {
			filled = append(filled, m.Values[at])
			at++
			continue
		}
		next := rowEnd(m.Values, at)
		// A row at either end has no value on one side of it.
		if next-at > gap || at == 0 || next == len(m.Values) {
			return nil, ErrGap, at
		}
		parts := next - at + 1
		for i := 1; i < parts; i++ {
			v := valueBetween(m.Values[at-1], m.Values[next], i, parts)
			filled = append(filled, v)
		}
		at = next
	}
	return filled, OK, 0
}

// rowEnd answers where the row of missing values that begins at a place ends:
// the place behind its last one.
func rowEnd(values []Value, at int) int {
	for at < len(values) && values[at].Missing {
		at++
	}
	return at
}

func valueBetween(a Value, b Value, i int, parts int) Value {
	return Value{In: numberBetween(a.In, b.In, i, parts), Out: numberBetween(a.Out, b.Out, i, parts)}
}

// numberBetween answers a + floor((b - a) i / parts). Written as one fraction
// it has nothing below 0 in it, and there Go's division is the floor.
func numberBetween(a int, b int, i int, parts int) int {
	return (a*(parts-i) + b*i) / parts
}
