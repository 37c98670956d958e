package meter

// bank holds what is left of the credit of each period, from the first one on:
// a credit that is used up stays as a 0, so that its place tells its age.
type bank struct{ credits []int }

// expire takes all away but what the last few periods have left, and answers
// how much that was.
func (b *bank) expire(periods int) int {
	expired := 0
	for i := 0; i < len(b.credits)-periods; i++ {
		expired += b.credits[i]
		b.credits[i] = 0
	}
	return expired
}

// apply takes away as much as there is but no more than most, from the oldest
// credit on, and answers how much that was.
func (b *bank) apply(most int) int {
	applied := 0
	for i := 0; i < len(b.credits); i++ {
		part := smaller(b.credits[i], most-applied)
		b.credits[i] -= part
		applied += part
	}
	return applied
}

func (b *bank) add(credit int) {
	b.credits = append(b.credits, credit)
}

func (b *bank) left() int {
	sum := 0
	for i := 0; i < len(b.credits); i++ {
		sum += b.credits[i]
	}
	return sum
}
