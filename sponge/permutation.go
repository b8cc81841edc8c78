package sponge

import "math/bits"

const (
	width     = 5 // lanes of a row, and of a column
	laneCount = width * width
	laneBytes = 8
	rounds    = 24
)

// state is 25 lanes: the lane at (x, y) is number x + 5y.
type state [laneCount]uint64

// roundBits are XORed with lane (0, 0), round by round: the row of bits of P3's step 4, laid out.
var roundBits = [rounds]uint64{
	0x0000000000000001, 0x0000000000008082, 0x800000000000808a,
	0x8000000080008000, 0x000000000000808b, 0x0000000080000001,
	0x8000000080008081, 0x8000000000008009, 0x000000000000008a,
	0x0000000000000088, 0x0000000080008009, 0x000000008000000a,
	0x000000008000808b, 0x800000000000008b, 0x8000000000008089,
	0x8000000000008003, 0x8000000000008002, 0x8000000000000080,
	0x000000000000800a, 0x800000008000000a, 0x8000000080008081,
	0x8000000000008080, 0x0000000080000001, 0x8000000080008008,
}

// turns and targets are the way of P3's step 2, from lane (1, 0) on: how far a lane is turned left, and which lane it becomes.
var turns = [laneCount - 1]int{
	1, 3, 6, 10, 15, 21, 28, 36, 45, 55, 2, 14,
	27, 41, 56, 8, 25, 43, 62, 18, 39, 61, 20, 44,
}

var targets = [laneCount - 1]int{
	10, 7, 11, 17, 18, 3, 5, 16, 8, 21, 24, 4,
	15, 23, 19, 13, 12, 2, 20, 14, 22, 9, 6, 1,
}

func (a *state) permute() {
	for round := range rounds {
		a.mixColumns()
		a.turnLanes()
		a.mixRows()
		a[0] ^= roundBits[round]
	}
}

// mixColumns is step 1.
func (a *state) mixColumns() {
	var sums [width]uint64
	for x := range width {
		sums[x] = a[x] ^ a[x+5] ^ a[x+10] ^ a[x+15] ^ a[x+20]
	}
	for x := range width {
		mix := sums[(x+4)%width] ^ bits.RotateLeft64(sums[(x+1)%width], 1)
		for y := 0; y < laneCount; y += width {
			a[x+y] ^= mix
		}
	}
}

// turnLanes is step 2. The way goes through every lane but (0, 0) once and ends where it began, so one lane in hand is enough.
func (a *state) turnLanes() {
	hand := a[1]
	for t, to := range targets {
		hand, a[to] = a[to], bits.RotateLeft64(hand, turns[t])
	}
}

// mixRows is step 3. A row hangs on itself alone, as it was: so each is copied ahead of being written.
func (a *state) mixRows() {
	var row [width]uint64
	for first := 0; first < laneCount; first += width {
		copy(row[:], a[first:first+width])
		a[first] ^= ^row[1] & row[2]
		a[first+1] ^= ^row[2] & row[3]
		a[first+2] ^= ^row[3] & row[4]
		a[first+3] ^= ^row[4] & row[0]
		a[first+4] ^= ^row[0] & row[1]
	}
}
