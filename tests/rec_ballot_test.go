package tests

import (
	"math"
	"testing"

	"loop.example/wharfhall/impl"
)

func wantNextBallot(t *testing.T, above, number, of, want int) {
	t.Helper()
	if got := impl.RecNextBallot(above, number, of); got != want {
		t.Errorf("RecNextBallot above %d of %d of %d = %d, not %d", above, number, of, got, want)
	}
}

func TestNextBallots(t *testing.T) {
	for _, c := range []struct{ above, number, of, want int }{
		{0, 1, 1, 1}, {1, 1, 1, 2}, {7, 1, 1, 8},
		{0, 1, 2, 1}, {0, 2, 2, 2}, {1, 1, 2, 3}, {1, 2, 2, 2}, {2, 2, 2, 4},
		{0, 1, 3, 1}, {0, 2, 3, 2}, {0, 3, 3, 3},
		{3, 1, 3, 4}, {3, 2, 3, 5}, {3, 3, 3, 6}, {4, 1, 3, 7}, {5, 3, 3, 6}, {6, 3, 3, 9},
		{0, 1, 5, 1}, {0, 4, 5, 4}, {0, 5, 5, 5}, {4, 5, 5, 5}, {5, 5, 5, 10}, {6, 1, 5, 11}, {9, 5, 5, 10}, {10, 5, 5, 15},
	} {
		wantNextBallot(t, c.above, c.number, c.of, c.want)
	}
}

func TestNextBallotsNearTheEnd(t *testing.T) {
	most := impl.RecMaxBallot
	for _, c := range []struct{ above, number, of, want int }{
		{most - 1, 1, 1, most}, {most, 1, 1, 0}, {most - 2, 1, 1, most - 1},
		// A million is even: the second of two has the last ballot.
		{most - 1, 2, 2, most}, {most - 1, 1, 2, 0}, {most - 2, 1, 2, most - 1}, {most - 2, 2, 2, most}, {most, 2, 2, 0}, {most, 1, 2, 0},
		// It leaves 1 when it is divided by three.
		{most - 1, 1, 3, most}, {most - 1, 2, 3, 0}, {most - 1, 3, 3, 0}, {most - 3, 1, 3, most}, {most - 3, 2, 3, most - 2}, {most - 3, 3, 3, most - 1},
		{most - 2, 2, 3, 0}, {most - 2, 3, 3, most - 1}, {most, 1, 3, 0}, {most, 2, 3, 0}, {most, 3, 3, 0},
		{most - 1, 4, 4, most}, {most - 1, 1, 4, 0}, {most - 4, 3, 4, most - 1}, {most, 4, 4, 0},
		{most - 1, 5, 5, most}, {most - 1, 4, 5, 0}, {most - 2, 4, 5, most - 1}, {most - 5, 1, 5, most - 4}, {most - 4, 1, 5, 0}, {most, 5, 5, 0},
	} {
		wantNextBallot(t, c.above, c.number, c.of, c.want)
	}
}

func TestNextBallotsOfNobody(t *testing.T) {
	for _, above := range []int{-1, -5, math.MinInt, impl.RecMaxBallot, impl.RecMaxBallot + 1, impl.RecMaxBallot + 5, math.MaxInt} {
		for of := 1; of <= impl.RecMaxRecorders; of++ {
			for number := 1; number <= of; number++ {
				wantNextBallot(t, above, number, of, 0)
			}
		}
	}
	for _, above := range []int{-1, 0, 1, 7, impl.RecMaxBallot - 1} {
		for of := 1; of <= impl.RecMaxRecorders; of++ {
			for _, number := range []int{0, -1, -of, of + 1, 2 * of, of + 5, math.MinInt, math.MaxInt} {
				if number <= of && number >= 1 {
					continue
				}
				wantNextBallot(t, above, number, of, 0)
			}
		}
		for _, of := range []int{0, -1, -3, impl.RecMaxRecorders + 1, 100, math.MinInt, math.MaxInt} {
			for _, number := range []int{0, 1, 2, 5, 6, of, of + 1, math.MaxInt} {
				wantNextBallot(t, above, number, of, 0)
			}
		}
	}
	wantNextBallot(t, 0, impl.RecMaxRecorders, impl.RecMaxRecorders, impl.RecMaxRecorders)
}

// Promise 25: it is above what was asked for, and every ballot belongs to one number.
func TestBallotsBelongToOne(t *testing.T) {
	for of := -1; of <= impl.RecMaxRecorders+2; of++ {
		owner := map[int]int{}
		for number := -1; number <= of+2; number++ {
			for above := -2; above <= 60; above++ {
				lookAtBallot(t, owner, above, number, of)
			}
			for above := impl.RecMaxBallot - 20; above <= impl.RecMaxBallot+2; above++ {
				lookAtBallot(t, owner, above, number, of)
			}
		}
		for ballot := 1; ballot <= 60; ballot++ {
			if of >= 1 && of <= impl.RecMaxRecorders && owner[ballot] == 0 {
				t.Errorf("the ballot %d belongs to nobody of %d", ballot, of)
			}
		}
		if of >= 1 && of <= impl.RecMaxRecorders && owner[impl.RecMaxBallot] == 0 {
			t.Errorf("the last ballot belongs to nobody of %d", of)
		}
	}
}

// lookAtBallot keeps who got a ballot, and asks that nobody else ever does.
func lookAtBallot(t *testing.T, owner map[int]int, above, number, of int) {
	t.Helper()
	wantNextBallot(t, above, number, of, nextBallotByHand(above, number, of))
	got := impl.RecNextBallot(above, number, of)
	if got == 0 {
		return
	}
	if got <= above || got > impl.RecMaxBallot {
		t.Errorf("RecNextBallot above %d of %d of %d = %d", above, number, of, got)
	}
	if owner[got] != 0 && owner[got] != number {
		t.Errorf("the ballot %d is one of %d and of %d, of %d", got, owner[got], number, of)
	}
	owner[got] = number
}
