package ring_test

import (
	"math"
	"slices"
	"testing"

	"nocturn/api"
	"nocturn/ring"
)

// newRing makes a row that must be, and must be empty.
func newRing(t *testing.T, size int) *ring.Ring {
	t.Helper()
	r, err := ring.New(size)
	if r == nil || err != api.OK {
		t.Fatalf("P2.1: New(%d) = %v, %d", size, r, err)
	}
	checkAll(t, r)
	return r
}

// fill offers numbers to a row that must have room for them.
func fill(t *testing.T, r *ring.Ring, xs ...int) {
	t.Helper()
	for _, x := range xs {
		checkOffer(t, r, x, true)
	}
}

// checkAll holds a row against the numbers that it must hold.
func checkAll(t *testing.T, r *ring.Ring, want ...int) {
	t.Helper()
	if got := r.All(); !slices.Equal(got, want) {
		t.Errorf("P2.1: All() = %d; want %d", got, want)
	}
}

// checkPush pushes x, which must drop and tell what is wanted.
func checkPush(t *testing.T, r *ring.Ring, x int, want int, was bool) {
	t.Helper()
	if got, is := r.Push(x); got != want || is != was {
		t.Errorf("P2.1: Push(%d) = %d, %t; want %d, %t", x, got, is, want, was)
	}
}

// checkOffer offers x, which must be taken or not.
func checkOffer(t *testing.T, r *ring.Ring, x int, want bool) {
	t.Helper()
	if got := r.Offer(x); got != want {
		t.Errorf("P2.1: Offer(%d) = %t; want %t", x, got, want)
	}
}

// checkPop takes the first one, which must be want, or not be.
func checkPop(t *testing.T, r *ring.Ring, want int, was bool) {
	t.Helper()
	if got, is := r.Pop(); got != want || is != was {
		t.Errorf("P2.1: Pop() = %d, %t; want %d, %t", got, is, want, was)
	}
}

// count answers the numbers from from up to, not with, to.
func count(from, to int) []int {
	var xs []int
	for x := from; x < to; x++ {
		xs = append(xs, x)
	}
	return xs
}

func TestNewRefusesSizes(t *testing.T) {
	for _, size := range []int{0, -1, -64, math.MinInt, api.MaxRing + 1, 2 * api.MaxRing, math.MaxInt} {
		if r, err := ring.New(size); r != nil || err != api.ErrRingForm {
			t.Errorf("P2.1: New(%d) = %v, %d", size, r, err)
		}
	}
}

func TestEachSizeHoldsSoMany(t *testing.T) {
	for size := 1; size <= api.MaxRing; size++ {
		r := newRing(t, size)
		fill(t, r, count(0, size)...)
		checkOffer(t, r, size, false)
		checkAll(t, r, count(0, size)...)
		checkPush(t, r, size, 0, true)
		checkAll(t, r, count(1, size+1)...)
	}
}

func TestPushIntoARowWithRoom(t *testing.T) {
	r := newRing(t, 3)
	checkPush(t, r, 7, 0, false)
	checkPush(t, r, -8, 0, false)
	checkPush(t, r, 7, 0, false)
	checkAll(t, r, 7, -8, 7)
}

func TestPushIntoAFullRow(t *testing.T) {
	r := newRing(t, 3)
	fill(t, r, 1, 2, 3)
	checkPush(t, r, 4, 1, true)
	checkAll(t, r, 2, 3, 4)
	checkPush(t, r, 5, 2, true)
	checkAll(t, r, 3, 4, 5)
	checkPop(t, r, 3, true)
	checkPush(t, r, 6, 0, false)
	checkAll(t, r, 4, 5, 6)
}

func TestPushTellsADroppedZero(t *testing.T) {
	r := newRing(t, 1)
	fill(t, r, 0)
	checkPush(t, r, 0, 0, true)
	checkPush(t, r, 5, 0, true)
	checkAll(t, r, 5)
}

func TestOfferToAFullRow(t *testing.T) {
	r := newRing(t, 2)
	fill(t, r, 1, 2)
	for range 3 {
		checkOffer(t, r, 9, false)
		checkAll(t, r, 1, 2)
	}
	checkPop(t, r, 1, true)
	checkOffer(t, r, 3, true)
	checkAll(t, r, 2, 3)
	checkOffer(t, r, 4, false)
}

func TestPopTakesTheFirst(t *testing.T) {
	r := newRing(t, 4)
	fill(t, r, 3, 0, 3)
	checkPop(t, r, 3, true)
	checkAll(t, r, 0, 3)
	checkPop(t, r, 0, true)
	checkPop(t, r, 3, true)
	checkAll(t, r)
}

func TestEmptyRow(t *testing.T) {
	r := newRing(t, 3)
	for range 3 {
		checkPop(t, r, 0, false)
		checkAll(t, r)
	}
	fill(t, r, 5)
	checkPop(t, r, 5, true)
	for range 3 {
		checkPop(t, r, 0, false)
		checkAll(t, r)
	}
	fill(t, r, 1, 2, 3)
	checkOffer(t, r, 4, false)
	checkAll(t, r, 1, 2, 3)
}

func TestRowOfOne(t *testing.T) {
	r := newRing(t, 1)
	for i := range 200 {
		checkPush(t, r, 10+i, 0, false)
		checkOffer(t, r, -1, false)
		checkPush(t, r, 20+i, 10+i, true)
		checkAll(t, r, 20+i)
		checkPop(t, r, 20+i, true)
		checkPop(t, r, 0, false)
		checkAll(t, r)
	}
}

func TestRowOfTheGreatestSize(t *testing.T) {
	r := newRing(t, api.MaxRing)
	fill(t, r, count(0, api.MaxRing)...)
	checkOffer(t, r, -1, false)
	for i := range 5 * api.MaxRing {
		checkPush(t, r, api.MaxRing+i, i, true)
		checkAll(t, r, count(i+1, api.MaxRing+i+1)...)
	}
}

func TestNumbersOfAnySize(t *testing.T) {
	r := newRing(t, 2)
	checkPush(t, r, math.MaxInt, 0, false)
	checkOffer(t, r, math.MinInt, true)
	checkAll(t, r, math.MaxInt, math.MinInt)
	checkPush(t, r, -1, math.MaxInt, true)
	checkPop(t, r, math.MinInt, true)
	checkPop(t, r, -1, true)
}

func TestEmptiedAndFilledManyTimesRound(t *testing.T) {
	for size := 1; size <= api.MaxRing; size++ {
		r := newRing(t, size)
		for round := range 10 {
			from := round * size
			fill(t, r, count(from, from+size)...)
			checkOffer(t, r, -1, false)
			checkAll(t, r, count(from, from+size)...)
			for _, x := range count(from, from+size) {
				checkPop(t, r, x, true)
			}
			checkPop(t, r, 0, false)
			checkAll(t, r)
		}
	}
}

// The row in a plain list is held against each size, at each filling, through every place of the array.
func TestAgainstAPlainList(t *testing.T) {
	for size := 1; size <= api.MaxRing; size++ {
		r := newRing(t, size)
		var row []int
		for i := range 6 * api.MaxRing {
			switch (i*i + i/7) % 5 {
			case 0, 1:
				want, full := 0, len(row) == size
				if full {
					want, row = row[0], row[1:]
				}
				row = append(row, i)
				checkPush(t, r, i, want, full)
			case 2, 3:
				room := len(row) < size
				if room {
					row = append(row, i)
				}
				checkOffer(t, r, i, room)
			default:
				want, is := 0, len(row) > 0
				if is {
					want, row = row[0], row[1:]
				}
				checkPop(t, r, want, is)
			}
			checkAll(t, r, row...)
		}
	}
}

func TestAllSharesNothing(t *testing.T) {
	r := newRing(t, 3)
	fill(t, r, 0, 1, 2)
	checkPush(t, r, 3, 0, true)
	a, b := r.All(), r.All()
	for i := range a {
		a[i] = 99
	}
	if !slices.Equal(b, []int{1, 2, 3}) {
		t.Errorf("R4: another answer is %d", b)
	}
	checkAll(t, r, 1, 2, 3)
	_ = append(a[:0], 77, 77, 77)
	checkAll(t, r, 1, 2, 3)
	checkPush(t, r, 4, 1, true)
	checkPop(t, r, 2, true)
	if !slices.Equal(b, []int{1, 2, 3}) {
		t.Errorf("R4: the row turned an answer to %d", b)
	}
}

// What an answer has room for beyond its end is not the row's either.
func TestAllSharesNoSpareRoom(t *testing.T) {
	r := newRing(t, 4)
	fill(t, r, 1, 2)
	a := r.All()
	_ = append(a, 99, 99)
	fill(t, r, 3, 4)
	_ = append(a, 99, 99)
	checkAll(t, r, 1, 2, 3, 4)
}

func TestAllChangesNothing(t *testing.T) {
	r := newRing(t, 2)
	fill(t, r, 1, 2)
	for range 3 {
		checkAll(t, r, 1, 2)
	}
	checkPop(t, r, 1, true)
}

func TestRowsAreApart(t *testing.T) {
	a, b := newRing(t, 2), newRing(t, 2)
	fill(t, a, 1, 2)
	checkAll(t, b)
	fill(t, b, 3)
	checkAll(t, a, 1, 2)
}

func TestNilRing(t *testing.T) {
	var r *ring.Ring
	if x, was := r.Push(1); x != 0 || was {
		t.Errorf("R3: Push = %d, %t", x, was)
	}
	if r.Offer(1) {
		t.Error("R3: Offer = true")
	}
	if x, was := r.Pop(); x != 0 || was {
		t.Errorf("R3: Pop = %d, %t", x, was)
	}
	if all := r.All(); len(all) != 0 {
		t.Errorf("R3: All = %d", all)
	}
}

// A Ring that New did not make has no room: its calls answer all the same (R1).
func TestRingThatNewDidNotMake(t *testing.T) {
	var r ring.Ring
	checkPush(t, &r, 1, 0, false)
	checkOffer(t, &r, 1, false)
	checkPop(t, &r, 0, false)
	checkAll(t, &r)
}
