package tick_test

import (
	"math"
	"slices"
	"sync"
	"testing"

	"nocturn/api"
	"nocturn/tick"
)

const most = math.MaxUint64

// pair is one call of a function of two numbers, and what it must answer.
type pair struct {
	a, b uint64
	want uint64
	err  api.Errno
}

// checkPairs holds a function against its table, with the arguments in both orders.
func checkPairs(t *testing.T, name string, f func(uint64, uint64) (uint64, api.Errno), table []pair) {
	t.Helper()
	for _, p := range table {
		for _, args := range [][2]uint64{{p.a, p.b}, {p.b, p.a}} {
			got, err := f(args[0], args[1])
			if got != p.want || err != p.err {
				t.Errorf("P1.1: %s(%d, %d) = %d, %d; want %d, %d", name, args[0], args[1], got, err, p.want, p.err)
			}
		}
	}
}

func TestAdd(t *testing.T) {
	checkPairs(t, "Add", tick.Add, []pair{
		{0, 0, 0, api.OK},
		{2, 3, 5, api.OK},
		{0, most, most, api.OK},
		{1, most - 1, most, api.OK},
		{1 << 63, 1<<63 - 1, most, api.OK},
		{1, most, 0, api.ErrTickOver},
		{2, most - 1, 0, api.ErrTickOver},
		{1 << 63, 1 << 63, 0, api.ErrTickOver},
		{most, most, 0, api.ErrTickOver},
	})
}

func TestMul(t *testing.T) {
	checkPairs(t, "Mul", tick.Mul, []pair{
		{0, 0, 0, api.OK},
		{0, most, 0, api.OK},
		{1, most, most, api.OK},
		{6, 7, 42, api.OK},
		{3, most / 3, most, api.OK},
		{1<<32 - 1, 1<<32 + 1, most, api.OK},
		{2, 1 << 62, 1 << 63, api.OK},
		{2, 1 << 63, 0, api.ErrTickOver},
		{1 << 32, 1 << 32, 0, api.ErrTickOver},
		{3, most/3 + 1, 0, api.ErrTickOver},
		{2, most, 0, api.ErrTickOver},
		{most, most, 0, api.ErrTickOver},
	})
}

func TestGcd(t *testing.T) {
	gcd := func(a, b uint64) (uint64, api.Errno) { return tick.Gcd(a, b), api.OK }
	checkPairs(t, "Gcd", gcd, []pair{
		{0, 0, 0, api.OK},
		{0, 7, 7, api.OK},
		{0, most, most, api.OK},
		{1, most, 1, api.OK},
		{12, 18, 6, api.OK},
		{17, 5, 1, api.OK},
		{8, 8, 8, api.OK},
		{most, most, most, api.OK},
		{most, most - 1, 1, api.OK},
		{most, 15, 15, api.OK},
		{12200160415121876738, 7540113804746346429, 1, api.OK},
	})
}

func TestGcdAgainstTrial(t *testing.T) {
	for a := range uint64(40) {
		for b := range uint64(40) {
			want := max(a, b)
			for want > 0 && (a%want != 0 || b%want != 0) {
				want--
			}
			if got := tick.Gcd(a, b); got != want {
				t.Errorf("P1.1: Gcd(%d, %d) = %d; want %d", a, b, got, want)
			}
		}
	}
}

func TestLcm(t *testing.T) {
	checkPairs(t, "Lcm", tick.Lcm, []pair{
		{0, 0, 0, api.OK},
		{0, 7, 0, api.OK},
		{0, most, 0, api.OK},
		{1, 1, 1, api.OK},
		{4, 6, 12, api.OK},
		{7, 5, 35, api.OK},
		{1, most, most, api.OK},
		{most, most, most, api.OK},
		{most / 3, most / 5, most, api.OK},
		{1<<32 - 1, 1<<32 + 1, most, api.OK},
		{1 << 63, 1 << 62, 1 << 63, api.OK},
		{1 << 63, 3, 0, api.ErrTickOver},
		{1 << 32, 1<<32 + 1, 0, api.ErrTickOver},
		{most, most - 1, 0, api.ErrTickOver},
		{most, 2, 0, api.ErrTickOver},
	})
}

func TestLcmAgainstTrial(t *testing.T) {
	for a := uint64(1); a < 30; a++ {
		for b := uint64(1); b < 30; b++ {
			want := a
			for want%b != 0 {
				want += a
			}
			if got, err := tick.Lcm(a, b); got != want || err != api.OK {
				t.Errorf("P1.1: Lcm(%d, %d) = %d, %d; want %d", a, b, got, err, want)
			}
		}
	}
}

func TestSum(t *testing.T) {
	table := []struct {
		xs   []uint64
		want uint64
		err  api.Errno
	}{
		{nil, 0, api.OK},
		{[]uint64{}, 0, api.OK},
		{[]uint64{0}, 0, api.OK},
		{[]uint64{most}, most, api.OK},
		{[]uint64{1, 2, 3, 4}, 10, api.OK},
		{[]uint64{most - 3, 1, 0, 2}, most, api.OK},
		{[]uint64{0, most, 0}, most, api.OK},
		{[]uint64{most - 3, 1, 0, 3}, 0, api.ErrTickOver},
		{[]uint64{most, 1, 5}, 0, api.ErrTickOver},
		{[]uint64{5, most, most}, 0, api.ErrTickOver},
		{[]uint64{1 << 63, 1 << 63}, 0, api.ErrTickOver},
	}
	for _, row := range table {
		if got, err := tick.Sum(row.xs...); got != row.want || err != row.err {
			t.Errorf("P1.1: Sum(%d) = %d, %d; want %d, %d", row.xs, got, err, row.want, row.err)
		}
	}
	if got, err := tick.Sum(); got != 0 || err != api.OK {
		t.Errorf("P1.1: Sum() = %d, %d", got, err)
	}
}

func TestSumLeavesItsArguments(t *testing.T) {
	room := []uint64{3, 1, 2, 9, 9}
	kept := slices.Clone(room)
	if got, err := tick.Sum(room[:3]...); got != 6 || err != api.OK {
		t.Errorf("P1.1: Sum = %d, %d", got, err)
	}
	if !slices.Equal(room, kept) {
		t.Errorf("R4: %d, was %d", room, kept)
	}
}

func TestFunctionsAtOneTime(t *testing.T) {
	var wait sync.WaitGroup
	xs := []uint64{1, 2, 3}
	for i := range uint64(8) {
		wait.Go(func() {
			for range 100 {
				sum, _ := tick.Sum(xs...)
				lcm, _ := tick.Lcm(i+1, 6)
				if sum != 6 || lcm != (i+1)*6/tick.Gcd(i+1, 6) {
					t.Errorf("R5: %d, %d", sum, lcm)
				}
			}
		})
	}
	wait.Wait()
}

// newCounter makes a counter that must be.
func newCounter(t *testing.T, limit int) *tick.Counter {
	t.Helper()
	c, err := tick.New(limit)
	if c == nil || err != api.OK {
		t.Fatalf("P1.2: New(%d) = %v, %d", limit, c, err)
	}
	return c
}

// checkCounter holds a counter against where it must be.
func checkCounter(t *testing.T, c *tick.Counter, value int, full bool) {
	t.Helper()
	if c.Value() != value || c.Full() != full {
		t.Errorf("P1.2: at %d, full %t; want %d, %t", c.Value(), c.Full(), value, full)
	}
}

// checkCount counts by k, which must answer want.
func checkCount(t *testing.T, c *tick.Counter, k int, want api.Errno) {
	t.Helper()
	if err := c.Count(k); err != want {
		t.Errorf("P1.2: Count(%d) = %d; want %d", k, err, want)
	}
}

func TestNewRefusesLimitsBelowZero(t *testing.T) {
	for _, limit := range []int{-1, -7, math.MinInt} {
		if c, err := tick.New(limit); c != nil || err != api.ErrTickForm {
			t.Errorf("P1.2: New(%d) = %v, %d", limit, c, err)
		}
	}
}

func TestCounterCountsToItsLimit(t *testing.T) {
	c := newCounter(t, 10)
	checkCounter(t, c, 0, false)
	checkCount(t, c, 0, api.OK)
	checkCounter(t, c, 0, false)
	checkCount(t, c, 4, api.OK)
	checkCounter(t, c, 4, false)
	checkCount(t, c, 5, api.OK)
	checkCounter(t, c, 9, false)
	checkCount(t, c, 1, api.OK)
	checkCounter(t, c, 10, true)
	checkCount(t, c, 1, api.OK)
	checkCounter(t, c, 10, true)
}

func TestCounterStaysAtItsLimit(t *testing.T) {
	c := newCounter(t, 10)
	checkCount(t, c, 7, api.OK)
	checkCount(t, c, 5, api.OK)
	checkCounter(t, c, 10, true)
	checkCount(t, c, math.MaxInt, api.OK)
	checkCounter(t, c, 10, true)
}

func TestCounterOfLimitZero(t *testing.T) {
	c := newCounter(t, 0)
	checkCounter(t, c, 0, true)
	checkCount(t, c, 0, api.OK)
	checkCount(t, c, 3, api.OK)
	checkCounter(t, c, 0, true)
}

func TestCounterOfTheGreatestLimit(t *testing.T) {
	c := newCounter(t, math.MaxInt)
	checkCount(t, c, math.MaxInt-1, api.OK)
	checkCounter(t, c, math.MaxInt-1, false)
	checkCount(t, c, math.MaxInt, api.OK)
	checkCounter(t, c, math.MaxInt, true)
}

func TestCountRefusesBelowZero(t *testing.T) {
	c := newCounter(t, 10)
	checkCount(t, c, 6, api.OK)
	for _, k := range []int{-1, -6, -100, math.MinInt} {
		checkCount(t, c, k, api.ErrTickForm)
		checkCounter(t, c, 6, false)
	}
	checkCount(t, c, 4, api.OK)
	checkCount(t, c, -1, api.ErrTickForm)
	checkCounter(t, c, 10, true)
}

func TestCountersAreApart(t *testing.T) {
	a, b := newCounter(t, 5), newCounter(t, 5)
	checkCount(t, a, 5, api.OK)
	checkCounter(t, a, 5, true)
	checkCounter(t, b, 0, false)
}

func TestNilCounter(t *testing.T) {
	var c *tick.Counter
	for _, k := range []int{0, 1, -1} {
		if err := c.Count(k); err != api.ErrNil {
			t.Errorf("R3: Count(%d) = %d", k, err)
		}
	}
	if c.Value() != 0 || c.Full() {
		t.Errorf("R3: %d, %t", c.Value(), c.Full())
	}
}
