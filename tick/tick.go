// Package tick: numbers that do not run over (chapter 1).
package tick

import (
	"math/bits"

	"nocturn/api"
)

// Add answers a and b together; ErrTickOver, if that is above 2^64 - 1.
func Add(a uint64, b uint64) (uint64, api.Errno) {
	sum, carry := bits.Add64(a, b, 0)
	if carry != 0 {
		return 0, api.ErrTickOver
	}
	return sum, api.OK
}

// Mul answers a times b; ErrTickOver, if that is above 2^64 - 1.
func Mul(a uint64, b uint64) (uint64, api.Errno) {
	high, low := bits.Mul64(a, b)
	if high != 0 {
		return 0, api.ErrTickOver
	}
	return low, api.OK
}

// Gcd answers the greatest number that divides both a and b; of 0 and b it is b.
func Gcd(a uint64, b uint64) uint64 {
	for b != 0 {
		a, b = b, a%b
	}
	return a
}

// Lcm answers the least number above 0 that both a and b divide, or 0, if one of them is 0;
// ErrTickOver, if it is above 2^64 - 1.
func Lcm(a uint64, b uint64) (uint64, api.Errno) {
	if a == 0 || b == 0 {
		return 0, api.OK
	}
	// Dividing first keeps what fits from running over on the way.
	return Mul(a/Gcd(a, b), b)
}

// Sum answers all of xs together (0 of none); ErrTickOver, if that is above 2^64 - 1.
func Sum(xs ...uint64) (uint64, api.Errno) {
	total := uint64(0)
	for _, x := range xs {
		next, err := Add(total, x)
		if err != api.OK {
			return 0, err
		}
		total = next
	}
	return total, api.OK
}

// Counter counts from 0 to a limit, and stays there.
type Counter struct {
	limit int
	value int
}

// New answers a counter at 0; ErrTickForm, if limit is below 0.
func New(limit int) (*Counter, api.Errno) {
	if limit < 0 {
		return nil, api.ErrTickForm
	}
	return &Counter{limit: limit}, api.OK
}

// Count makes the counter k more, at most its limit; ErrTickForm, if k is below 0.
func (c *Counter) Count(k int) api.Errno {
	if c == nil {
		return api.ErrNil
	}
	if k < 0 {
		return api.ErrTickForm
	}
	// Measuring k against the room left cannot run over; value + k could.
	c.value += min(k, c.limit-c.value)
	return api.OK
}

// Value answers how far the counter is.
func (c *Counter) Value() int {
	if c == nil {
		return 0
	}
	return c.value
}

// Full says whether the counter is at its limit.
func (c *Counter) Full() bool {
	return c != nil && c.value == c.limit
}
