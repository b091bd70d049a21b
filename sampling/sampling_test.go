package sampling_test

import (
	"math"
	"sync"
	"testing"

	"nocturn/sampling"
)

// edges holds numbers just within, on and just behind the edges of the kinds of numbers.
var edges = []int{
	0, 1, -1, 2, -2, 63, 64, 65, 127, 128, -128, -129, 255, 256, -255, -256, 65535, 65536, -65536,
	math.MaxInt32, math.MaxInt32 + 1, math.MinInt32, math.MinInt32 - 1, math.MaxUint32, math.MaxUint32 + 1,
	-math.MaxUint32, -math.MaxUint32 - 1, 1 << 52, 1<<53 + 1, -1<<53 - 1, math.MaxInt - 1, math.MaxInt,
	math.MinInt + 1, math.MinInt,
}

// newSample makes a sample, which must have no value.
func newSample(t *testing.T) *sampling.Sample {
	t.Helper()
	s := sampling.New()
	if s == nil {
		t.Fatal("P15.1: New() = nil")
	}
	checkNone(t, s)
	return s
}

// check reads a sample, the value of which must be want.
func check(t *testing.T, s *sampling.Sample, want int) {
	t.Helper()
	if x, is := s.Read(); x != want || !is {
		t.Errorf("P15.1: Read() = %d, %t; want %d, true", x, is, want)
	}
}

// checkNone reads a sample, which must have no value: nothing stands beside the false (R2).
func checkNone(t *testing.T, s *sampling.Sample) {
	t.Helper()
	if x, is := s.Read(); x != 0 || is {
		t.Errorf("P15.1: Read() = %d, %t; want 0, false", x, is)
	}
}

// chance makes numbers of no plain order, the same ones each time.
type chance uint64

// below answers the next number, from 0 below n.
func (c *chance) below(n int) int {
	*c = *c*6364136223846793005 + 1442695040888963407
	return int(uint64(*c>>33) % uint64(n))
}

func TestNoValueAtFirst(t *testing.T) {
	s := newSample(t)
	for range 5 {
		checkNone(t, s)
	}
}

// Each number is a value as all others, the first one of a sample too, 0 with them.
func TestEachNumberIsAValue(t *testing.T) {
	for _, x := range edges {
		s := newSample(t)
		s.Write(x)
		check(t, s, x)
	}
}

func TestReadTakesNothingAway(t *testing.T) {
	for _, x := range edges {
		s := newSample(t)
		s.Write(x)
		for range 100 {
			check(t, s, x)
		}
	}
}

// Of two numbers, each behind each and behind itself, the last one is the value.
func TestTheLastOneIsTheValue(t *testing.T) {
	for _, x := range edges {
		for _, y := range edges {
			s := newSample(t)
			s.Write(x)
			s.Write(y)
			check(t, s, y)
			s.Write(x)
			check(t, s, x)
			check(t, s, x)
			s.Write(y)
			check(t, s, y)
		}
	}
}

func TestManyWritesWithoutReads(t *testing.T) {
	for many := 1; many <= 300; many++ {
		s := newSample(t)
		for x := range many {
			s.Write(x)
		}
		check(t, s, many-1)
		s.Write(0)
		check(t, s, 0)
	}
}

// A sample told by what was written to it from its beginning on, the Reads between at no plain places.
func TestWritesWithReadsBetween(t *testing.T) {
	var c chance
	for range 200 {
		s := newSample(t)
		last := 0
		for i := range 60 {
			if i == 0 || c.below(3) == 0 {
				last = edges[c.below(len(edges))]
				s.Write(last)
			}
			for range c.below(3) {
				check(t, s, last)
			}
		}
		check(t, s, last)
	}
}

func TestSamplesAreApart(t *testing.T) {
	a, b := newSample(t), newSample(t)
	if a == b {
		t.Fatal("R5: two calls of New answer one sample")
	}
	a.Write(5)
	checkNone(t, b)
	b.Write(-7)
	check(t, a, 5)
	check(t, b, -7)
	b.Write(0)
	a.Write(6)
	check(t, b, 0)
	check(t, a, 6)
	checkNone(t, newSample(t))
}

// Many samples, written and read in no plain order: of each its own last value, or none.
func TestManySamplesInNoPlainOrder(t *testing.T) {
	var c chance
	var samples []*sampling.Sample
	values := make(map[*sampling.Sample]int)
	for i := range 5000 {
		if i%250 == 0 {
			samples = append(samples, newSample(t))
		}
		s := samples[c.below(len(samples))]
		if c.below(2) == 0 {
			values[s] = i - 2500
			s.Write(i - 2500)
		}
		if want, is := values[s]; is {
			check(t, s, want)
		} else {
			checkNone(t, s)
		}
	}
	for _, s := range samples {
		if want, is := values[s]; is {
			check(t, s, want)
		}
	}
}

// A sample is told by its own calls alone, also where others are made, written and read at the same time.
func TestSamplesBesideEachOther(t *testing.T) {
	var all sync.WaitGroup
	for n := range 8 {
		all.Go(func() {
			s := sampling.New()
			checkNone(t, s)
			for i := range 200 {
				s.Write(n*1000 + i)
				check(t, s, n*1000+i)
			}
		})
	}
	all.Wait()
}

func TestNilSample(t *testing.T) {
	var s *sampling.Sample
	for _, x := range edges {
		s.Write(x)
		if got, is := s.Read(); got != 0 || is {
			t.Errorf("R3: Read() of a nil sample = %d, %t", got, is)
		}
	}
}

// A Sample that New did not make has no value either, and is written and read as others (R1).
func TestSampleThatNewDidNotMake(t *testing.T) {
	var s sampling.Sample
	checkNone(t, &s)
	s.Write(0)
	check(t, &s, 0)
	s.Write(math.MinInt)
	check(t, &s, math.MinInt)
}

// port embeds a sample, as a port does (chapter 17): the sample's methods are the port's.
type port struct {
	*sampling.Sample
	from int
}

func TestEmbedded(t *testing.T) {
	a, b := port{newSample(t), 1}, port{newSample(t), 2}
	a.Write(9)
	if x, is := a.Read(); x != 9 || !is {
		t.Errorf("P15.1: Read() of an embedded sample = %d, %t; want 9, true", x, is)
	}
	check(t, a.Sample, 9)
	checkNone(t, b.Sample)
	checkNone(t, port{from: 3}.Sample)
}
