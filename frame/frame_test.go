package frame_test

import (
	"fmt"
	"math"
	"slices"
	"sync"
	"testing"

	"nocturn/api"
	"nocturn/frame"
)

// good answers a configuration that may be: part 0 has two windows, 1 and 3 have one, 2 has none,
// and no window has the ticks 0, 1, 9, 10, 11 and 19.
func good() api.Config {
	return api.Config{
		Frame: 20, Quiet: 3,
		Parts: []api.Part{
			{Level: api.High, Tasks: []api.Task{regular(30, 1), regular(8, 0)}, Code: []api.Instr{{Op: api.OpHalt}}},
			{Level: api.Low},
			{Level: api.Low, Tasks: []api.Task{regular(12, 7)}},
			{Level: api.High, Tasks: []api.Task{{Kind: api.TaskPicked, Period: 9, Deadline: 7, CLow: 1, CHigh: 2, Prio: 4}}},
		},
		Windows: []api.Window{
			{From: 2, To: 4, Part: 3}, {From: 4, To: 9, Part: 0}, {From: 12, To: 13, Part: 1}, {From: 13, To: 19, Part: 0},
		},
		Ports: []api.Port{{Kind: api.PortQueuing, From: 3, To: 2, Size: 8}},
	}
}

// goodOwners are whose each tick of good's frame is.
func goodOwners() []int {
	return []int{-1, -1, 3, 3, 0, 0, 0, 0, 0, -1, -1, -1, 1, 0, 0, 0, 0, 0, 0, -1}
}

// regular answers a task of a Period and a Prio.
func regular(period int, prio int) api.Task {
	return api.Task{Period: period, Deadline: period, CLow: 1, CHigh: 1, Prio: prio}
}

// periods answers a configuration of a Frame, with one part a list of Periods.
func periods(length int, lists ...[]int) api.Config {
	c := api.Config{Frame: length, Quiet: 1}
	for i, list := range lists {
		p := api.Part{Level: i % 2}
		for prio, x := range list {
			p.Tasks = append(p.Tasks, regular(x, prio))
		}
		c.Parts = append(c.Parts, p)
	}
	return c
}

// fault makes of good a configuration that may not be.
type fault struct {
	why  string
	make func(c *api.Config)
}

// faults are some for each error that layer 5 has of a configuration.
func faults() []fault {
	return []fault{
		{"nothing at all", func(c *api.Config) { *c = api.Config{} }},
		{"Frame 0", func(c *api.Config) { c.Frame = 0 }},
		{"Frame 0, no window", func(c *api.Config) { c.Frame, c.Windows = 0, nil }},
		{"Frame below 0", func(c *api.Config) { c.Frame, c.Windows = -20, nil }},
		{"Frame above MaxFrame", func(c *api.Config) { c.Frame = api.MaxFrame + 1 }},
		{"Quiet 0", func(c *api.Config) { c.Quiet = 0 }},
		{"no part", func(c *api.Config) { c.Parts = nil }},
		{"no part, no window, no port", func(c *api.Config) { c.Parts, c.Windows, c.Ports = nil, nil, nil }},
		{"nine parts", func(c *api.Config) { c.Parts = append(c.Parts, make([]api.Part, 5)...) }},
		{"Level 2", func(c *api.Config) { c.Parts[1].Level = 2 }},
		{"Period 0", func(c *api.Config) { c.Parts[0].Tasks[1].Period = 0 }},
		{"Period above MaxPeriod", func(c *api.Config) { c.Parts[0].Tasks[1].Period = api.MaxPeriod + 1 }},
		{"two of one Prio", func(c *api.Config) { c.Parts[0].Tasks[1].Prio = 1 }},
		{"a window beyond the frame", func(c *api.Config) { c.Windows[3].To = 21 }},
		{"a window of a part that there is not", func(c *api.Config) { c.Windows[3].Part = 4 }},
		{"a window ahead of the end of the one ahead", func(c *api.Config) { c.Windows[1].From = 3 }},
		{"windows that are not in their row", func(c *api.Config) { slices.Reverse(c.Windows) }},
		{"a port's Size", func(c *api.Config) { c.Ports[0].Size = 9 }},
		{"Code", func(c *api.Config) { c.Parts[3].Code = []api.Instr{{Op: api.OpJump, Arg: 1}} }},
	}
}

// checkAt asks whose tick t is.
func checkAt(t *testing.T, c api.Config, at int, want int) {
	t.Helper()
	if got, err := frame.At(c, at); got != want || err != api.OK {
		t.Errorf("P6.1: At(%d) = %d, %d; want %d", at, got, err, want)
	}
}

// checkShare asks how many ticks a part has.
func checkShare(t *testing.T, c api.Config, part int, want int) {
	t.Helper()
	if got, err := frame.Share(c, part); got != want || err != api.OK {
		t.Errorf("P6.1: Share(%d) = %d, %d; want %d", part, got, err, want)
	}
}

// checkHyper asks after how many ticks all is as at the beginning.
func checkHyper(t *testing.T, c api.Config, want uint64) {
	t.Helper()
	if got, err := frame.Hyper(c); got != want || err != api.OK {
		t.Errorf("P6.1: Hyper(%+v) = %d, %d; want %d", c, got, err, want)
	}
}

// checkOver asks for a Hyper that runs over.
func checkOver(t *testing.T, c api.Config) {
	t.Helper()
	if got, err := frame.Hyper(c); got != 0 || err != api.ErrTickOver {
		t.Errorf("P6.1: Hyper(%+v) = %d, %d; want ErrTickOver", c, got, err)
	}
}

func TestAtEachTick(t *testing.T) {
	c := good()
	for i, want := range goodOwners() {
		for _, frames := range []int{0, 1, 2, 1000, api.MaxClock/20 - 1} {
			checkAt(t, c, frames*20+i, want)
		}
	}
}

func TestAtEdgesOfTheClock(t *testing.T) {
	// 2^40 modulo 20 is 16.
	checkAt(t, good(), api.MaxClock, 0)
	checkAt(t, good(), api.MaxClock-3, 0)
	checkAt(t, good(), api.MaxClock-4, 1)
	checkAt(t, good(), api.MaxClock-5, -1)
	checkAt(t, good(), 0, -1)
	for _, at := range []int{-1, -18, -20, math.MinInt, api.MaxClock + 1, api.MaxClock + 4, math.MaxInt} {
		if got, err := frame.At(good(), at); got != 0 || err != api.ErrFrameForm {
			t.Errorf("P6.1: At(%d) = %d, %d; want ErrFrameForm", at, got, err)
		}
	}
}

func TestAtEdgesOfTheFrame(t *testing.T) {
	c := periods(1, nil)
	checkAt(t, c, 0, -1)
	checkAt(t, c, 1, -1)
	c.Windows = []api.Window{{From: 0, To: 1}}
	for _, at := range []int{0, 1, 2, api.MaxClock} {
		checkAt(t, c, at, 0)
	}

	c = periods(api.MaxFrame, nil, nil)
	c.Windows = []api.Window{{From: 255, To: 256, Part: 1}}
	for at, want := range map[int]int{0: -1, 254: -1, 255: 1, 256: -1, 510: -1, 511: 1, api.MaxClock - 1: 1, api.MaxClock: -1} {
		checkAt(t, c, at, want)
	}
	c.Windows = []api.Window{{From: 0, To: 256, Part: 1}}
	for _, at := range []int{0, 255, 256, api.MaxClock} {
		checkAt(t, c, at, 1)
	}
}

func TestShare(t *testing.T) {
	for part, want := range []int{11, 1, 0, 2} {
		checkShare(t, good(), part, want)
	}
	for _, part := range []int{-1, 4, 5, 8, math.MinInt, math.MaxInt} {
		if got, err := frame.Share(good(), part); got != 0 || err != api.ErrFrameForm {
			t.Errorf("P6.1: Share(%d) = %d, %d; want ErrFrameForm", part, got, err)
		}
	}
}

func TestShareEdges(t *testing.T) {
	c := periods(1, nil)
	checkShare(t, c, 0, 0)
	c.Windows = []api.Window{{From: 0, To: 1}}
	checkShare(t, c, 0, 1)

	c = periods(api.MaxFrame, make([][]int, api.MaxParts)...)
	c.Windows = []api.Window{{From: 0, To: 256, Part: 7}}
	checkShare(t, c, 7, 256)
	checkShare(t, c, 0, 0)
	c.Windows = nil
	for i := range api.MaxWindows {
		c.Windows = append(c.Windows, api.Window{From: 8 * i, To: 8*i + 1 + i%8, Part: i % 8})
	}
	for part := range api.MaxParts {
		checkShare(t, c, part, 4*(1+part))
	}
}

func TestHyper(t *testing.T) {
	checkHyper(t, good(), 360)
	checkHyper(t, periods(1, nil), 1)
	checkHyper(t, periods(256, nil, nil), 256)
	checkHyper(t, periods(1, []int{1}), 1)
	checkHyper(t, periods(10, []int{10}), 10)
	checkHyper(t, periods(10, []int{5}), 10)
	checkHyper(t, periods(10, []int{30}), 30)
	checkHyper(t, periods(10, []int{7}), 70)
	checkHyper(t, periods(10, nil, nil, []int{4}), 20)
	checkHyper(t, periods(4, []int{6, 9}, []int{10}), 180)
	checkHyper(t, periods(2, []int{3, 5}, nil, []int{7, 11}), 2310)
	checkHyper(t, periods(256, []int{1024}, []int{1023}), 1024*1023)
}

func TestHyperOfPeriodsThatShareDivisors(t *testing.T) {
	all := slices.Repeat([][]int{slices.Repeat([]int{1024}, api.MaxTasks)}, api.MaxParts)
	checkHyper(t, periods(256, all...), 1024)
	all[7][5] = 768
	checkHyper(t, periods(243, all...), 1024*243)
}

// primes answers six Periods whose product goes into 2^64 - 1 seventeen times, and not eighteen.
func primes() []int {
	return []int{1021, 1019, 1013, 1009, 997, 991}
}

func TestHyperAtTheEdge(t *testing.T) {
	product := uint64(1021) * 1019 * 1013 * 1009 * 997 * 991
	checkHyper(t, periods(17, primes()), 17*product)
	checkHyper(t, periods(1, primes(), []int{17}), 17*product)
	checkHyper(t, periods(1, primes(), []int{17, 1021, 991}, primes()), 17*product)
	checkOver(t, periods(18, primes()))
	checkOver(t, periods(1, primes(), []int{18}))
	checkOver(t, periods(17, primes(), nil, []int{2}))
	checkOver(t, periods(251, primes()))
	// What ran over stays over, whatever comes behind it.
	checkOver(t, periods(18, primes(), []int{1}, primes()))
	// Periods that are no primes, but share no divisor.
	checkOver(t, periods(256, []int{729, 625, 343, 121, 169, 289}, []int{361, 529, 841, 961}))
}

func TestConfigsThatMayNotBe(t *testing.T) {
	for _, x := range faults() {
		c := good()
		x.make(&c)
		for _, n := range []int{0, 3, -1, math.MaxInt} {
			if got, err := frame.At(c, n); got != 0 || err != api.ErrFrameForm {
				t.Errorf("P6.1: %s: At(%d) = %d, %d; want ErrFrameForm", x.why, n, got, err)
			}
			if got, err := frame.Share(c, n); got != 0 || err != api.ErrFrameForm {
				t.Errorf("P6.1: %s: Share(%d) = %d, %d; want ErrFrameForm", x.why, n, got, err)
			}
		}
		if got, err := frame.Hyper(c); got != 0 || err != api.ErrFrameForm {
			t.Errorf("P6.1: %s: Hyper = %d, %d; want ErrFrameForm", x.why, got, err)
		}
	}
}

func TestFirstError(t *testing.T) {
	// It may not be, for the last window of its row, and its Hyper runs over as well.
	c := periods(251, primes(), primes())
	checkOver(t, c)
	c.Windows = []api.Window{{From: 0, To: 1}, {From: 250, To: 252}}
	if got, err := frame.Hyper(c); got != 0 || err != api.ErrFrameForm {
		t.Errorf("R6: Hyper = %d, %d; want ErrFrameForm", got, err)
	}
}

// askAll makes each call once, with the answers in one text.
func askAll(c api.Config) string {
	at, e1 := frame.At(c, 1_000_004)
	share, e2 := frame.Share(c, 0)
	hyper, e3 := frame.Hyper(c)
	return fmt.Sprint(at, int(e1), share, int(e2), hyper, int(e3))
}

func TestNothingIsChanged(t *testing.T) {
	roomy := func() api.Config {
		c := good()
		c.Parts = append(c.Parts, api.Part{Level: 9})[:4]
		c.Windows = append(c.Windows, api.Window{From: 9, To: 8, Part: 7})[:4]
		c.Ports = append(c.Ports, api.Port{Kind: 5})[:1]
		c.Parts[0].Tasks = append(c.Parts[0].Tasks, api.Task{Kind: 6})[:2]
		c.Parts[0].Code = append(c.Parts[0].Code, api.Instr{Op: 99})[:1]
		return c
	}
	told := func(c api.Config) string {
		p := c.Parts[0]
		return fmt.Sprint(c, c.Parts[:5], c.Windows[:5], c.Ports[:2], p.Tasks[:3], p.Code[:2])
	}
	c := roomy()
	first := askAll(c)
	if want := "0 0 11 0 360 0"; first != want {
		t.Errorf("P6.1: %s; want %s", first, want)
	}
	if told(c) != told(roomy()) {
		t.Errorf("R4: %s; was %s", told(c), told(roomy()))
	}
	c.Windows[1].Part = 3
	if got := askAll(c); got != "3 0 6 0 360 0" {
		t.Errorf("R4: kept: %s", got)
	}
}

func TestFromSeveralGoroutines(t *testing.T) {
	c := good()
	var all sync.WaitGroup
	for range 8 {
		all.Go(func() {
			for range 50 {
				if got := askAll(c); got != "0 0 11 0 360 0" {
					t.Errorf("R5: %s", got)
					return
				}
			}
		})
	}
	all.Wait()
}
