package may_test

import (
	"math"
	"testing"

	"nocturn/api"
	"nocturn/may"
)

// base is a task that may be.
var base = api.Task{Kind: api.TaskPicked, Period: 20, Deadline: 10, CLow: 2, CHigh: 5, Prio: 7}

func TestTask(t *testing.T) {
	for _, x := range []struct {
		why    string
		change func(x *api.Task)
		want   bool
	}{
		{"as it is", func(x *api.Task) {}, true},
		{"regular", func(x *api.Task) { x.Kind = api.TaskRegular }, true},
		{"Kind below", func(x *api.Task) { x.Kind = -1 }, false},
		{"Kind above", func(x *api.Task) { x.Kind = 2 }, false},
		{"Kind's byte", func(x *api.Task) { x.Kind = 256 }, false},
		{"Period 0", func(x *api.Task) { *x = api.Task{} }, false},
		{"all 1", func(x *api.Task) { *x = api.Task{Period: 1, Deadline: 1, CLow: 1, CHigh: 1} }, true},
		{"MaxPeriod", func(x *api.Task) { x.Period = api.MaxPeriod }, true},
		{"MaxPeriod and one more", func(x *api.Task) { x.Period = api.MaxPeriod + 1 }, false},
		{"all MaxPeriod", func(x *api.Task) { x.Period, x.Deadline, x.CLow, x.CHigh = 1024, 1024, 1024, 1024 }, true},
		{"Period below Deadline", func(x *api.Task) { x.Period = 9 }, false},
		{"Period at Deadline", func(x *api.Task) { x.Period = 10 }, true},
		{"Period below 0", func(x *api.Task) { x.Period = math.MinInt }, false},
		{"Deadline at CHigh", func(x *api.Task) { x.Deadline = 5 }, true},
		{"Deadline below CHigh", func(x *api.Task) { x.Deadline = 4 }, false},
		{"Deadline 0", func(x *api.Task) { x.Deadline = 0 }, false},
		{"Deadline above Period", func(x *api.Task) { x.Deadline = 21 }, false},
		{"CLow 1", func(x *api.Task) { x.CLow = 1 }, true},
		{"CLow 0", func(x *api.Task) { x.CLow = 0 }, false},
		{"CLow below 0", func(x *api.Task) { x.CLow = -1 }, false},
		{"CLow at CHigh", func(x *api.Task) { x.CLow = 5 }, true},
		{"CLow above CHigh", func(x *api.Task) { x.CLow = 6 }, false},
		{"CHigh at Deadline", func(x *api.Task) { x.CHigh = 10 }, true},
		{"CHigh above Deadline", func(x *api.Task) { x.CHigh = 11 }, false},
		{"CHigh 0", func(x *api.Task) { x.CLow, x.CHigh = 0, 0 }, false},
		{"greatest CHigh", func(x *api.Task) { x.CHigh = math.MaxInt }, false},
		{"Prio 0", func(x *api.Task) { x.Prio = 0 }, true},
		{"Prio below 0", func(x *api.Task) { x.Prio = -1 }, false},
		{"Prio 255", func(x *api.Task) { x.Prio = 255 }, true},
		{"Prio 256", func(x *api.Task) { x.Prio = 256 }, false},
		{"greatest Prio", func(x *api.Task) { x.Prio = math.MaxInt }, false},
	} {
		task := base
		x.change(&task)
		if got := may.Task(task); got != x.want {
			t.Errorf("P5.1: %s: Task(%+v) = %t", x.why, task, got)
		}
	}
}

// Small tasks, each of them, against the chapter's words.
func TestSmallTasks(t *testing.T) {
	for _, period := range []int{-1, 0, 1, 2, 3, 1023, 1024, 1025} {
		for deadline := -1; deadline < 5; deadline++ {
			for low := -1; low < 6; low++ {
				for high := -1; high < 6; high++ {
					x := api.Task{Period: period, Deadline: deadline, CLow: low, CHigh: high, Prio: 9}
					out := period < 1 || period > 1024 || deadline < 1 || deadline > period || low < 1 || low > high || high > deadline
					if may.Task(x) == out {
						t.Errorf("P5.1: Task(%+v) = %t", x, !out)
					}
				}
			}
		}
	}
}

func TestPrio(t *testing.T) {
	for prio := -300; prio < 600; prio++ {
		if got := may.Prio(prio); got != (prio >= 0 && prio <= 255) {
			t.Errorf("P12.1: Prio(%d) = %t", prio, got)
		}
	}
	for _, prio := range []int{math.MinInt, -1 << 32, 1 << 32, 1<<32 + 7, math.MaxInt} {
		if may.Prio(prio) {
			t.Errorf("P12.1: Prio(%d) is true", prio)
		}
	}
}

func TestClock(t *testing.T) {
	for _, now := range []int{0, 1, 1024, 1 << 32, 1099511627775, 1099511627776} {
		if !may.Clock(now) {
			t.Errorf("P12.1: Clock(%d) is false", now)
		}
	}
	for _, now := range []int{-1, math.MinInt, 1099511627777, 1 << 41, math.MaxInt} {
		if may.Clock(now) {
			t.Errorf("P12.1: Clock(%d) is true", now)
		}
	}
}

func TestDemand(t *testing.T) {
	for _, ticks := range []int{1, 2, 255, 256, 1024, 1025, 32768, 65534, 65535} {
		if !may.Demand(ticks) {
			t.Errorf("P11.1: Demand(%d) is false", ticks)
		}
	}
	for _, ticks := range []int{0, -1, -65535, math.MinInt, 65536, 65537, 1 << 17, 1 << 32, 1<<32 + 1, math.MaxInt} {
		if may.Demand(ticks) {
			t.Errorf("P11.1: Demand(%d) is true", ticks)
		}
	}
}
