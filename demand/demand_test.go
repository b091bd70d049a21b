package demand_test

import (
	"fmt"
	"math"
	"slices"
	"sync"
	"testing"

	"nocturn/api"
	"nocturn/demand"
)

// task answers a task that may be, of a Period, a CHigh and a Prio.
func task(period int, most int, prio int) api.Task {
	return api.Task{Period: period, Deadline: period, CLow: 1, CHigh: most, Prio: prio}
}

// good answers tasks that may be, in a row that is not that of their Prios: 9, 2, 200, 5.
func good() []api.Task {
	return []api.Task{
		{Kind: api.TaskPicked, Period: 20, Deadline: 10, CLow: 2, CHigh: 5, Prio: 9},
		{Kind: api.TaskRegular, Period: 7, Deadline: 7, CLow: 1, CHigh: 3, Prio: 2},
		{Kind: api.TaskRegular, Period: 100, Deadline: 80, CLow: 11, CHigh: 11, Prio: 200},
		{Kind: api.TaskPicked, Period: 30, Deadline: 4, CLow: 1, CHigh: 4, Prio: 5},
	}
}

// check asks for a bound.
func check(t *testing.T, ts []api.Task, i int, length int, want int) {
	t.Helper()
	if got, err := demand.Bound(ts, i, length); got != want || err != api.OK {
		t.Errorf("P8.1: Bound(%v, %d, %d) = %d, %d; want %d", ts, i, length, got, err, want)
	}
}

// checkNot asks for a bound that there is not: nothing stands beside the error (R2).
func checkNot(t *testing.T, why string, ts []api.Task, i int, length int) {
	t.Helper()
	if got, err := demand.Bound(ts, i, length); got != 0 || err != api.ErrDemandForm {
		t.Errorf("P8.1: %s: Bound(%v, %d, %d) = %d, %d; want ErrDemandForm", why, ts, i, length, got, err)
	}
}

// counted answers the bound by going along the ticks: a task that goes ahead has a job at each Period's begin.
func counted(ts []api.Task, i int, length int) int {
	n := ts[i].CHigh
	for _, x := range ts {
		if x.Prio >= ts[i].Prio {
			continue
		}
		for at := range length {
			if at%x.Period == 0 {
				n += x.CHigh
			}
		}
	}
	return n
}

// checkCounted holds each of the tasks against what is counted, for each of the lengths.
func checkCounted(t *testing.T, ts []api.Task, lengths ...int) {
	t.Helper()
	for i := range ts {
		for _, n := range lengths {
			check(t, ts, i, n, counted(ts, i, n))
		}
	}
}

func TestOneTaskAlone(t *testing.T) {
	for _, x := range []api.Task{
		task(1, 1, 0), task(1, 1, 255), task(20, 5, 7), task(api.MaxPeriod, api.MaxPeriod, 3),
		{Kind: api.TaskPicked, Period: 20, Deadline: 10, CLow: 2, CHigh: 5, Prio: 7},
	} {
		for _, length := range []int{0, 1, 2, 19, 20, 21, 1023, 1024, 1025, 4095, api.MaxSpan} {
			check(t, []api.Task{x}, 0, length, x.CHigh)
		}
	}
}

// Lengths that a Period divides, one tick less, and one more: what is begun counts as whole.
func TestRoundedUp(t *testing.T) {
	for _, period := range []int{1, 2, 3, 7, 64, 1000, 1023, api.MaxPeriod} {
		most := (period + 1) / 2
		ts := []api.Task{task(50, 13, 8), task(period, most, 4)}
		for many := 1; many*period <= api.MaxSpan; many++ {
			whole := many * period
			check(t, ts, 0, whole, 13+many*most)
			if period > 1 {
				check(t, ts, 0, whole-1, 13+many*most)
				check(t, ts, 0, whole-period+1, 13+many*most)
			}
			if whole < api.MaxSpan {
				check(t, ts, 0, whole+1, 13+(many+1)*most)
			}
		}
	}
}

// The rounding is of the Periods, ahead of the CHigh: not of all that is asked for.
func TestRoundedAheadOfTimes(t *testing.T) {
	ts := []api.Task{task(9, 1, 1), task(10, 5, 0)}
	for length, want := range map[int]int{0: 1, 1: 6, 2: 6, 5: 6, 9: 6, 10: 6, 11: 11, 12: 11, 19: 11, 20: 11, 21: 16} {
		check(t, ts, 0, length, want)
	}
}

func TestEdgesOfLength(t *testing.T) {
	for i, want := range []int{5, 3, 11, 4} {
		check(t, good(), i, 0, want)
	}
	// One job of each one that goes ahead: 3 + 4 of task 0, none of task 1, 5 + 3 + 4 of task 2, 3 of task 3.
	for i, want := range []int{12, 3, 23, 7} {
		check(t, good(), i, 1, want)
	}
	// 4,096 by 7, 20 and 30, rounded up: 586, 205 and 137.
	for i, want := range []int{5 + 586*3 + 137*4, 3, 11 + 205*5 + 586*3 + 137*4, 4 + 586*3} {
		check(t, good(), i, api.MaxSpan, want)
	}
	for i := range good() {
		for _, length := range []int{-1, -7, -4096, math.MinInt, api.MaxSpan + 1, api.MaxSpan + 7, 8192, math.MaxInt} {
			checkNot(t, "length", good(), i, length)
		}
	}
}

func TestTasksThatThereAreNot(t *testing.T) {
	for _, length := range []int{0, 1, 20, api.MaxSpan} {
		for _, i := range []int{-1, -4, math.MinInt, 4, 5, 6, 255, math.MaxInt} {
			checkNot(t, "no such task", good(), i, length)
		}
		for _, i := range []int{-1, 0, 1, math.MinInt, math.MaxInt} {
			checkNot(t, "no task at all", nil, i, length)
			checkNot(t, "no task at all", []api.Task{}, i, length)
			checkNot(t, "none but in spare room", good()[:0], i, length)
		}
		checkNot(t, "one behind one", good()[:1], 1, length)
	}
}

func TestLowerPrioAheadAndBehind(t *testing.T) {
	x, low, high := task(40, 6, 100), task(10, 2, 99), task(10, 3, 101)
	for _, row := range []struct {
		ts   []api.Task
		i    int
		want int
	}{
		{[]api.Task{low, x}, 1, 6 + 3*2},
		{[]api.Task{x, low}, 0, 6 + 3*2},
		{[]api.Task{high, x}, 1, 6},
		{[]api.Task{x, high}, 0, 6},
		{[]api.Task{low, x, high}, 1, 6 + 3*2},
		{[]api.Task{high, x, low}, 1, 6 + 3*2},
		{[]api.Task{high, low, x}, 2, 6 + 3*2},
		{[]api.Task{x, low, high}, 0, 6 + 3*2},
		{[]api.Task{low, high, x}, 0, 2},
		{[]api.Task{x, low, high}, 2, 3 + 3*2 + 6},
		{[]api.Task{task(10, 1, 0), x, task(10, 2, 1)}, 1, 6 + 3*1 + 3*2},
		{[]api.Task{task(10, 1, 255), x, task(10, 2, 0)}, 1, 6 + 3*2},
		{[]api.Task{task(10, 1, 255), task(10, 2, 0)}, 0, 1 + 3*2},
	} {
		check(t, row.ts, row.i, 21, row.want)
	}
}

// Whatever row the tasks stand in, each has the same bound.
func TestEachRow(t *testing.T) {
	ts := good()
	want := map[int]int{9: 5 + 5*3 + 2*4, 2: 3, 200: 11 + 2*5 + 5*3 + 2*4, 5: 4 + 5*3}
	var turn func(at int)
	turn = func(at int) {
		if at == len(ts) {
			for i, x := range ts {
				check(t, ts, i, 35, want[x.Prio])
			}
			return
		}
		for k := at; k < len(ts); k++ {
			ts[at], ts[k] = ts[k], ts[at]
			turn(at + 1)
			ts[at], ts[k] = ts[k], ts[at]
		}
	}
	turn(0)
}

// Kind, Deadline and CLow turn nothing.
func TestOnlyPeriodAndMostCount(t *testing.T) {
	for i := range good() {
		want, _ := demand.Bound(good(), i, 63)
		for k := range good() {
			ts := good()
			ts[k].Kind = 1 - ts[k].Kind
			check(t, ts, i, 63, want)
			ts[k].Deadline = ts[k].CHigh
			check(t, ts, i, 63, want)
			ts[k].Deadline = ts[k].Period
			check(t, ts, i, 63, want)
			ts[k].CLow = ts[k].CHigh
			check(t, ts, i, 63, want)
			ts[k].CLow = 1
			check(t, ts, i, 63, want)
		}
	}
}

// fault makes of a task that may be one that may not.
type fault struct {
	why  string
	make func(x *api.Task)
}

// faults are some for each part of a task.
func faults() []fault {
	return []fault{
		{"nothing at all", func(x *api.Task) { *x = api.Task{} }},
		{"Kind below", func(x *api.Task) { x.Kind = -1 }},
		{"Kind above", func(x *api.Task) { x.Kind = 2 }},
		{"Period 0", func(x *api.Task) { x.Period = 0 }},
		{"Period below 0", func(x *api.Task) { x.Period = -20 }},
		{"least Period", func(x *api.Task) { x.Period = math.MinInt }},
		{"Period above MaxPeriod", func(x *api.Task) { x.Period = api.MaxPeriod + 1 }},
		{"greatest Period", func(x *api.Task) { x.Period = math.MaxInt }},
		{"Period below Deadline", func(x *api.Task) { x.Period = x.Deadline - 1 }},
		{"Deadline 0", func(x *api.Task) { x.Deadline = 0 }},
		{"Deadline above Period", func(x *api.Task) { x.Deadline = x.Period + 1 }},
		{"Deadline below CHigh", func(x *api.Task) { x.Deadline = x.CHigh - 1 }},
		{"CLow 0", func(x *api.Task) { x.CLow = 0 }},
		{"CLow below 0", func(x *api.Task) { x.CLow = math.MinInt }},
		{"CLow above CHigh", func(x *api.Task) { x.CLow = x.CHigh + 1 }},
		{"CHigh 0", func(x *api.Task) { x.CLow, x.CHigh = 0, 0 }},
		{"CHigh below 0", func(x *api.Task) { x.CLow, x.CHigh = 1, -1 }},
		{"CHigh above Deadline", func(x *api.Task) { x.CHigh = x.Deadline + 1 }},
		{"greatest CHigh", func(x *api.Task) { x.CHigh = math.MaxInt }},
		{"Prio below 0", func(x *api.Task) { x.Prio = -1 }},
		{"least Prio", func(x *api.Task) { x.Prio = math.MinInt }},
		{"Prio 256", func(x *api.Task) { x.Prio = 256 }},
		{"greatest Prio", func(x *api.Task) { x.Prio = math.MaxInt }},
	}
}

// A task that may not be is one for each i, itself or another, of a lower Prio or of a higher one. Whatever else is wrong
// too, there is one error alone (R6).
func TestTasksThatMayNotBe(t *testing.T) {
	for _, x := range faults() {
		for k := range good() {
			ts := good()
			x.make(&ts[k])
			for _, i := range []int{0, 1, 2, 3, -1, 4, math.MaxInt} {
				for _, length := range []int{0, 1, 20, api.MaxSpan, -1, api.MaxSpan + 1} {
					checkNot(t, x.why, ts, i, length)
				}
			}
		}
		alone := good()[:1]
		x.make(&alone[0])
		checkNot(t, x.why, alone, 0, 1)
	}
	checkNot(t, "task and length", good(), 4, -1)
	checkNot(t, "task and length", good(), -1, api.MaxSpan+1)
	checkNot(t, "task and length", nil, 0, api.MaxSpan+1)
}

func TestTwoOfOnePrio(t *testing.T) {
	for a := range good() {
		for b := range good() {
			if a == b {
				continue
			}
			ts := good()
			ts[a].Prio = ts[b].Prio
			for i := range ts {
				checkNot(t, "two of one Prio", ts, i, 20)
			}
			checkNot(t, "two of one Prio, no such task", ts, 4, 20)
			checkNot(t, "two of one Prio, length", ts, 0, -1)
		}
	}
	for _, prio := range []int{0, 1, 255} {
		checkNot(t, "just two", []api.Task{task(5, 1, prio), task(6, 1, prio)}, 0, 1)
		checkNot(t, "one twice", slices.Repeat([]api.Task{task(5, 1, prio)}, 2), 1, 1)
		checkNot(t, "one three times", slices.Repeat([]api.Task{task(5, 1, prio)}, 3), 1, 1)
	}
	// All else may be one: it is the Prio alone that tells them apart.
	check(t, []api.Task{task(5, 2, 0), task(5, 2, 1)}, 1, 6, 6)
}

// prios answers so many tasks with the Prios from 0 on, the least last.
func prios(many int) []api.Task {
	var ts []api.Task
	for prio := range many {
		ts = append(ts, task(1+(prio*37)%api.MaxPeriod, 1+(prio*37)%api.MaxPeriod/2, prio))
	}
	slices.Reverse(ts)
	return ts
}

// The chapter names no limit on how many there are: there are as many as there are Prios.
func TestMoreThanMaxTasks(t *testing.T) {
	for _, many := range []int{api.MaxTasks, api.MaxTasks + 1, 17, 64, 65, 255, 256} {
		ts := prios(many)
		for _, i := range []int{0, 1, many / 2, many - 1} {
			for _, length := range []int{0, 1, 500, api.MaxSpan} {
				check(t, ts, i, length, counted(ts, i, length))
			}
		}
		checkNot(t, "one behind the last one", ts, many, 1)
	}
	// 257 have two of one Prio, or one that may not be.
	for _, prio := range []int{-1, 0, 128, 255, 256} {
		ts := append(prios(256), task(5, 1, prio))
		for _, i := range []int{0, 255, 256} {
			checkNot(t, "257 tasks", ts, i, 20)
		}
	}
}

func TestGreatestBound(t *testing.T) {
	// All ask for each tick: 255 that go ahead, and their own.
	var each, long []api.Task
	for prio := range 256 {
		each = append(each, task(1, 1, prio))
		long = append(long, task(api.MaxPeriod, api.MaxPeriod, prio))
	}
	check(t, each, 255, api.MaxSpan, 255*api.MaxSpan+1)
	check(t, long, 255, api.MaxSpan, 255*api.MaxSpan+api.MaxPeriod)
	check(t, long, 255, api.MaxSpan-1, 255*api.MaxSpan+api.MaxPeriod)
	check(t, long, 255, api.MaxSpan-api.MaxPeriod, 255*(api.MaxSpan-api.MaxPeriod)+api.MaxPeriod)
	check(t, each, 0, api.MaxSpan, 1)
}

func TestManyTasksEnd(t *testing.T) {
	many := slices.Repeat([]api.Task{task(5, 1, 3)}, 1_000_000)
	for range 100 {
		checkNotMany(t, many)
	}
	// No two have one Prio, but from the 257th on none of them may be.
	for i := range many {
		many[i].Prio = i
	}
	for range 100 {
		checkNotMany(t, many)
	}
}

// checkNotMany asks for what there is not, and does not tell all tasks where it fails.
func checkNotMany(t *testing.T, ts []api.Task) {
	t.Helper()
	if got, err := demand.Bound(ts, 0, 1); got != 0 || err != api.ErrDemandForm {
		t.Fatalf("P8.1: Bound of %d tasks = %d, %d; want ErrDemandForm", len(ts), got, err)
	}
}

// Two tasks of each small Period and CHigh, and a third one between them, along lengths of some Periods.
func TestSmallTasks(t *testing.T) {
	lengths := []int{0, 1, 2, 3, 4, 5, 6, 7, 8, 9, 10, 11, 12, 13, 24, 25}
	for p := 1; p <= 5; p++ {
		for q := 1; q <= 5; q++ {
			for most := 1; most <= min(p, q); most++ {
				checkCounted(t, []api.Task{task(p, most, 4), task(3, 2, 3), task(q, 1, 1)}, lengths...)
				checkCounted(t, []api.Task{task(p, 1, 0), task(q, most, 2), task(3, 2, 1)}, lengths...)
			}
		}
	}
}

// One tick more asks for no less, and what is asked for rises just where a Period of one that goes ahead begins.
func TestRises(t *testing.T) {
	was := 11
	for length := 1; length <= api.MaxSpan; length++ {
		want := was
		for _, x := range []struct{ period, most int }{{20, 5}, {7, 3}, {30, 4}} {
			if (length-1)%x.period == 0 {
				want += x.most
			}
		}
		check(t, good(), 2, length, want)
		was = want
	}
}

func TestNothingIsChangedOrKept(t *testing.T) {
	roomy := append(good(), api.Task{Kind: 6}, task(5, 1, 9))
	ts := roomy[:4]
	was := fmt.Sprint(roomy)
	check(t, ts, 0, 35, 28)
	check(t, ts, 2, 35, 44)
	checkNot(t, "no such task", ts, 4, 35)
	checkNot(t, "length", ts, 0, -1)
	checkNot(t, "a task that may not be", roomy, 0, 35)
	if got := fmt.Sprint(roomy); got != was {
		t.Errorf("R4: %s; was %s", got, was)
	}
	ts[1].CHigh = 1
	check(t, ts, 0, 35, 18)
	ts[1].Prio = 10
	check(t, ts, 0, 35, 13)
	check(t, ts, 1, 35, 1+2*5+2*4)
	ts[1].Prio = 9
	checkNot(t, "two of one Prio", ts, 0, 35)
	ts[1] = good()[1]
	// Behind an error all is as it was ahead of it (R5).
	check(t, ts, 0, 35, 28)
}

func TestFromSeveralGoroutines(t *testing.T) {
	ts := good()
	var all sync.WaitGroup
	for i := range 8 {
		all.Go(func() {
			want := []int{28, 3, 44, 19}[i%4]
			for range 50 {
				if got, err := demand.Bound(ts, i%4, 35); got != want || err != api.OK {
					t.Errorf("R5: Bound(%d, 35) = %d, %d; want %d", i%4, got, err, want)
					return
				}
			}
		})
	}
	all.Wait()
}
