package meter_test

import (
	"math"
	"sync"
	"testing"

	"nocturn/api"
	"nocturn/meter"
)

// base is a job that may be.
var base = api.Job{Task: 2, Seq: 4, Prio: 7, Release: 50, Deadline: 60, Demand: 9, Used: 4}

// hoped is a task that may be: its jobs are hoped to take 3 ticks, and may take 6.
var hoped = api.Task{Kind: api.TaskRegular, Period: 20, Deadline: 10, CLow: 3, CHigh: 6, Prio: 7}

// noLevels holds numbers that are no level; some of them end in bits that are one.
var noLevels = []int{-1, 2, 3, 256, 257, -256, -255, 1 << 32, 1<<32 + 1, math.MinInt, math.MinInt + 1, math.MaxInt}

// The verdicts that there are.
var (
	none     = api.Verdict{}
	over     = api.Verdict{Over: true}
	done     = api.Verdict{Done: true}
	kill     = api.Verdict{Kill: true}
	overKill = api.Verdict{Over: true, Kill: true}
)

// with answers a job that is turned by change.
func with(j api.Job, change func(j *api.Job)) api.Job {
	change(&j)
	return j
}

// used answers base with a demand, so many ticks of which it has used.
func used(ticks int, demand int) api.Job {
	return with(base, func(j *api.Job) { j.Used, j.Demand = ticks, demand })
}

// within answers hoped with other budgets.
func within(low int, high int) api.Task {
	t := hoped
	t.CLow, t.CHigh, t.Deadline, t.Period = low, high, api.MaxPeriod, api.MaxPeriod
	return t
}

// check charges a job: Used is one more, all else of it stays as it was.
func check(t *testing.T, j api.Job, x api.Task, level int, want api.Verdict) {
	t.Helper()
	then := with(j, func(j *api.Job) { j.Used++ })
	if got, v, err := meter.Charge(j, x, level); got != then || v != want || err != api.OK {
		t.Errorf("P13.1: Charge(%+v, %+v, %d) = %+v, %+v, %d; want %+v, %+v", j, x, level, got, v, err, then, want)
	}
}

// checkNot asks for a job to be charged, which may not be: nothing stands beside the error (R2).
func checkNot(t *testing.T, j api.Job, x api.Task, level int) {
	t.Helper()
	if got, v, err := meter.Charge(j, x, level); got != (api.Job{}) || v != none || err != api.ErrMeterForm {
		t.Errorf("P13.1: Charge(%+v, %+v, %d) = %+v, %+v, %d; want error %d", j, x, level, got, v, err, api.ErrMeterForm)
	}
}

// edgeJobs answers, of each part of a job, those that lie just within its edges; each has used 4 of 9 ticks.
func edgeJobs() []api.Job {
	return []api.Job{
		base, {Deadline: 1, Demand: 9, Used: 4},
		with(base, func(j *api.Job) { j.Task = 0 }), with(base, func(j *api.Job) { j.Task = 5 }),
		with(base, func(j *api.Job) { j.Seq = 0 }), with(base, func(j *api.Job) { j.Seq = math.MaxInt }),
		with(base, func(j *api.Job) { j.Prio = 0 }), with(base, func(j *api.Job) { j.Prio = 255 }),
		with(base, func(j *api.Job) { j.Release = 0 }), with(base, func(j *api.Job) { j.Release = 59 }),
		with(base, func(j *api.Job) { j.Release, j.Deadline = api.MaxClock, api.MaxClock+1 }),
		with(base, func(j *api.Job) { j.Deadline = 51 }), with(base, func(j *api.Job) { j.Deadline = math.MaxInt }),
	}
}

// wrongJobs answers, of each part of a job, those that lie just behind its edges.
func wrongJobs() []api.Job {
	return []api.Job{
		{}, {Demand: 9}, {Deadline: 1},
		with(base, func(j *api.Job) { j.Task = -1 }), with(base, func(j *api.Job) { j.Task = 6 }),
		with(base, func(j *api.Job) { j.Task = 258 }), with(base, func(j *api.Job) { j.Task = math.MinInt }),
		with(base, func(j *api.Job) { j.Task = math.MaxInt }),
		with(base, func(j *api.Job) { j.Seq = -1 }), with(base, func(j *api.Job) { j.Seq = math.MinInt }),
		with(base, func(j *api.Job) { j.Prio = -1 }), with(base, func(j *api.Job) { j.Prio = 256 }),
		with(base, func(j *api.Job) { j.Prio = 1<<32 + 7 }), with(base, func(j *api.Job) { j.Prio = math.MinInt }),
		with(base, func(j *api.Job) { j.Release = -1 }), with(base, func(j *api.Job) { j.Release = math.MinInt }),
		with(base, func(j *api.Job) { j.Release, j.Deadline = api.MaxClock+1, api.MaxClock+2 }),
		with(base, func(j *api.Job) { j.Deadline = 50 }), with(base, func(j *api.Job) { j.Deadline = 49 }),
		with(base, func(j *api.Job) { j.Deadline = -1 }), with(base, func(j *api.Job) { j.Deadline = math.MinInt }),
		used(0, 0), used(-1, 0), used(-2, -1), used(4, 65536), used(4, 1<<32+9), used(0, math.MinInt), used(4, math.MaxInt),
		used(-1, 9), used(-4, 9), used(math.MinInt, 9), used(9, 9), used(10, 9), used(1, 1), used(2, 1),
		used(65535, 65535), used(math.MaxInt, 9), used(math.MaxInt, math.MaxInt), used(math.MaxInt-1, math.MaxInt),
	}
}

// edgeTasks answers, of each part of a task, those that lie just within its edges; no budget of theirs is 5.
func edgeTasks() []api.Task {
	return []api.Task{
		hoped, {Period: 1, Deadline: 1, CLow: 1, CHigh: 1}, within(1024, 1024), within(1, 1024),
		{Kind: api.TaskPicked, Period: 20, Deadline: 10, CLow: 3, CHigh: 6, Prio: 7},
		{Period: 10, Deadline: 10, CLow: 3, CHigh: 6}, {Period: 1024, Deadline: 10, CLow: 3, CHigh: 6},
		{Period: 20, Deadline: 6, CLow: 3, CHigh: 6}, {Period: 20, Deadline: 20, CLow: 3, CHigh: 6, Prio: 255},
		{Period: 20, Deadline: 10, CLow: 3, CHigh: 10}, {Period: 20, Deadline: 10, CLow: 6, CHigh: 6},
	}
}

// wrongTasks answers, of each part of a task, those that lie just behind its edges.
func wrongTasks() []api.Task {
	var wrong []api.Task
	for _, change := range []func(x *api.Task){
		func(x *api.Task) { *x = api.Task{} },
		func(x *api.Task) { x.Kind = -1 }, func(x *api.Task) { x.Kind = 2 }, func(x *api.Task) { x.Kind = 257 },
		func(x *api.Task) { x.Period = 0 }, func(x *api.Task) { x.Period = 9 }, func(x *api.Task) { x.Period = 1025 },
		func(x *api.Task) { x.Period = -20 }, func(x *api.Task) { x.Period = math.MinInt },
		func(x *api.Task) { x.Deadline = 0 }, func(x *api.Task) { x.Deadline = 5 }, func(x *api.Task) { x.Deadline = 21 },
		func(x *api.Task) { x.CLow = 0 }, func(x *api.Task) { x.CLow = -1 }, func(x *api.Task) { x.CLow = 7 },
		func(x *api.Task) { x.CLow, x.CHigh = 0, 0 }, func(x *api.Task) { x.CLow, x.CHigh = -2, -1 },
		func(x *api.Task) { x.CHigh = 2 }, func(x *api.Task) { x.CHigh = 0 }, func(x *api.Task) { x.CHigh = 11 },
		func(x *api.Task) { x.Prio = -1 }, func(x *api.Task) { x.Prio = 256 }, func(x *api.Task) { x.Prio = math.MaxInt },
	} {
		x := hoped
		change(&x)
		wrong = append(wrong, x)
	}
	return wrong
}

// A job and a task that may be are charged, whatever else they are: a job's Prio need not be its task's.
func TestChargeOfEdges(t *testing.T) {
	for _, j := range edgeJobs() {
		for _, x := range edgeTasks() {
			check(t, j, x, api.Low, none)
			check(t, j, x, api.High, none)
		}
	}
	check(t, used(0, 65535), hoped, api.High, none)
	check(t, used(65533, 65535), hoped, api.High, none)
	check(t, used(65534, 65535), hoped, api.High, done)
	check(t, used(65534, 65535), hoped, api.Low, done)
}

func TestJobsThatMayNotBe(t *testing.T) {
	for _, j := range wrongJobs() {
		for _, x := range []api.Task{hoped, within(1, 1), within(10, 10)} {
			checkNot(t, j, x, api.Low)
			checkNot(t, j, x, api.High)
		}
	}
}

func TestTasksThatMayNotBe(t *testing.T) {
	for _, x := range wrongTasks() {
		for _, j := range []api.Job{base, used(2, 9), used(5, 9), used(0, 1), used(8, 9)} {
			checkNot(t, j, x, api.Low)
			checkNot(t, j, x, api.High)
		}
	}
}

func TestNoLevels(t *testing.T) {
	for _, level := range noLevels {
		for _, j := range []api.Job{base, used(2, 9), used(5, 9), used(0, 1), used(8, 9)} {
			checkNot(t, j, hoped, level)
		}
		checkNot(t, api.Job{}, hoped, level)
		checkNot(t, base, api.Task{}, level)
		checkNot(t, api.Job{}, api.Task{}, level)
	}
}

func TestOver(t *testing.T) {
	check(t, used(1, 9), hoped, api.High, none)
	check(t, used(2, 9), hoped, api.High, over)
	check(t, used(3, 9), hoped, api.High, none)
	check(t, used(2, 4), hoped, api.High, over)
	check(t, used(2, 65535), hoped, api.High, over)
	// A job that is done took no longer than was hoped.
	check(t, used(2, 3), hoped, api.High, done)
	for ticks := range 8 {
		if _, v, _ := meter.Charge(used(ticks, 9), hoped, api.Low); v.Over {
			t.Errorf("P13.1: a Low job is over with %d ticks used", ticks+1)
		}
	}
	check(t, used(0, 2), within(1, 2), api.High, over)
	check(t, used(1022, 9999), within(1023, 1024), api.High, over)
}

func TestDone(t *testing.T) {
	for demand := 1; demand <= 12; demand++ {
		for _, level := range []int{api.Low, api.High} {
			check(t, used(demand-1, demand), hoped, level, done)
			check(t, used(demand-1, demand), within(demand, demand), level, done)
			check(t, used(demand-1, demand), within(1, demand), level, done)
			check(t, used(demand-1, demand), within(demand, demand+1), level, done)
		}
	}
}

func TestKill(t *testing.T) {
	check(t, used(4, 9), hoped, api.High, none)
	check(t, used(5, 9), hoped, api.High, kill)
	check(t, used(6, 9), hoped, api.High, none)
	check(t, used(5, 7), hoped, api.High, kill)
	check(t, used(5, 65535), hoped, api.High, kill)
	check(t, used(5, 6), hoped, api.High, done)
	check(t, used(1, 9), hoped, api.Low, none)
	check(t, used(2, 9), hoped, api.Low, kill)
	check(t, used(3, 9), hoped, api.Low, none)
	check(t, used(5, 9), hoped, api.Low, none)
	check(t, used(2, 4), hoped, api.Low, kill)
	check(t, used(2, 3), hoped, api.Low, done)
	check(t, used(1023, 9999), within(1, 1024), api.High, kill)
	check(t, used(0, 2), within(1, 1024), api.Low, kill)
}

// Both budgets are spent at one tick.
func TestOneBudget(t *testing.T) {
	check(t, used(3, 9), within(5, 5), api.High, none)
	check(t, used(4, 9), within(5, 5), api.High, overKill)
	check(t, used(5, 9), within(5, 5), api.High, none)
	check(t, used(4, 5), within(5, 5), api.High, done)
	check(t, used(4, 9), within(5, 5), api.Low, kill)
	check(t, used(4, 5), within(5, 5), api.Low, done)
	check(t, used(0, 2), within(1, 1), api.High, overKill)
	check(t, used(0, 1), within(1, 1), api.High, done)
	check(t, used(1023, 1025), within(1024, 1024), api.High, overKill)
}

// wanted answers, by the chapter's words, what the tick does with which a job has used so many ticks.
func wanted(ticks int, demand int, x api.Task, level int) api.Verdict {
	if ticks == demand {
		return done
	}
	if level == api.Low {
		return api.Verdict{Kill: ticks == x.CLow}
	}
	return api.Verdict{Over: ticks == x.CLow, Kill: ticks == x.CHigh}
}

// Each job with each small budget, tick by tick from its begin to its end.
func TestTickByTick(t *testing.T) {
	for i := range 10 * 8 * 8 {
		demand, low, more := 1+i%10, 1+i/10%8, i/80
		x := within(low, low+more)
		for _, level := range []int{api.Low, api.High} {
			j := used(0, demand)
			for ticks := 1; ticks <= demand; ticks++ {
				check(t, j, x, level, wanted(ticks, demand, x, level))
				j, _, _ = meter.Charge(j, x, level)
			}
			if j != used(demand, demand) {
				t.Errorf("P13.1: %+v of %+v", j, x)
			}
			checkNot(t, j, x, level)
		}
	}
}

// run charges a job till it is done or killed, and answers what it has used, and with how many ticks it was over.
func run(j api.Job, x api.Task, level int) (int, int, api.Verdict) {
	late := 0
	for range j.Demand {
		then, v, err := meter.Charge(j, x, level)
		if err != api.OK || v.Done || v.Kill {
			return then.Used, late, v
		}
		if v.Over {
			late = then.Used
		}
		j = then
	}
	return j.Used, late, none
}

// No job uses more than its budget: what asks for more is killed when it has used that.
func TestNoJobUsesMore(t *testing.T) {
	for demand := 1; demand <= 1100; demand++ {
		for _, x := range []api.Task{hoped, within(1, 1024), within(500, 700), within(1024, 1024)} {
			ticks, late, v := run(used(0, demand), x, api.High)
			if ticks != min(demand, x.CHigh) || v.Done != (demand <= x.CHigh) || v.Kill == v.Done {
				t.Errorf("P13.1: %d of %d ticks are used of %+v: %+v", ticks, demand, x, v)
			}
			if demand > x.CLow && x.CLow < x.CHigh && late != x.CLow || demand <= x.CLow && (late != 0 || v.Over) {
				t.Errorf("P13.1: a job of %d ticks is over at %d of %+v", demand, late, x)
			}
			ticks, late, v = run(used(0, demand), x, api.Low)
			if ticks != min(demand, x.CLow) || v.Done != (demand <= x.CLow) || v.Kill == v.Done || late != 0 {
				t.Errorf("P13.1: %d of %d ticks are used of %+v at Low: %+v", ticks, demand, x, v)
			}
		}
	}
}

// What else a job and a task have turns nothing.
func TestOnlyBudgetsCount(t *testing.T) {
	for ticks := range 9 {
		for _, level := range []int{api.Low, api.High} {
			want := wanted(ticks+1, 9, hoped, level)
			for _, j := range edgeJobs() {
				for _, x := range edgeTasks() {
					x.Deadline, x.Period, x.CLow, x.CHigh = max(x.Deadline, 6), max(x.Period, 6), hoped.CLow, hoped.CHigh
					check(t, with(j, func(j *api.Job) { j.Used = ticks }), x, level, want)
				}
			}
		}
	}
}

// What is handed in stays as it was (R4).
func TestArgumentsStay(t *testing.T) {
	j, x := base, hoped
	for _, level := range []int{api.Low, api.High, 2} {
		meter.Charge(j, x, level)
		if j != base || x != hoped {
			t.Fatalf("R4: %+v, %+v", j, x)
		}
	}
}

// A call hangs on nothing but what it is handed: not on another call, not on one that runs beside it (R5).
func TestCallsBesideEachOther(t *testing.T) {
	var all sync.WaitGroup
	for range 8 {
		all.Go(func() {
			for i := range 2000 {
				ticks, level := i%9, i/9%2
				check(t, used(ticks, 9), hoped, level, wanted(ticks+1, 9, hoped, level))
				checkNot(t, base, hoped, 2)
				checkNot(t, api.Job{}, hoped, level)
			}
		})
	}
	all.Wait()
}
