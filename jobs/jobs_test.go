package jobs_test

import (
	"math"
	"slices"
	"testing"

	"nocturn/api"
	"nocturn/code"
	"nocturn/jobs"
)

// index is the part that the schedules of most tests are of.
const index = 3

// noTicks holds numbers that are no tick; some of them end in bits that are one.
var noTicks = []int{-1, -20, math.MinInt, api.MaxClock + 1, api.MaxClock + 20, math.MaxInt}

// noDemands holds numbers that no job may ask for; some of them end in bits that are one which may be.
var noDemands = []int{0, -1, -65535, math.MinInt, 65536, 65537, 1 << 32, 1<<32 + 1, math.MaxInt}

// regular answers a task whose jobs come at each tick that period divides.
func regular(period int, low int, high int, prio int) api.Task {
	return api.Task{Kind: api.TaskRegular, Period: period, Deadline: period, CLow: low, CHigh: high, Prio: prio}
}

// picked answers a task whose jobs come as they are picked.
func picked(period int, low int, high int, prio int) api.Task {
	t := regular(period, low, high, prio)
	t.Kind = api.TaskPicked
	return t
}

// due answers t with another deadline.
func due(t api.Task, deadline int) api.Task {
	t.Deadline = deadline
	return t
}

// high answers a High part of tasks.
func high(tasks ...api.Task) api.Part {
	return api.Part{Level: api.High, Tasks: tasks}
}

// low answers a Low part of tasks.
func low(tasks ...api.Task) api.Part {
	return api.Part{Level: api.Low, Tasks: tasks}
}

// start answers the schedule of p, which may be.
func start(t *testing.T, p api.Part) *jobs.Local {
	t.Helper()
	l, err := jobs.New(index, p)
	if l == nil || err != api.OK {
		t.Fatalf("P14.1: New(%d, %+v) = %v, %d", index, p, l, err)
	}
	return l
}

// told answers an event of a task.
func told(kind int, task int, value int) api.Event {
	return api.Event{Kind: kind, Part: index, Task: task, Value: value}
}

// checkPick asks for a demand that is kept.
func checkPick(t *testing.T, l *jobs.Local, task int, demand int, now int, want ...api.Event) {
	t.Helper()
	if got, err := l.Pick(task, demand, now); !slices.Equal(got, want) || err != api.OK {
		t.Errorf("P14.1: Pick(%d, %d, %d) = %+v, %d; want %+v", task, demand, now, got, err, want)
	}
}

// checkNoPick asks for a demand that is not kept: no event stands beside the error (R2).
func checkNoPick(t *testing.T, l *jobs.Local, task int, demand int, now int, want api.Errno) {
	t.Helper()
	if got, err := l.Pick(task, demand, now); len(got) != 0 || err != want {
		t.Errorf("P14.1: Pick(%d, %d, %d) = %+v, %d; want error %d", task, demand, now, got, err, want)
	}
}

// checkBegin begins a tick.
func checkBegin(t *testing.T, l *jobs.Local, now int, want ...api.Event) {
	t.Helper()
	if got, err := l.Begin(now); !slices.Equal(got, want) || err != api.OK {
		t.Errorf("P14.2: Begin(%d) = %+v, %d; want %+v", now, got, err, want)
	}
}

// checkNoBegin begins a tick that is none: no event stands beside the error (R2).
func checkNoBegin(t *testing.T, l *jobs.Local, now int) {
	t.Helper()
	if got, err := l.Begin(now); len(got) != 0 || err != api.ErrJobsForm {
		t.Errorf("P14.2: Begin(%d) = %+v, %d; want error %d", now, got, err, api.ErrJobsForm)
	}
}

// checkRun runs the first job for a tick.
func checkRun(t *testing.T, l *jobs.Local, v api.Verdict, want ...api.Event) {
	t.Helper()
	if is, got, err := l.Run(); is != v || !slices.Equal(got, want) || err != api.OK {
		t.Errorf("P14.3: Run() = %+v, %+v, %d; want %+v, %+v", is, got, err, v, want)
	}
}

// checkFail lets the first job fail.
func checkFail(t *testing.T, l *jobs.Local, want api.Event) {
	t.Helper()
	if got, err := l.Fail(); !slices.Equal(got, []api.Event{want}) || err != api.OK {
		t.Errorf("P14.3: Fail() = %+v, %d; want %+v", got, err, want)
	}
}

// checkJobs asks for the jobs, which are there, or are not.
func checkJobs(t *testing.T, l *jobs.Local, want ...api.Job) {
	t.Helper()
	if got := l.Jobs(); !slices.Equal(got, want) {
		t.Errorf("P14.3: Jobs() = %+v; want %+v", got, want)
	}
	if l.Ready() != (len(want) > 0) {
		t.Errorf("P14.2: Ready() = %t of %+v", l.Ready(), want)
	}
}

// checkNone asks for a first job, which there is not: nothing stands beside the error (R2).
func checkNone(t *testing.T, l *jobs.Local, want api.Errno) {
	t.Helper()
	if v, got, err := l.Run(); v != (api.Verdict{}) || len(got) != 0 || err != want {
		t.Errorf("P14.3: Run() = %+v, %+v, %d; want error %d", v, got, err, want)
	}
	if got, err := l.Fail(); len(got) != 0 || err != want {
		t.Errorf("P14.3: Fail() = %+v, %d; want error %d", got, err, want)
	}
	checkJobs(t, l)
}

// edgeParts answers parts that may be, some of them just within an edge.
func edgeParts() []api.Part {
	return []api.Part{
		low(), high(), low(regular(5, 2, 2, 0)), high(regular(5, 2, 3, 255)), high(picked(1024, 1, 1024, 9)),
		high(regular(1, 1, 1, 0), regular(2, 1, 1, 1), regular(3, 1, 1, 2),
			picked(4, 1, 1, 3), picked(5, 1, 1, 4), picked(6, 1, 1, 5)),
		{Level: api.High, Code: []api.Instr{{Op: api.OpHalt}}},
		{Level: api.Low, Code: make([]api.Instr, api.MaxCode)},
	}
}

// wrongParts answers parts that may not be, each for one reason.
func wrongParts() []api.Part {
	good := regular(20, 3, 3, 7)
	wrong := []api.Part{
		{Level: -1}, {Level: 2}, {Level: 256}, {Level: 1<<32 + 1}, {Level: math.MinInt}, {Level: math.MaxInt},
		high(regular(1, 1, 1, 0), regular(1, 1, 1, 1), regular(1, 1, 1, 2), regular(1, 1, 1, 3), regular(1, 1, 1, 4),
			regular(1, 1, 1, 5), regular(1, 1, 1, 6)),
		high(good, good), low(good, regular(5, 1, 1, 8), good), low(regular(5, 2, 3, 7)), low(good, regular(5, 2, 3, 8)),
		{Code: make([]api.Instr, api.MaxCode+1)}, {Code: []api.Instr{{Op: -1}}}, {Code: []api.Instr{{Op: 12}}},
		{Level: api.High, Tasks: []api.Task{good}, Code: []api.Instr{{Op: api.OpLoad, Arg: api.Words}}},
	}
	for _, change := range []func(x *api.Task){
		func(x *api.Task) { *x = api.Task{} },
		func(x *api.Task) { x.Kind = -1 }, func(x *api.Task) { x.Kind = 2 },
		func(x *api.Task) { x.Period = 2 }, func(x *api.Task) { x.Period = 1025 },
		func(x *api.Task) { x.Deadline = 2 }, func(x *api.Task) { x.Deadline = 21 },
		func(x *api.Task) { x.CLow, x.CHigh = 0, 0 }, func(x *api.Task) { x.CLow, x.CHigh = 21, 21 },
		func(x *api.Task) { x.CLow = 4 },
		func(x *api.Task) { x.Prio = -1 }, func(x *api.Task) { x.Prio = 256 },
	} {
		x := good
		change(&x)
		wrong = append(wrong, low(x), high(x), high(regular(5, 1, 2, 8), x))
	}
	return wrong
}

func TestNew(t *testing.T) {
	for _, p := range edgeParts() {
		for i := range api.MaxParts {
			l, err := jobs.New(i, p)
			if l == nil || err != api.OK {
				t.Fatalf("P14.1: New(%d, %+v) = %v, %d", i, p, l, err)
			}
			checkNone(t, l, api.ErrJobsNone)
			checkNoPick(t, l, len(p.Tasks), 1, 0, api.ErrJobsForm)
		}
	}
}

func TestNewOfNoIndex(t *testing.T) {
	for _, i := range []int{-1, -8, math.MinInt, 8, 9, 256, 259, 1 << 32, 1<<32 + 3, math.MaxInt} {
		for _, p := range edgeParts() {
			if l, err := jobs.New(i, p); l != nil || err != api.ErrJobsForm {
				t.Errorf("P14.1: New(%d, %+v) = %v, %d", i, p, l, err)
			}
		}
	}
}

func TestNewOfWrongParts(t *testing.T) {
	for _, p := range wrongParts() {
		for _, i := range []int{-1, 0, index, 7, 8} {
			if l, err := jobs.New(i, p); l != nil || err != api.ErrJobsForm {
				t.Errorf("P14.1: New(%d, %+v) = %v, %d", i, p, l, err)
			}
		}
	}
}

// No task has had a job: the first one comes as soon as it is asked for, however early that is, and asks for CLow, or
// for what is picked.
func TestNewTasksHadNoJob(t *testing.T) {
	for _, now := range []int{0, 1, 9, 10, 19, api.MaxClock} {
		l := start(t, high(picked(10, 2, 3, 1)))
		checkBegin(t, l, now)
		checkJobs(t, l)
		checkPick(t, l, 0, 5, now)
		checkBegin(t, l, now, told(api.EventRelease, 0, 5))
	}
	l := start(t, high(regular(10, 2, 3, 1)))
	checkBegin(t, l, 0, told(api.EventRelease, 0, 2))
	l = start(t, high(picked(10, 2, 3, 1)))
	for range api.MaxPicks {
		checkPick(t, l, 0, 1, 0)
	}
	checkNoPick(t, l, 0, 1, 0, api.ErrTaskFull)
}

// Part of all events is the index, whichever it is.
func TestIndex(t *testing.T) {
	for i := range api.MaxParts {
		l, _ := jobs.New(i, high(due(picked(10, 1, 2, 1), 2)))
		var all []api.Event
		for now := range 12 {
			picks, _ := l.Pick(0, 5-now%3, now)
			begun, _ := l.Begin(now)
			_, ran, _ := l.Run()
			all = slices.Concat(all, picks, begun, ran)
		}
		l.Pick(0, 1, 30)
		l.Begin(30)
		missed, _ := l.Begin(35)
		l.Pick(0, 1, 50)
		l.Begin(50)
		failed, _ := l.Fail()
		all = slices.Concat(all, missed, failed)
		kinds := map[int]int{}
		for _, e := range all {
			kinds[e.Kind]++
			if e.Part != i {
				t.Fatalf("P14.3: %+v of part %d", e, i)
			}
		}
		if len(kinds) < 6 {
			t.Fatalf("P14.3: %v", kinds)
		}
	}
}

func TestPickOfNoTask(t *testing.T) {
	for _, tasks := range [][]api.Task{
		nil, {regular(5, 1, 1, 0)},
		{picked(5, 1, 1, 0), picked(5, 1, 1, 1), picked(5, 1, 1, 2),
			picked(5, 1, 1, 3), picked(5, 1, 1, 4), picked(5, 1, 1, 5)},
	} {
		l := start(t, high(tasks...))
		many := len(tasks)
		for _, i := range []int{-1, -6, math.MinInt, many, many + 1, 6, 7, 256, 1 << 32, math.MaxInt} {
			checkNoPick(t, l, i, 1, 0, api.ErrJobsForm)
			checkNoPick(t, l, i, 1, -1, api.ErrJobsForm)
			// It goes ahead of layer 11's errors (R6).
			checkNoPick(t, l, i, 0, 0, api.ErrJobsForm)
		}
		for i := range many {
			checkPick(t, l, i, 1, 0)
		}
	}
}

func TestPickAtNoTick(t *testing.T) {
	l := start(t, high(picked(10, 2, 3, 1), regular(10, 2, 3, 2)))
	for i := range 2 {
		for _, now := range noTicks {
			checkNoPick(t, l, i, 1, now, api.ErrJobsForm)
			checkNoPick(t, l, i, 0, now, api.ErrJobsForm)
		}
		checkPick(t, l, i, 1, 0)
		checkPick(t, l, i, 1, api.MaxClock)
		checkPick(t, l, i, 1, 1)
		checkPick(t, l, i, 1, api.MaxClock-1)
		for _, now := range noTicks {
			checkNoPick(t, l, i, 1, now, api.ErrJobsForm)
		}
		checkNoPick(t, l, i, 1, 0, api.ErrTaskFull)
	}
}

// Of what layer 11's Pick refuses nothing is kept: what was picked comes, one behind the other, and then nothing more.
func TestPickThatIsRefused(t *testing.T) {
	for _, x := range []api.Task{picked(10, 2, 3, 1), regular(10, 2, 3, 1)} {
		l := start(t, high(x))
		for i := range api.MaxPicks {
			for _, no := range noDemands {
				checkNoPick(t, l, 0, no, 7, api.ErrTaskForm)
			}
			checkPick(t, l, 0, 60+i, 7)
		}
		for _, no := range noDemands {
			checkNoPick(t, l, 0, no, 7, api.ErrTaskForm)
		}
		checkNoPick(t, l, 0, 65535, 7, api.ErrTaskFull)
		for i := range api.MaxPicks {
			checkBegin(t, l, 10*i, slices.Concat(missed(i > 0), []api.Event{told(api.EventRelease, 0, 60+i)})...)
		}
		checkPick(t, l, 0, 9, 40)
	}
}

// missed answers the event of a job of task 0 that used nothing, if there was one.
func missed(is bool) []api.Event {
	if is {
		return []api.Event{told(api.EventMiss, 0, 0)}
	}
	return nil
}

// A demand is of the task that is named, and of no other one.
func TestPickOfEachTask(t *testing.T) {
	l := start(t, high(picked(10, 1, 1, 2), regular(10, 2, 2, 1), picked(10, 3, 3, 0)))
	checkPick(t, l, 2, 70, 4)
	checkBegin(t, l, 4, told(api.EventRelease, 2, 70))
	checkPick(t, l, 0, 80, 4)
	checkBegin(t, l, 5, told(api.EventRelease, 0, 80))
	checkPick(t, l, 1, 90, 5)
	checkBegin(t, l, 10, told(api.EventRelease, 1, 90))
}

// An EventDefer tells how many ticks the turn is off; there is none where the first demand need not wait.
func TestDefer(t *testing.T) {
	for now := 100; now <= 130; now++ {
		l := start(t, high(picked(20, 2, 3, 1)))
		checkPick(t, l, 0, 1, 100)
		checkBegin(t, l, 100, told(api.EventRelease, 0, 1))
		for range api.MaxPicks {
			if now < 120 {
				checkPick(t, l, 0, 9, now, told(api.EventDefer, 0, 120-now))
			} else {
				checkPick(t, l, 0, 9, now)
			}
		}
		checkNoPick(t, l, 0, 9, now, api.ErrTaskFull)
	}
}

// A tick ahead of the last job lies more than a period ahead of the next one's turn.
func TestDeferAheadOfTheLast(t *testing.T) {
	l := start(t, high(regular(7, 1, 1, 0), picked(20, 2, 3, 1)))
	checkPick(t, l, 1, 1, 500)
	checkBegin(t, l, 501, told(api.EventRelease, 1, 1))
	checkPick(t, l, 1, 1, 500, told(api.EventDefer, 1, 21))
	checkPick(t, l, 1, 1, 0, told(api.EventDefer, 1, 521))
	l = start(t, high(picked(1024, 2, 3, 1)))
	checkPick(t, l, 0, 1, 0)
	checkBegin(t, l, api.MaxClock, told(api.EventRelease, 0, 1))
	checkPick(t, l, 0, 1, api.MaxClock, told(api.EventDefer, 0, 1024))
	checkPick(t, l, 0, 1, 0, told(api.EventDefer, 0, api.MaxClock+1024))
}

// A task whose jobs hang on the tick alone puts none off.
func TestNoDeferOfRegular(t *testing.T) {
	l := start(t, high(regular(20, 2, 3, 1)))
	checkBegin(t, l, 100, told(api.EventRelease, 0, 2))
	for now := range api.MaxPicks {
		checkPick(t, l, 0, 1, 99+now)
	}
}

// Several demands of one task come one behind the other, a period between them at the least; where ticks are passed
// over, just one of them comes at the next one.
func TestDemandsComeInTheirRow(t *testing.T) {
	l := start(t, high(due(picked(10, 1, 1, 1), 3)))
	checkPick(t, l, 0, 5, 0)
	checkPick(t, l, 0, 6, 0)
	checkPick(t, l, 0, 7, 0)
	checkPick(t, l, 0, 8, 0)
	for now := range 60 {
		var want []api.Event
		if now == 3 || now == 13 || now == 28 || now == 38 {
			want = append(want, told(api.EventMiss, 0, 0))
		}
		if i := slices.Index([]int{0, 10, 25, 35}, now); i >= 0 {
			want = append(want, told(api.EventRelease, 0, 5+i))
		}
		if now < 14 || now > 24 {
			checkBegin(t, l, now, want...)
		}
	}
	checkJobs(t, l)
}

func TestBeginAtNoTick(t *testing.T) {
	l := start(t, high(regular(1, 1, 1, 1)))
	for _, now := range noTicks {
		checkNoBegin(t, l, now)
		checkJobs(t, l)
	}
	checkBegin(t, l, 0, told(api.EventRelease, 0, 1))
	checkBegin(t, l, api.MaxClock, told(api.EventMiss, 0, 0), told(api.EventRelease, 0, 1))
	want := api.Job{Seq: 1, Prio: 1, Release: api.MaxClock, Deadline: api.MaxClock + 1, Demand: 1}
	checkJobs(t, l, want)
	for _, now := range noTicks {
		checkNoBegin(t, l, now)
		checkJobs(t, l, want)
	}
}

// A job is missed at its deadline, not a tick ahead of it, and goes with what it has used.
func TestMiss(t *testing.T) {
	for _, deadline := range []int{1, 2, 7, 19, 20} {
		for late := range 4 {
			l := start(t, high(due(picked(20, 1, 1, 1), deadline)))
			checkPick(t, l, 0, 9, 40)
			checkBegin(t, l, 40, told(api.EventRelease, 0, 9))
			checkBegin(t, l, 40+deadline-1)
			checkJobs(t, l, api.Job{Prio: 1, Release: 40, Deadline: 40 + deadline, Demand: 9})
			checkBegin(t, l, 40+deadline+late, told(api.EventMiss, 0, 0))
			checkNone(t, l, api.ErrJobsNone)
		}
	}
	for used := range 5 {
		l := start(t, high(due(picked(20, 6, 6, 1), 6)))
		checkPick(t, l, 0, 9, 40)
		checkBegin(t, l, 40, told(api.EventRelease, 0, 9))
		for range used {
			checkRun(t, l, api.Verdict{})
		}
		checkBegin(t, l, 45)
		checkJobs(t, l, api.Job{Prio: 1, Release: 40, Deadline: 46, Demand: 9, Used: used})
		checkBegin(t, l, 46, told(api.EventMiss, 0, used))
		checkNone(t, l, api.ErrJobsNone)
		checkBegin(t, l, 46)
	}
}

// Those that are missed are told in the row of the jobs, not in that of the tasks; those that are not stay.
func TestMissesInTheirRow(t *testing.T) {
	l := start(t, high(
		due(regular(10, 5, 5, 30), 6), due(regular(10, 5, 5, 20), 9),
		due(regular(10, 5, 5, 10), 6), due(regular(10, 5, 5, 40), 5)))
	checkBegin(t, l, 10,
		told(api.EventRelease, 0, 5), told(api.EventRelease, 1, 5),
		told(api.EventRelease, 2, 5), told(api.EventRelease, 3, 5))
	checkRun(t, l, api.Verdict{})
	checkRun(t, l, api.Verdict{})
	checkBegin(t, l, 16, told(api.EventMiss, 2, 2), told(api.EventMiss, 0, 0), told(api.EventMiss, 3, 0))
	checkJobs(t, l, api.Job{Task: 1, Prio: 20, Release: 10, Deadline: 19, Demand: 5})
	checkRun(t, l, api.Verdict{})
	checkBegin(t, l, 19, told(api.EventMiss, 1, 1))
	checkNone(t, l, api.ErrJobsNone)
}

// Misses are told ahead of releases, so that a job's successor finds its place free.
func TestMissesAheadOfReleases(t *testing.T) {
	l := start(t, high(regular(4, 1, 2, 9), regular(6, 3, 3, 8)))
	checkBegin(t, l, 0, told(api.EventRelease, 0, 1), told(api.EventRelease, 1, 3))
	checkRun(t, l, api.Verdict{})
	checkBegin(t, l, 12,
		told(api.EventMiss, 1, 1), told(api.EventMiss, 0, 0), told(api.EventRelease, 0, 1), told(api.EventRelease, 1, 3))
	checkJobs(t, l,
		api.Job{Task: 1, Seq: 1, Prio: 8, Release: 12, Deadline: 18, Demand: 3},
		api.Job{Task: 0, Seq: 1, Prio: 9, Release: 12, Deadline: 16, Demand: 1})
}

// What a new job holds: Seq counts the jobs of its task alone.
func TestRelease(t *testing.T) {
	l := start(t, high(due(regular(3, 1, 1, 200), 2), due(picked(4, 2, 3, 100), 4), due(regular(5, 2, 2, 0), 2)))
	checkPick(t, l, 1, 65535, 30)
	checkBegin(t, l, 30, told(api.EventRelease, 0, 1), told(api.EventRelease, 1, 65535), told(api.EventRelease, 2, 2))
	checkJobs(t, l,
		api.Job{Task: 2, Seq: 0, Prio: 0, Release: 30, Deadline: 32, Demand: 2},
		api.Job{Task: 1, Seq: 0, Prio: 100, Release: 30, Deadline: 34, Demand: 65535},
		api.Job{Task: 0, Seq: 0, Prio: 200, Release: 30, Deadline: 32, Demand: 1})
	checkPick(t, l, 0, 4, 31)
	checkBegin(t, l, 33, told(api.EventMiss, 2, 0), told(api.EventMiss, 0, 0), told(api.EventRelease, 0, 4))
	checkJobs(t, l,
		api.Job{Task: 1, Seq: 0, Prio: 100, Release: 30, Deadline: 34, Demand: 65535},
		api.Job{Task: 0, Seq: 1, Prio: 200, Release: 33, Deadline: 35, Demand: 4})
	checkPick(t, l, 1, 7, 33, told(api.EventDefer, 1, 1))
	checkBegin(t, l, 36,
		told(api.EventMiss, 1, 0), told(api.EventMiss, 0, 0), told(api.EventRelease, 0, 1), told(api.EventRelease, 1, 7))
	checkJobs(t, l,
		api.Job{Task: 1, Seq: 1, Prio: 100, Release: 36, Deadline: 40, Demand: 7},
		api.Job{Task: 0, Seq: 2, Prio: 200, Release: 36, Deadline: 38, Demand: 1})
}

// A job that stands there already comes once: no event tells the other one, and it does not count, but its demand is
// gone.
func TestReleaseTwiceAtOneTick(t *testing.T) {
	l := start(t, low(regular(5, 2, 2, 9)))
	checkBegin(t, l, 10, told(api.EventRelease, 0, 2))
	checkPick(t, l, 0, 7, 10)
	checkPick(t, l, 0, 8, 10)
	checkBegin(t, l, 10)
	one := api.Job{Prio: 9, Release: 10, Deadline: 15, Demand: 2}
	checkJobs(t, l, one)
	checkBegin(t, l, 5, told(api.EventRelease, 0, 8))
	checkJobs(t, l, api.Job{Seq: 1, Prio: 9, Release: 5, Deadline: 10, Demand: 8}, one)
	checkRun(t, l, api.Verdict{})
	checkRun(t, l, api.Verdict{Kill: true}, told(api.EventKill, 0, 2))
	// The place of the one that is gone is free.
	checkBegin(t, l, 5, told(api.EventRelease, 0, 2))
	checkJobs(t, l, api.Job{Seq: 2, Prio: 9, Release: 5, Deadline: 10, Demand: 2}, one)
}

// full answers a schedule whose row is full, each job of another tick: they begin one ahead of the other, so that none
// is missed.
func full(t *testing.T, p api.Part) *jobs.Local {
	t.Helper()
	l := start(t, p)
	for i := range api.MaxJobs {
		checkBegin(t, l, 1000-i, told(api.EventRelease, 0, 1))
	}
	if many := len(l.Jobs()); many != api.MaxJobs {
		t.Fatalf("P14.2: %d jobs", many)
	}
	return l
}

func TestReleaseIntoAFullRow(t *testing.T) {
	l := full(t, high(regular(1, 1, 1, 9)))
	was := l.Jobs()
	checkPick(t, l, 0, 5, 900)
	checkPick(t, l, 0, 6, 900)
	checkPick(t, l, 0, 7, 900)
	checkBegin(t, l, 900)
	checkBegin(t, l, 800)
	checkJobs(t, l, was...)
	checkRun(t, l, api.Verdict{Done: true}, told(api.EventDone, 0, 1))
	checkBegin(t, l, 700, told(api.EventRelease, 0, 7))
	checkJobs(t, l, slices.Concat(
		[]api.Job{{Seq: api.MaxJobs, Prio: 9, Release: 700, Deadline: 701, Demand: 7}}, was[1:])...)
	for i, j := range was {
		if want := (api.Job{Seq: 15 - i, Prio: 9, Release: 985 + i, Deadline: 986 + i, Demand: 1}); j != want {
			t.Errorf("P14.2: job %d is %+v; want %+v", i, j, want)
		}
	}
	// All of a full row may be missed at once.
	l = full(t, high(regular(1, 1, 1, 9)))
	checkBegin(t, l, 2000, slices.Concat(
		slices.Repeat([]api.Event{told(api.EventMiss, 0, 0)}, api.MaxJobs), []api.Event{told(api.EventRelease, 0, 1)})...)
}

// The turn of a picked task is over, though the row refuses its job: the next one has to wait.
func TestTurnsOfARefusedJob(t *testing.T) {
	l := full(t, high(regular(1, 1, 1, 9), picked(8, 1, 1, 5), regular(300, 1, 1, 2)))
	checkPick(t, l, 1, 5, 600)
	checkPick(t, l, 1, 6, 600)
	checkPick(t, l, 2, 7, 600)
	checkBegin(t, l, 600)
	checkFail(t, l, told(api.EventFault, 0, 0))
	checkFail(t, l, told(api.EventFault, 0, 0))
	checkPick(t, l, 1, 8, 601, told(api.EventDefer, 1, 7))
	checkBegin(t, l, 607, told(api.EventRelease, 0, 1))
	checkBegin(t, l, 608, told(api.EventMiss, 0, 0), told(api.EventRelease, 0, 1), told(api.EventRelease, 1, 6))
	if got, want := l.Jobs()[0], (api.Job{Task: 1, Prio: 5, Release: 608, Deadline: 616, Demand: 6}); got != want {
		t.Errorf("P14.2: the first job is %+v; want %+v", got, want)
	}
	checkFail(t, l, told(api.EventFault, 1, 0))
	checkFail(t, l, told(api.EventFault, 0, 0))
	checkBegin(t, l, 300, told(api.EventRelease, 0, 1), told(api.EventRelease, 2, 1))
	if got, want := l.Jobs()[0], (api.Job{Task: 2, Prio: 2, Release: 300, Deadline: 600, Demand: 1}); got != want {
		t.Errorf("P14.2: the first job is %+v; want %+v", got, want)
	}
}

// Of the tasks that come at one tick those ahead take what room there is.
func TestRoomGoesToTheTasksAhead(t *testing.T) {
	l := full(t, high(regular(1, 1, 1, 9), regular(300, 1, 1, 2), regular(300, 1, 1, 1)))
	checkFail(t, l, told(api.EventFault, 0, 0))
	checkFail(t, l, told(api.EventFault, 0, 0))
	checkBegin(t, l, 600, told(api.EventRelease, 0, 1), told(api.EventRelease, 1, 1))
	checkFail(t, l, told(api.EventFault, 1, 0))
	checkFail(t, l, told(api.EventFault, 0, 0))
	checkBegin(t, l, 300, told(api.EventRelease, 0, 1), told(api.EventRelease, 1, 1))
	checkFail(t, l, told(api.EventFault, 1, 0))
	checkBegin(t, l, 0, told(api.EventRelease, 0, 1))
}

func TestReady(t *testing.T) {
	l := start(t, high(due(regular(10, 2, 2, 1), 5)))
	for now := range 40 {
		checkBegin(t, l, now, map[int][]api.Event{
			0: {told(api.EventRelease, 0, 2)}, 10: {told(api.EventRelease, 0, 2)}, 20: {told(api.EventRelease, 0, 2)},
			30: {told(api.EventRelease, 0, 2)}, 15: {told(api.EventMiss, 0, 1)}, 25: {told(api.EventMiss, 0, 0)},
		}[now]...)
		switch now {
		case 0, 11:
			checkRun(t, l, api.Verdict{})
		case 1:
			checkRun(t, l, api.Verdict{Done: true}, told(api.EventDone, 0, 2))
		case 33:
			checkFail(t, l, told(api.EventFault, 0, 0))
		}
		want := now == 0 || now >= 10 && now < 15 || now >= 20 && now < 25 || now >= 30 && now < 33
		if l.Ready() != want {
			t.Errorf("P14.2: Ready() = %t at %d", l.Ready(), now)
		}
	}
}

// The least Prio runs first, whenever its job came; of one task the job that came at the earlier tick.
func TestRunTheFirst(t *testing.T) {
	l := start(t, high(regular(10, 2, 2, 7), picked(10, 2, 2, 3), picked(10, 2, 2, 5)))
	checkBegin(t, l, 0, told(api.EventRelease, 0, 2))
	checkRun(t, l, api.Verdict{})
	checkPick(t, l, 2, 2, 1)
	checkBegin(t, l, 1, told(api.EventRelease, 2, 2))
	checkRun(t, l, api.Verdict{})
	checkPick(t, l, 1, 1, 2)
	checkBegin(t, l, 2, told(api.EventRelease, 1, 1))
	checkJobs(t, l,
		api.Job{Task: 1, Prio: 3, Release: 2, Deadline: 12, Demand: 1},
		api.Job{Task: 2, Prio: 5, Release: 1, Deadline: 11, Demand: 2, Used: 1},
		api.Job{Task: 0, Prio: 7, Release: 0, Deadline: 10, Demand: 2, Used: 1})
	checkRun(t, l, api.Verdict{Done: true}, told(api.EventDone, 1, 1))
	checkRun(t, l, api.Verdict{Done: true}, told(api.EventDone, 2, 2))
	checkRun(t, l, api.Verdict{Done: true}, told(api.EventDone, 0, 2))
	checkNone(t, l, api.ErrJobsNone)
	l = start(t, high(regular(1, 1, 1, 7)))
	checkPick(t, l, 0, 3, 0)
	checkBegin(t, l, 6, told(api.EventRelease, 0, 3))
	checkBegin(t, l, 5, told(api.EventRelease, 0, 1))
	checkRun(t, l, api.Verdict{Done: true}, told(api.EventDone, 0, 1))
	checkRun(t, l, api.Verdict{Over: true, Kill: true}, told(api.EventOver, 0, 1), told(api.EventKill, 0, 1))
}

// ran answers what running a job of demand of task 0 does, tick by tick, till it is gone.
func ran(t *testing.T, l *jobs.Local, demand int) ([]api.Verdict, []api.Event) {
	t.Helper()
	l.Pick(0, demand, 0)
	l.Begin(0)
	var verdicts []api.Verdict
	var events []api.Event
	for used := 1; used <= demand && l.Ready(); used++ {
		v, es, err := l.Run()
		if err != api.OK || l.Ready() != (!v.Done && !v.Kill) || l.Ready() && l.Jobs()[0].Used != used {
			t.Errorf("P14.3: tick %d: %+v, %d; %+v", used, v, err, l.Jobs())
		}
		verdicts, events = append(verdicts, v), append(events, es...)
	}
	checkNone(t, l, api.ErrJobsNone)
	return verdicts, events
}

// Over, done and killed, each alone, and over and killed at once, at either level.
func TestVerdicts(t *testing.T) {
	over, done, kill := api.Verdict{Over: true}, api.Verdict{Done: true}, api.Verdict{Kill: true}
	both, none := api.Verdict{Over: true, Kill: true}, api.Verdict{}
	for i, c := range []struct {
		part     api.Part
		demand   int
		verdicts []api.Verdict
		events   []api.Event
	}{
		{high(regular(10, 2, 4, 1)), 1, []api.Verdict{done}, []api.Event{told(api.EventDone, 0, 1)}},
		{high(regular(10, 2, 4, 1)), 2, []api.Verdict{none, done}, []api.Event{told(api.EventDone, 0, 2)}},
		{high(regular(10, 2, 4, 1)), 3, []api.Verdict{none, over, done},
			[]api.Event{told(api.EventOver, 0, 2), told(api.EventDone, 0, 3)}},
		{high(picked(10, 2, 4, 1)), 4, []api.Verdict{none, over, none, done},
			[]api.Event{told(api.EventOver, 0, 2), told(api.EventDone, 0, 4)}},
		{high(regular(10, 2, 4, 1)), 5, []api.Verdict{none, over, none, kill},
			[]api.Event{told(api.EventOver, 0, 2), told(api.EventKill, 0, 4)}},
		{high(regular(10, 2, 4, 1)), 65535, []api.Verdict{none, over, none, kill},
			[]api.Event{told(api.EventOver, 0, 2), told(api.EventKill, 0, 4)}},
		{high(regular(10, 2, 2, 1)), 2, []api.Verdict{none, done}, []api.Event{told(api.EventDone, 0, 2)}},
		{high(regular(10, 2, 2, 1)), 3, []api.Verdict{none, both},
			[]api.Event{told(api.EventOver, 0, 2), told(api.EventKill, 0, 2)}},
		{high(picked(10, 1, 1, 1)), 65535, []api.Verdict{both},
			[]api.Event{told(api.EventOver, 0, 1), told(api.EventKill, 0, 1)}},
		{low(regular(10, 2, 2, 1)), 1, []api.Verdict{done}, []api.Event{told(api.EventDone, 0, 1)}},
		{low(regular(10, 2, 2, 1)), 2, []api.Verdict{none, done}, []api.Event{told(api.EventDone, 0, 2)}},
		{low(picked(10, 2, 2, 1)), 3, []api.Verdict{none, kill}, []api.Event{told(api.EventKill, 0, 2)}},
		{low(regular(10, 1, 1, 1)), 65535, []api.Verdict{kill}, []api.Event{told(api.EventKill, 0, 1)}},
	} {
		verdicts, events := ran(t, start(t, c.part), c.demand)
		if !slices.Equal(verdicts, c.verdicts) || !slices.Equal(events, c.events) {
			t.Errorf("P14.3: row %d: %+v, %+v", i, verdicts, events)
		}
	}
}

// A job is charged by its own task's budgets.
func TestBudgetsOfItsTask(t *testing.T) {
	l := start(t, high(regular(20, 1, 2, 9), regular(20, 3, 5, 4), regular(20, 2, 6, 6)))
	for i := range 3 {
		checkPick(t, l, i, 99, 0)
	}
	l.Begin(0)
	var events []api.Event
	for range 13 {
		_, es, _ := l.Run()
		events = append(events, es...)
	}
	if want := []api.Event{
		told(api.EventOver, 1, 3), told(api.EventKill, 1, 5), told(api.EventOver, 2, 2), told(api.EventKill, 2, 6),
		told(api.EventOver, 0, 1), told(api.EventKill, 0, 2),
	}; !slices.Equal(events, want) {
		t.Errorf("P14.3: %+v; want %+v", events, want)
	}
	checkNone(t, l, api.ErrJobsNone)
}

func TestFail(t *testing.T) {
	l := start(t, high(regular(10, 4, 4, 7), regular(10, 4, 4, 3)))
	checkBegin(t, l, 0, told(api.EventRelease, 0, 4), told(api.EventRelease, 1, 4))
	checkRun(t, l, api.Verdict{})
	checkRun(t, l, api.Verdict{})
	checkFail(t, l, told(api.EventFault, 1, 2))
	checkJobs(t, l, api.Job{Task: 0, Prio: 7, Deadline: 10, Demand: 4})
	checkFail(t, l, told(api.EventFault, 0, 0))
	checkNone(t, l, api.ErrJobsNone)
	// Those that failed count.
	checkBegin(t, l, 10, told(api.EventRelease, 0, 4), told(api.EventRelease, 1, 4))
	checkJobs(t, l,
		api.Job{Task: 1, Seq: 1, Prio: 3, Release: 10, Deadline: 20, Demand: 4},
		api.Job{Task: 0, Seq: 1, Prio: 7, Release: 10, Deadline: 20, Demand: 4})
}

// A nil schedule answers ErrNil, and else zero values, whatever it is handed (R3).
func TestNil(t *testing.T) {
	var none *jobs.Local
	for _, n := range []int{0, 1, -1, math.MinInt, math.MaxInt} {
		if es, err := none.Pick(n, n, n); len(es) != 0 || err != api.ErrNil {
			t.Errorf("R3: Pick(%d, %d, %d) = %+v, %d", n, n, n, es, err)
		}
		if es, err := none.Begin(n); len(es) != 0 || err != api.ErrNil {
			t.Errorf("R3: Begin(%d) = %+v, %d", n, es, err)
		}
	}
	checkNone(t, none, api.ErrNil)
}

// A schedule that New did not make is one of a part without tasks (R1).
func TestZero(t *testing.T) {
	var l jobs.Local
	checkNoPick(t, &l, 0, 1, 0, api.ErrJobsForm)
	checkBegin(t, &l, 0)
	checkNone(t, &l, api.ErrJobsNone)
}

// The part that is handed in stays as it was, and is not kept (R4).
func TestPartIsNotKept(t *testing.T) {
	room := []api.Task{regular(10, 2, 3, 1), picked(10, 2, 3, 2), regular(7, 1, 1, 99), picked(3, 1, 1, 98)}
	prog := []api.Instr{{Op: api.OpConst, Arg: 7}, {Op: api.OpHalt}}
	was, wasProg := slices.Clone(room), slices.Clone(prog)
	p := api.Part{Level: api.High, Tasks: room[:2], Code: prog}
	l, other := start(t, p), start(t, p)
	step := func(l *jobs.Local) {
		checkPick(t, l, 1, 4, 0)
		checkBegin(t, l, 0, told(api.EventRelease, 0, 2), told(api.EventRelease, 1, 4))
		checkRun(t, l, api.Verdict{})
		checkRun(t, l, api.Verdict{Done: true}, told(api.EventDone, 0, 2))
		checkFail(t, l, told(api.EventFault, 1, 0))
		checkNoPick(t, l, 2, 1, 0, api.ErrJobsForm)
	}
	step(l)
	if !slices.Equal(room, was) || !slices.Equal(prog, wasProg) || p.Level != api.High || len(p.Tasks) != 2 {
		t.Fatalf("R4: the part is %+v", p)
	}
	if !code.May(prog) {
		t.Fatalf("R4: %+v", prog)
	}
	clear(room)
	clear(prog)
	step(other)
	if slices.ContainsFunc(room, func(x api.Task) bool { return x != api.Task{} }) {
		t.Fatalf("R4: %+v", room)
	}
}

// spoil changes all of a list, its spare room too.
func spoil[T any](list []T, by T) {
	list = list[:cap(list)]
	for i := range list {
		list[i] = by
	}
}

// Whatever is done to an answer, no later answer tells it (R4).
func TestAnswersAreNotKept(t *testing.T) {
	p := high(due(picked(6, 1, 2, 1), 3), regular(4, 2, 3, 2), due(regular(5, 1, 2, 3), 2))
	l, other := start(t, p), start(t, p)
	noEvent := api.Event{Kind: -7, Part: -7, Task: -7, Value: -7}
	noJob := api.Job{Task: -7, Prio: -7, Deadline: -7, Used: -7}
	same := func(a []api.Event, b []api.Event) {
		t.Helper()
		if !slices.Equal(a, b) {
			t.Fatalf("R4: %+v, %+v", a, b)
		}
		spoil(a, noEvent)
	}
	both := func(a *jobs.Local, b *jobs.Local, do func(l *jobs.Local) []api.Event) { t.Helper(); same(do(a), do(b)) }
	for now := range 200 {
		both(l, other, func(l *jobs.Local) []api.Event { es, _ := l.Pick(0, 1+now%3, now); return es })
		both(l, other, func(l *jobs.Local) []api.Event { es, _ := l.Begin(now); return es })
		mine := l.Jobs()
		if !slices.Equal(mine, other.Jobs()) {
			t.Fatalf("R4: %+v, %+v", mine, other.Jobs())
		}
		spoil(mine, noJob)
		if now%7 == 3 {
			both(l, other, func(l *jobs.Local) []api.Event { es, _ := l.Fail(); return es })
		}
		both(l, other, func(l *jobs.Local) []api.Event { _, es, _ := l.Run(); return es })
	}
}

// An answer stays as it was, whatever the schedule does later; two answers are apart (R4).
func TestAnswersStay(t *testing.T) {
	l := start(t, high(regular(10, 2, 4, 1), regular(10, 2, 4, 2)))
	begun, _ := l.Begin(0)
	first, second := l.Jobs(), l.Jobs()
	wasBegun, was := slices.Clone(begun), slices.Clone(first)
	l.Run()
	l.Run()
	l.Pick(0, 3, 3)
	l.Begin(10)
	l.Fail()
	l.Begin(20)
	if !slices.Equal(begun, wasBegun) || !slices.Equal(first, was) || !slices.Equal(second, was) {
		t.Fatalf("R4: %+v, %+v, %+v", begun, first, second)
	}
	spoil(first, api.Job{})
	if !slices.Equal(second, was) {
		t.Fatalf("R4: %+v", second)
	}
}
