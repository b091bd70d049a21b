package ready_test

import (
	"cmp"
	"math"
	"slices"
	"sync"
	"testing"

	"nocturn/api"
	"nocturn/ready"
)

// base is a job that may be.
var base = api.Job{Task: 2, Seq: 4, Prio: 7, Release: 50, Deadline: 60, Demand: 5, Used: 3}

// with answers a job that is turned by change.
func with(j api.Job, change func(j *api.Job)) api.Job {
	change(&j)
	return j
}

// at answers a job by what it stands by; what else it has hangs on that.
func at(prio int, release int, task int) api.Job {
	return api.Job{
		Task: task, Seq: release + 3, Prio: prio, Release: release,
		Deadline: release + 10 + task, Demand: 9 + task, Used: prio % 9,
	}
}

// ladder answers many jobs of one task at one tick, by Prio: 10, 12, 14..
func ladder(many int) []api.Job {
	js := make([]api.Job, many)
	for i := range js {
		js[i] = at(10+2*i, 40, 1)
	}
	return js
}

// edgeJobs answers, of each part of a job, those that lie just within its edges.
func edgeJobs() []api.Job {
	return []api.Job{
		base,
		{Deadline: 1, Demand: 1},
		{
			Task: 5, Seq: math.MaxInt, Prio: 255, Release: api.MaxClock, Deadline: api.MaxClock + 1,
			Demand: 65535, Used: 65534,
		},
		with(base, func(j *api.Job) { j.Task = 0 }), with(base, func(j *api.Job) { j.Task = 5 }),
		with(base, func(j *api.Job) { j.Seq = 0 }), with(base, func(j *api.Job) { j.Seq = math.MaxInt }),
		with(base, func(j *api.Job) { j.Prio = 0 }), with(base, func(j *api.Job) { j.Prio = 255 }),
		with(base, func(j *api.Job) { j.Release = 0 }), with(base, func(j *api.Job) { j.Release = 59 }),
		with(base, func(j *api.Job) { j.Release, j.Deadline = api.MaxClock, api.MaxClock+1 }),
		with(base, func(j *api.Job) { j.Deadline = 51 }), with(base, func(j *api.Job) { j.Deadline = math.MaxInt }),
		with(base, func(j *api.Job) { j.Demand = 4 }), with(base, func(j *api.Job) { j.Demand = 65535 }),
		with(base, func(j *api.Job) { j.Demand, j.Used = 1, 0 }),
		with(base, func(j *api.Job) { j.Demand, j.Used = 65535, 65534 }),
		with(base, func(j *api.Job) { j.Used = 0 }), with(base, func(j *api.Job) { j.Used = 4 }),
	}
}

// wrongJobs answers, of each part of a job, those that lie just behind its edges, each wrong in that part alone.
func wrongJobs() []api.Job {
	return []api.Job{
		{}, {Demand: 1}, {Deadline: 1},
		with(base, func(j *api.Job) { j.Task = -1 }), with(base, func(j *api.Job) { j.Task = 6 }),
		with(base, func(j *api.Job) { j.Task = 258 }), with(base, func(j *api.Job) { j.Task = math.MinInt }),
		with(base, func(j *api.Job) { j.Task = math.MaxInt }),
		with(base, func(j *api.Job) { j.Seq = -1 }), with(base, func(j *api.Job) { j.Seq = math.MinInt }),
		with(base, func(j *api.Job) { j.Prio = -1 }), with(base, func(j *api.Job) { j.Prio = 256 }),
		with(base, func(j *api.Job) { j.Prio = 1<<32 + 7 }), with(base, func(j *api.Job) { j.Prio = math.MinInt }),
		with(base, func(j *api.Job) { j.Release = -1 }), with(base, func(j *api.Job) { j.Release = math.MinInt }),
		with(base, func(j *api.Job) { j.Release, j.Deadline = api.MaxClock+1, api.MaxClock+2 }),
		with(base, func(j *api.Job) { j.Release, j.Deadline = math.MaxInt-1, math.MaxInt }),
		with(base, func(j *api.Job) { j.Deadline = 50 }), with(base, func(j *api.Job) { j.Deadline = 49 }),
		with(base, func(j *api.Job) { j.Release, j.Deadline = 0, 0 }),
		with(base, func(j *api.Job) { j.Deadline = math.MinInt }),
		with(base, func(j *api.Job) { j.Demand, j.Used = 0, 0 }), with(base, func(j *api.Job) { j.Demand, j.Used = 0, -1 }),
		with(base, func(j *api.Job) { j.Demand, j.Used = -1, -2 }), with(base, func(j *api.Job) { j.Demand = 65536 }),
		with(base, func(j *api.Job) { j.Demand = 1<<32 + 5 }), with(base, func(j *api.Job) { j.Demand = math.MaxInt }),
		with(base, func(j *api.Job) { j.Used = -1 }), with(base, func(j *api.Job) { j.Used = math.MinInt }),
		with(base, func(j *api.Job) { j.Used = 5 }), with(base, func(j *api.Job) { j.Used = 6 }),
		with(base, func(j *api.Job) { j.Used = math.MaxInt }),
	}
}

// fallingPairs answers jobs that may be and stand the wrong way round, or are the same in all three.
func fallingPairs() [][]api.Job {
	same := with(base, func(j *api.Job) { j.Seq, j.Deadline, j.Demand, j.Used = 5, 61, 6, 4 })
	return [][]api.Job{
		{base, base}, {base, same}, {same, base},
		{at(8, 50, 2), at(7, 50, 2)}, {at(7, 51, 2), at(7, 50, 2)}, {at(7, 50, 3), at(7, 50, 2)},
		{at(8, 0, 0), at(7, 50, 2)}, {at(7, 51, 0), at(7, 50, 2)}, {at(255, 0, 0), at(0, 99, 5)},
		{at(8, 50, 2), at(7, 50, 3)}, {at(7, 51, 2), at(7, 50, 3)}, {at(0, 99, 0), at(0, 0, 5)},
	}
}

// byPrio answers jobs by their Prio, so that nothing but a job that is wrong is wrong in them.
func byPrio(js ...api.Job) []api.Job {
	slices.SortFunc(js, func(a, b api.Job) int { return cmp.Compare(a.Prio, b.Prio) })
	return js
}

// wrongRows answers rows that may not be, each for one reason.
func wrongRows() [][]api.Job {
	rows := [][]api.Job{ladder(17), ladder(18), slices.Repeat([]api.Job{base}, 5000), make([]api.Job, 3)}
	front, back := at(1, 40, 1), at(200, 40, 1)
	for _, j := range wrongJobs() {
		rows = append(rows, []api.Job{j}, byPrio(j, back), byPrio(front, j), byPrio(front, j, back))
	}
	for _, pair := range fallingPairs() {
		rows = append(rows, pair, append(slices.Clone(pair), at(255, 99, 5)))
		if pair[0].Prio > 0 && pair[1].Prio > 0 {
			rows = append(rows, append([]api.Job{at(0, 0, 0)}, pair...))
		}
	}
	return rows
}

// checkPut asks for a job to be put.
func checkPut(t *testing.T, js []api.Job, j api.Job, want []api.Job) {
	t.Helper()
	if got, err := ready.Put(js, j); !slices.Equal(got, want) || err != api.OK {
		t.Errorf("P12.1: Put(%+v, %+v) = %+v, %d; want %+v", js, j, got, err, want)
	}
}

// checkNoPut asks for a job that is not put: nothing stands beside the error (R2).
func checkNoPut(t *testing.T, js []api.Job, j api.Job, want api.Errno) {
	t.Helper()
	if got, err := ready.Put(js, j); len(got) != 0 || err != want {
		t.Errorf("P12.1: Put(%+v, %+v) = %+v, %d; want error %d", js, j, got, err, want)
	}
}

// checkNoFirst asks for the first job, which there is not: nothing stands beside the false (R2).
func checkNoFirst(t *testing.T, js []api.Job) {
	t.Helper()
	if got, is := ready.First(js); got != (api.Job{}) || is {
		t.Errorf("P12.1: First(%+v) = %+v, %t; want none", js, got, is)
	}
}

// checkMissed asks which jobs are left and which are late.
func checkMissed(t *testing.T, js []api.Job, now int, left []api.Job, late []api.Job) {
	t.Helper()
	if a, b := ready.Missed(js, now); !slices.Equal(a, left) || !slices.Equal(b, late) {
		t.Errorf("P12.2: Missed(%+v, %d) = %+v, %+v; want %+v, %+v", js, now, a, b, left, late)
	}
}

func TestMayOfOne(t *testing.T) {
	for _, j := range edgeJobs() {
		if !ready.May([]api.Job{j}) {
			t.Errorf("P12.1: May of %+v is false", j)
		}
	}
	for _, j := range wrongJobs() {
		if ready.May([]api.Job{j}) {
			t.Errorf("P12.1: May of %+v is true", j)
		}
	}
}

func TestMayOfMany(t *testing.T) {
	for _, js := range [][]api.Job{
		nil, {}, ladder(2), ladder(15), ladder(16),
		{at(7, 50, 2), at(8, 50, 2)}, {at(7, 50, 2), at(7, 51, 2)}, {at(7, 50, 2), at(7, 50, 3)},
		{at(7, 50, 5), at(7, 51, 0), at(8, 0, 0)}, {at(0, 99, 5), at(255, 0, 0)},
		{at(7, 9, 0), at(7, 9, 1), at(7, 9, 2), at(7, 9, 3), at(7, 9, 4), at(7, 9, 5)},
		// What jobs do not stand by may fall, and may be the same.
		{api.Job{Seq: 9, Deadline: 9, Demand: 9, Used: 8}, api.Job{Prio: 1, Deadline: 1, Demand: 1}},
		{api.Job{Deadline: 9, Demand: 9}, api.Job{Task: 1, Deadline: 9, Demand: 9}},
	} {
		if !ready.May(js) {
			t.Errorf("P12.1: May(%+v) is false", js)
		}
	}
	for _, js := range wrongRows() {
		if ready.May(js) {
			t.Errorf("P12.1: May(%+v) is true", js)
		}
	}
}

func TestPutAtItsPlace(t *testing.T) {
	for _, j := range edgeJobs() {
		checkPut(t, nil, j, []api.Job{j})
		checkPut(t, []api.Job{}, j, []api.Job{j})
	}
	for many := range 16 {
		js := ladder(many)
		for i := range many + 1 {
			j := at(9+2*i, 40, 1)
			checkPut(t, js, j, slices.Insert(slices.Clone(js), i, j))
		}
	}
}

// By Prio alone, whatever the rest; by Release, where Prio is the same; by Task, where both are.
func TestPutOfAlike(t *testing.T) {
	js := []api.Job{at(3, 60, 4), at(7, 50, 2), at(9, 40, 0)}
	for _, x := range []struct {
		j    api.Job
		back int
	}{
		{at(2, 99, 5), 0}, {at(3, 59, 5), 0}, {at(3, 60, 3), 0}, {at(3, 60, 5), 1}, {at(3, 61, 0), 1}, {at(4, 0, 0), 1},
		{at(6, 99, 5), 1}, {at(7, 0, 5), 1}, {at(7, 49, 5), 1}, {at(7, 50, 0), 1}, {at(7, 50, 1), 1},
		{at(7, 50, 3), 2}, {at(7, 50, 5), 2}, {at(7, 51, 0), 2}, {at(7, 99, 1), 2}, {at(8, 0, 0), 2},
		{at(9, 39, 5), 2}, {at(9, 40, 1), 3}, {at(9, 41, 0), 3}, {at(10, 0, 0), 3}, {at(255, 0, 0), 3}, {at(0, 99, 5), 0},
	} {
		checkPut(t, js, x.j, slices.Insert(slices.Clone(js), x.back, x.j))
	}
}

func TestPutOfWhatMayNotBe(t *testing.T) {
	full := ladder(16)
	for _, j := range wrongJobs() {
		checkNoPut(t, nil, j, api.ErrReadyForm)
		checkNoPut(t, ladder(3), j, api.ErrReadyForm)
		checkNoPut(t, full, j, api.ErrReadyForm)
	}
	for _, js := range wrongRows() {
		checkNoPut(t, js, at(200, 40, 1), api.ErrReadyForm)
		checkNoPut(t, js, at(0, 9, 1), api.ErrReadyForm)
	}
}

// A job is in the row already when it is the same in all three, whatever else it has.
func TestPutOfTheSame(t *testing.T) {
	for many := range 17 {
		js := ladder(many)
		for _, j := range js {
			checkNoPut(t, js, j, api.ErrReadyForm)
			checkNoPut(t, js, with(j, func(j *api.Job) { j.Seq++ }), api.ErrReadyForm)
			checkNoPut(t, js, with(j, func(j *api.Job) { j.Deadline++ }), api.ErrReadyForm)
			checkNoPut(t, js, with(j, func(j *api.Job) { j.Demand++ }), api.ErrReadyForm)
			checkNoPut(t, js, with(j, func(j *api.Job) { j.Used = 0 }), api.ErrReadyForm)
		}
	}
}

// ErrReadyForm goes ahead of ErrReadyFull (R6).
func TestPutOfFull(t *testing.T) {
	full := ladder(16)
	for i := range 17 {
		checkNoPut(t, full, at(9+2*i, 40, 1), api.ErrReadyFull)
	}
	for _, j := range edgeJobs() {
		checkNoPut(t, full, j, api.ErrReadyFull)
	}
	checkNoPut(t, full, full[15], api.ErrReadyForm)
	checkNoPut(t, full, api.Job{}, api.ErrReadyForm)
	checkNoPut(t, ladder(17), at(9, 40, 1), api.ErrReadyForm)
	checkNoPut(t, append(ladder(15), base), at(9, 40, 1), api.ErrReadyForm)
	checkPut(t, full[:15], full[15], full)
	checkPut(t, full[1:], full[0], full)
}

func TestFirst(t *testing.T) {
	rows := [][]api.Job{ladder(2), ladder(16), {at(7, 50, 2), at(7, 50, 3)}, {at(0, 99, 5), at(255, 0, 0)}}
	for _, j := range edgeJobs() {
		rows = append(rows, []api.Job{j})
	}
	for _, js := range rows {
		if got, is := ready.First(js); got != js[0] || !is {
			t.Errorf("P12.1: First(%+v) = %+v, %t", js, got, is)
		}
	}
	checkNoFirst(t, nil)
	checkNoFirst(t, []api.Job{})
	for _, js := range wrongRows() {
		checkNoFirst(t, js)
	}
}

// A job is late from its Deadline on.
func TestMissedOfOne(t *testing.T) {
	for _, j := range edgeJobs() {
		js := []api.Job{j}
		checkMissed(t, js, j.Deadline-1, js, nil)
		checkMissed(t, js, j.Deadline, nil, js)
		checkMissed(t, js, math.MaxInt, nil, js)
		checkMissed(t, js, math.MinInt, js, nil)
		checkMissed(t, js, -1, js, nil)
		checkMissed(t, js, 0, js, nil)
		if j.Deadline < math.MaxInt {
			checkMissed(t, js, j.Deadline+1, nil, js)
		}
	}
	checkMissed(t, nil, 0, nil, nil)
	checkMissed(t, []api.Job{}, math.MaxInt, nil, nil)
}

// Both lists are in the row's order, which is not that of the Deadlines.
func TestMissedOfMany(t *testing.T) {
	var js []api.Job
	for i, deadline := range []int{90, 60, 80, 60, 70, 90} {
		js = append(js, api.Job{Task: 5 - i, Prio: i, Release: 50, Deadline: deadline, Demand: 1})
	}
	checkMissed(t, js, 59, js, nil)
	checkMissed(t, js, 60, []api.Job{js[0], js[2], js[4], js[5]}, []api.Job{js[1], js[3]})
	checkMissed(t, js, 69, []api.Job{js[0], js[2], js[4], js[5]}, []api.Job{js[1], js[3]})
	checkMissed(t, js, 70, []api.Job{js[0], js[2], js[5]}, []api.Job{js[1], js[3], js[4]})
	checkMissed(t, js, 80, []api.Job{js[0], js[5]}, []api.Job{js[1], js[2], js[3], js[4]})
	checkMissed(t, js, 89, []api.Job{js[0], js[5]}, []api.Job{js[1], js[2], js[3], js[4]})
	checkMissed(t, js, 90, nil, js)
	for many := range 17 {
		checkMissed(t, ladder(many), 50, ladder(many), nil)
		checkMissed(t, ladder(many), 51, nil, ladder(many))
	}
}

func TestMissedOfWhatMayNotBe(t *testing.T) {
	for _, js := range wrongRows() {
		for _, now := range []int{math.MinInt, 0, 50, 60, math.MaxInt} {
			checkMissed(t, js, now, nil, nil)
		}
	}
}

// small answers the i-th of the 18 jobs that have a Prio of 3, a Release of 2, and a Task of 3.
func small(i int) api.Job {
	return api.Job{Prio: i % 3, Release: i / 3 % 2, Task: i / 6, Deadline: 2 + i%4, Demand: 1}
}

// ahead answers, by the chapter's words, whether a stands ahead of b.
func ahead(a api.Job, b api.Job) bool {
	if a.Prio != b.Prio {
		return a.Prio < b.Prio
	}
	if a.Release != b.Release {
		return a.Release < b.Release
	}
	return a.Task < b.Task
}

// Each small row of three jobs, and each job that is put into it, against the chapter's words.
func TestSmallRows(t *testing.T) {
	for i := range 18 * 18 * 18 {
		js := []api.Job{small(i % 18), small(i / 18 % 18), small(i / 324)}
		rises := ahead(js[0], js[1]) && ahead(js[1], js[2])
		if ready.May(js) != rises {
			t.Errorf("P12.1: May(%+v) is %t", js, !rises)
		}
		j := small(i % 7 * 2)
		if !rises || slices.Contains(js, j) {
			checkNoPut(t, js, j, api.ErrReadyForm)
			continue
		}
		var front, back, left, late []api.Job
		for _, x := range js {
			if ahead(x, j) {
				front = append(front, x)
			} else {
				back = append(back, x)
			}
			if x.Deadline > 3 {
				left = append(left, x)
			} else {
				late = append(late, x)
			}
		}
		checkPut(t, js, j, slices.Concat(front, []api.Job{j}, back))
		checkMissed(t, js, 3, left, late)
	}
}

// Jobs that are put one behind the other stand in one row, in whatever order they come.
func TestPutsInAnyOrder(t *testing.T) {
	want := []api.Job{
		at(0, 9, 5), at(1, 0, 0), at(1, 0, 1), at(1, 2, 0), at(1, 2, 4), at(2, 0, 3), at(2, 1, 2), at(2, 1, 3),
		at(5, 5, 5), at(6, 1, 1), at(6, 1, 2), at(6, 3, 0), at(200, 0, 0), at(255, 7, 0), at(255, 7, 1), at(255, 8, 0),
	}
	for step := 1; step < 16; step += 2 {
		for start := range 16 {
			var js []api.Job
			for i := range 16 {
				js, _ = ready.Put(js, want[(start+i*step)%16])
			}
			if !slices.Equal(js, want) {
				t.Errorf("P12.1: puts from %d on by %d: %+v", start, step, js)
			}
		}
	}
}

// roomy answers many jobs, behind which there is spare room, and all of that room.
func roomy(many int) ([]api.Job, []api.Job) {
	room := ladder(22)
	return room[:many], room
}

// answers asks of js each thing, and answers all the lists that are told.
func answers(js []api.Job) [][]api.Job {
	var told [][]api.Job
	for _, prio := range []int{9, 11, 25, 99} {
		for range 2 {
			put, _ := ready.Put(js, at(prio, 40, 1))
			told = append(told, put)
		}
	}
	for _, now := range []int{40, 50, 51, 52} {
		left, late := ready.Missed(js, now)
		told = append(told, left, late)
	}
	ready.May(js)
	ready.First(js)
	return told
}

// same answers whether lists of lists are the same; an empty list and nil are one.
func same(a [][]api.Job, b [][]api.Job) bool {
	return slices.EqualFunc(a, b, func(a []api.Job, b []api.Job) bool { return slices.Equal(a, b) })
}

// copied answers the lists in memory of their own.
func copied(lists [][]api.Job) [][]api.Job {
	own := make([][]api.Job, len(lists))
	for i, one := range lists {
		own[i] = slices.Clone(one)
	}
	return own
}

// mixed answers many jobs with spare room, every other one of which is late at 51.
func mixed(many int) ([]api.Job, []api.Job) {
	js, room := roomy(many)
	for i := range room {
		room[i].Deadline += i % 2
	}
	return js, room
}

// What is handed in stays, its spare room too (R4).
func TestArgumentsStay(t *testing.T) {
	for many := range 18 {
		js, room := mixed(many)
		kept := slices.Clone(room)
		answers(js)
		if !slices.Equal(room, kept) {
			t.Errorf("R4: %+v; was %+v", room, kept)
		}
	}
}

// What is answered shares no memory with what is handed in, with another answer, nor with its twin (R4).
func TestAnswersAreApart(t *testing.T) {
	for many := range 18 {
		js, room := mixed(many)
		kept := slices.Clone(room)
		told := answers(js)
		for i, one := range told {
			want := copied(told[i+1:])
			all := one[:cap(one)]
			for j := range all {
				all[j] = base
			}
			if !slices.Equal(room, kept) || !same(told[i+1:], want) {
				t.Fatalf("R4: %d jobs: answer %d shares its memory", many, i)
			}
		}
	}
}

// An answer stays what it is when what was handed in is turned afterwards (R4).
func TestAnswersStay(t *testing.T) {
	for many := range 17 {
		js, room := mixed(many)
		told := answers(js)
		want := copied(told)
		for i := range room {
			room[i] = base
		}
		if !same(told, want) {
			t.Errorf("R4: %+v; was %+v", told, want)
		}
	}
}

// What lies behind a row's length is no job, nor one that may be wrong (R5).
func TestSpareRoomIsNoJob(t *testing.T) {
	for many := range 17 {
		js, room := roomy(many)
		for i := many; i < len(room); i++ {
			room[i] = api.Job{Prio: -1}
		}
		if !ready.May(js) {
			t.Errorf("R5: May(%+v) is false", js)
		}
		checkMissed(t, js, 50, ladder(many), nil)
		if many == api.MaxJobs {
			checkNoPut(t, js, at(9, 40, 1), api.ErrReadyFull)
			continue
		}
		checkPut(t, js, at(9, 40, 1), slices.Concat([]api.Job{at(9, 40, 1)}, ladder(many)))
	}
	checkNoFirst(t, ladder(3)[:0])
}

// A call hangs on nothing but what it is handed: not on another call, not on one that runs beside it (R5).
func TestCallsBesideEachOther(t *testing.T) {
	var want [18][][]api.Job
	for many := range want {
		js, _ := mixed(many)
		want[many] = answers(js)
	}
	shared, _ := mixed(9)
	var all sync.WaitGroup
	for range 8 {
		all.Go(func() {
			for range 20 {
				for many := range want {
					js, _ := mixed(many)
					if got := answers(js); !same(got, want[many]) {
						t.Errorf("R5: %+v; was %+v", got, want[many])
					}
				}
				if got := answers(shared); !same(got, want[9]) {
					t.Errorf("R5: %+v; was %+v", got, want[9])
				}
			}
		})
	}
	all.Wait()
}
