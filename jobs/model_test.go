package jobs_test

import (
	"cmp"
	"slices"
	"sync"
	"testing"

	"nocturn/api"
	"nocturn/jobs"
)

// model is a schedule as the chapter's words have it, of a part that may be.
type model struct {
	part  api.Part
	last  []int
	picks [][]int
	came  []int
	row   []api.Job
}

// modelOf answers the model of p at its beginning.
func modelOf(p api.Part) *model {
	many := len(p.Tasks)
	return &model{part: p, last: slices.Repeat([]int{-1}, many), picks: make([][]int, many), came: make([]int, many)}
}

// isTick answers whether now is a tick.
func isTick(now int) bool {
	return now >= 0 && now <= api.MaxClock
}

// waits answers whether the task's first demand has to wait at now.
func (m *model) waits(i int, now int) bool {
	x := m.part.Tasks[i]
	return x.Kind == api.TaskPicked && len(m.picks[i]) > 0 && m.last[i] != -1 && now < m.last[i]+x.Period
}

func (m *model) pick(i int, demand int, now int) ([]api.Event, api.Errno) {
	switch {
	case i < 0 || i >= len(m.part.Tasks) || !isTick(now):
		return nil, api.ErrJobsForm
	case demand < 1 || demand > 65535:
		return nil, api.ErrTaskForm
	case len(m.picks[i]) == api.MaxPicks:
		return nil, api.ErrTaskFull
	}
	m.picks[i] = append(m.picks[i], demand)
	if !m.waits(i, now) {
		return nil, api.OK
	}
	return []api.Event{told(api.EventDefer, i, m.last[i]+m.part.Tasks[i].Period-now)}, api.OK
}

func (m *model) begin(now int) ([]api.Event, api.Errno) {
	if !isTick(now) {
		return nil, api.ErrJobsForm
	}
	var events []api.Event
	for _, j := range m.row {
		if j.Deadline <= now {
			events = append(events, told(api.EventMiss, j.Task, j.Used))
		}
	}
	m.row = slices.DeleteFunc(m.row, func(j api.Job) bool { return j.Deadline <= now })
	for i, x := range m.part.Tasks {
		comes := x.Kind == api.TaskRegular && now%x.Period == 0
		if x.Kind == api.TaskPicked {
			comes = len(m.picks[i]) > 0 && !m.waits(i, now)
		}
		if comes && m.put(i, now) {
			events = append(events, told(api.EventRelease, i, m.row[m.at(i, now)].Demand))
		}
	}
	return events, api.OK
}

// at answers where the job of a task that came at now stands; -1, if there is none.
func (m *model) at(i int, now int) int {
	return slices.IndexFunc(m.row, func(j api.Job) bool { return j.Task == i && j.Release == now })
}

// put answers whether the job of a task that comes at now finds room.
func (m *model) put(i int, now int) bool {
	x := m.part.Tasks[i]
	j := api.Job{Task: i, Seq: m.came[i], Prio: x.Prio, Release: now, Deadline: now + x.Deadline, Demand: x.CLow}
	if len(m.picks[i]) > 0 {
		j.Demand, m.picks[i] = m.picks[i][0], m.picks[i][1:]
	}
	m.last[i] = now
	if len(m.row) == api.MaxJobs || m.at(i, now) >= 0 {
		return false
	}
	m.came[i]++
	m.row = append(m.row, j)
	slices.SortFunc(m.row, func(a, b api.Job) int {
		return cmp.Or(cmp.Compare(a.Prio, b.Prio), cmp.Compare(a.Release, b.Release))
	})
	return true
}

func (m *model) run() (api.Verdict, []api.Event, api.Errno) {
	if len(m.row) == 0 {
		return api.Verdict{}, nil, api.ErrJobsNone
	}
	j := &m.row[0]
	j.Used++
	i, used, x := j.Task, j.Used, m.part.Tasks[j.Task]
	var v api.Verdict
	var events []api.Event
	if m.part.Level == api.High && used == x.CLow && used < j.Demand {
		v.Over, events = true, append(events, told(api.EventOver, i, used))
	}
	if used == j.Demand {
		v.Done, events = true, append(events, told(api.EventDone, i, used))
	} else if used == x.CHigh {
		v.Kill, events = true, append(events, told(api.EventKill, i, used))
	}
	if v.Done || v.Kill {
		m.row = m.row[1:]
	}
	return v, events, api.OK
}

func (m *model) fail() ([]api.Event, api.Errno) {
	if len(m.row) == 0 {
		return nil, api.ErrJobsNone
	}
	j := m.row[0]
	m.row = m.row[1:]
	return []api.Event{told(api.EventFault, j.Task, j.Used)}, api.OK
}

// chance is a row of numbers that look like chance, the same each time.
type chance uint64

// below answers a number from 0 below n.
func (c *chance) below(n int) int {
	*c = *c*6364136223846793005 + 1442695040888963407
	return int(uint64(*c) >> 33 % uint64(n))
}

// part answers a part that may be.
func (c *chance) part() api.Part {
	p := api.Part{Level: c.below(2)}
	for i := range c.below(api.MaxTasks + 1) {
		x := api.Task{Kind: c.below(2), Period: 1 + c.below(12), Prio: (i*5 + 3) % api.MaxTasks * 40}
		x.Deadline = 1 + c.below(x.Period)
		x.CHigh = 1 + c.below(min(x.Deadline, 4))
		x.CLow = x.CHigh
		if p.Level == api.High {
			x.CLow = 1 + c.below(x.CHigh)
		}
		p.Tasks = append(p.Tasks, x)
	}
	return p
}

// tick answers a tick near now, mostly the next one, now and then one that is ahead of it, or none.
func (c *chance) tick(now int) int {
	switch c.below(20) {
	case 0:
		return noTicks[c.below(len(noTicks))]
	case 1, 2:
		return max(now-c.below(9), 0)
	case 3:
		return now + c.below(30)
	}
	return now + 1
}

// demand answers what a job asks for, now and then what none may.
func (c *chance) demand() int {
	if c.below(12) == 0 {
		return noDemands[c.below(len(noDemands))]
	}
	return 1 + c.below(6)
}

// walk holds a schedule of a part against its model, call by call.
func walk(t *testing.T, c *chance, p api.Part, calls int) {
	l, m := start(t, p), modelOf(p)
	now := c.below(100)
	for range calls {
		switch c.below(8) {
		case 0, 1:
			i, demand, at := c.below(len(p.Tasks)+2)-1, c.demand(), c.tick(now)
			got, err := l.Pick(i, demand, at)
			if want, no := m.pick(i, demand, at); !slices.Equal(got, want) || err != no {
				t.Fatalf("P14.1: %+v: Pick(%d, %d, %d) = %+v, %d; want %+v, %d", p, i, demand, at, got, err, want, no)
			}
		case 2, 3, 4:
			at := c.tick(now)
			got, err := l.Begin(at)
			if want, no := m.begin(at); !slices.Equal(got, want) || err != no {
				t.Fatalf("P14.2: %+v: Begin(%d) = %+v, %d; want %+v, %d", p, at, got, err, want, no)
			}
			if err == api.OK {
				now = at
			}
		case 5, 6:
			v, got, err := l.Run()
			if is, want, no := m.run(); v != is || !slices.Equal(got, want) || err != no {
				t.Fatalf("P14.3: %+v: Run() = %+v, %+v, %d; want %+v, %+v, %d", p, v, got, err, is, want, no)
			}
		case 7:
			got, err := l.Fail()
			if want, no := m.fail(); !slices.Equal(got, want) || err != no {
				t.Fatalf("P14.3: %+v: Fail() = %+v, %d; want %+v, %d", p, got, err, want, no)
			}
		}
		checkJobs(t, l, m.row...)
	}
}

// Any part, and any calls in any row: those that answer an error, too, which change nothing (R5).
func TestAnyCalls(t *testing.T) {
	c := chance(14)
	for range 600 {
		walk(t, &c, c.part(), 300)
	}
}

// Ticks that go down, so that jobs heap up: the row is full for long stretches.
func TestFullRows(t *testing.T) {
	c := chance(7)
	for range 200 {
		p := c.part()
		l, m := start(t, p), modelOf(p)
		for i := range 120 {
			now := 1000 - i
			if c.below(3) == 0 && len(p.Tasks) > 0 {
				task, demand := c.below(len(p.Tasks)), 1+c.below(5)
				l.Pick(task, demand, now)
				m.pick(task, demand, now)
			}
			if i%40 > 30 {
				l.Fail()
				m.fail()
			}
			want, _ := m.begin(now)
			checkBegin(t, l, now, want...)
			checkJobs(t, l, m.row...)
		}
	}
}

// A schedule hangs on nothing but what is done to it: not on another one, not on one that is used beside it (R5).
func TestSchedulesBesideEachOther(t *testing.T) {
	c := chance(3)
	shared := c.part()
	var all sync.WaitGroup
	for i := range 8 {
		all.Go(func() {
			c := chance(i)
			for range 20 {
				p := shared
				if i%2 == 0 {
					p = c.part()
				}
				l, _ := jobs.New(index, p)
				m := modelOf(p)
				for now := range 200 {
					want, _ := m.begin(now)
					checkBegin(t, l, now, want...)
					m.run()
					l.Run()
					checkJobs(t, l, m.row...)
				}
			}
		})
	}
	all.Wait()
}

// The schedule of a part that has ever so much to do goes on for long: what it keeps does not grow.
func TestLong(t *testing.T) {
	p := high(regular(1, 1, 1, 0), regular(2, 1, 2, 1), regular(3, 1, 3, 2),
		picked(1, 1, 1, 3), picked(2, 1, 1, 4), picked(5, 1, 5, 5))
	l := start(t, p)
	for now := range 100000 {
		for i := range p.Tasks {
			if _, err := l.Pick(i, 65535, now); err != api.OK && err != api.ErrTaskFull {
				t.Fatalf("P14.1: %d", err)
			}
		}
		if _, err := l.Begin(now); err != api.OK || len(l.Jobs()) > len(p.Tasks) {
			t.Fatalf("P14.2: %d, %+v", err, l.Jobs())
		}
	}
	js := l.Jobs()
	if len(js) != len(p.Tasks) || js[0].Seq != 99999 {
		t.Errorf("P14.2: %+v", js)
	}
}
