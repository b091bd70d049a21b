package jobs

import (
	"nocturn/api"
	"nocturn/task"
)

// running is a task that runs.
type running struct {
	api.Task
	turns
}

// runningOf answers the tasks as they run, none of which has had a job.
func runningOf(tasks []api.Task) []running {
	rs := make([]running, len(tasks))
	for i, t := range tasks {
		rs[i] = running{t, turns{Turns: api.Turns{Last: -1}}}
	}
	return rs
}

// job answers the job of demand that comes at now of the task, which is the i-th of its part.
func (r running) job(i int, demand int, now int) api.Job {
	return api.Job{
		Task:     i,
		Seq:      r.came,
		Prio:     r.Prio,
		Release:  now,
		Deadline: now + r.Deadline,
		Demand:   demand,
	}
}

// turns is what a task that runs goes on with: its turns, and how many jobs of it came.
type turns struct {
	api.Turns
	came int
}

// pick keeps a demand for a job of t; nothing is kept beside an error.
func (s *turns) pick(t api.Task, demand int) api.Errno {
	then, err := task.Pick(t, s.Turns, demand)
	if err != api.OK {
		return err
	}
	s.Turns = then
	return api.OK
}

// late answers whether the first demand for a job of t has to wait at now.
func (s *turns) late(t api.Task, now int) bool {
	return task.Late(t, s.Turns, now)
}

// wait answers how many ticks behind now the tick lies that is a period behind the last job.
func (s *turns) wait(period int, now int) int {
	return s.Last + period - now
}

// release answers the demand of the job of t that comes at now; false, if none does.
func (s *turns) release(t api.Task, now int) (int, bool) {
	then, demand, is := task.Release(t, s.Turns, now)
	s.Turns = then
	return demand, is
}
