package ready

import (
	"cmp"
	"slices"

	"nocturn/api"
	"nocturn/may"
)

// rising is jobs by Prio, then by Release, then by Task, however many they are.
type rising struct {
	jobs []api.Job
}

// rises answers whether the jobs stand like that, none the same in all three.
func (r rising) rises() bool {
	for i := range r.jobs {
		if i > 0 && compare(r.jobs[i-1], r.jobs[i]) >= 0 {
			return false
		}
	}
	return true
}

// place answers at which place j stands, and whether a job stands there that is the same in all three.
func (r rising) place(j api.Job) (int, bool) {
	return slices.BinarySearchFunc(r.jobs, j, compare)
}

// has answers whether there is a job that is the same as j in all three.
func (r rising) has(j api.Job) bool {
	_, is := r.place(j)
	return is
}

// insert answers the jobs and j, which stands at its place, in memory of their own.
func (r rising) insert(j api.Job) []api.Job {
	at, _ := r.place(j)
	return slices.Concat(r.jobs[:at], []api.Job{j}, r.jobs[at:])
}

// compare answers a number below 0, if a stands ahead of b, above 0, if it stands behind it, and else 0.
func compare(a, b api.Job) int {
	return cmp.Or(cmp.Compare(a.Prio, b.Prio), cmp.Compare(a.Release, b.Release), cmp.Compare(a.Task, b.Task))
}

// row is jobs that rise, of a part, which has at most MaxJobs of them.
type row struct {
	rising
}

// rowOf answers the row of js, which shares their memory.
func rowOf(js []api.Job) row {
	return row{rising{js}}
}

// full answers whether there is no room for one more job.
func (r row) full() bool {
	return len(r.jobs) >= api.MaxJobs
}

// may answers whether the row may be. How many they are is asked first, so that it ends soon.
func (r row) may() bool {
	mayNot := func(j api.Job) bool { return !mayJob(j) }
	return len(r.jobs) <= api.MaxJobs && !slices.ContainsFunc(r.jobs, mayNot) && r.rises()
}

// mayJob answers whether j may be in a row.
func mayJob(j api.Job) bool {
	return j.Task >= 0 && j.Task < api.MaxTasks &&
		j.Seq >= 0 &&
		may.Prio(j.Prio) &&
		may.Clock(j.Release) && j.Deadline > j.Release &&
		may.Demand(j.Demand) &&
		j.Used >= 0 && j.Used < j.Demand
}
