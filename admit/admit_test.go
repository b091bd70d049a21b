package admit_test

import (
	"fmt"
	"math"
	"slices"
	"sync"
	"testing"

	"nocturn/admit"
	"nocturn/api"
	"nocturn/demand"
	"nocturn/frame"
	"nocturn/supply"
)

// good answers a configuration that is admitted: parts 0, 2 and 4 are High (4 has no task and no window), 1 and 3 Low.
// Part 0 has none of 6 ticks at the worst, then 4; part 2 none of 7, then 3.
func good() api.Config {
	return api.Config{
		Frame: 10, Quiet: 2,
		Parts: []api.Part{
			{Level: api.High, Tasks: []api.Task{
				{Period: 20, Deadline: 20, CLow: 1, CHigh: 2, Prio: 5},
				{Kind: api.TaskPicked, Period: 12, Deadline: 9, CLow: 1, CHigh: 2, Prio: 1},
				{Period: 60, Deadline: 50, CLow: 2, CHigh: 3, Prio: 9},
			}, Code: []api.Instr{{Op: api.OpOut}, {Op: api.OpHalt}}},
			{Level: api.Low, Tasks: []api.Task{{Period: 4, Deadline: 2, CLow: 2, CHigh: 2, Prio: 3}}},
			{Level: api.High, Tasks: []api.Task{{Period: 40, Deadline: 18, CLow: 2, CHigh: 4, Prio: 0}}},
			{Level: api.Low},
			{Level: api.High},
		},
		Windows: []api.Window{{From: 0, To: 4, Part: 0}, {From: 4, To: 6, Part: 1}, {From: 6, To: 9, Part: 2}, {From: 9, To: 10, Part: 3}},
		Ports:   []api.Port{{Kind: api.PortQueuing, From: 2, To: 3, Size: 8}},
	}
}

// task answers a task that may be, of a Period, which is its Deadline too, a CHigh and a Prio.
func task(period int, most int, prio int) api.Task {
	return api.Task{Period: period, Deadline: period, CLow: 1, CHigh: most, Prio: prio}
}

// row answers a configuration with a tick a letter: 'a' is part 0's, 'b' part 1's, '.' nobody's; part 0 is High, with
// the tasks, and part 1 Low.
func row(ticks string, tasks ...api.Task) api.Config {
	c := api.Config{Frame: len(ticks), Quiet: 1, Parts: []api.Part{{Level: api.High, Tasks: tasks}, {Level: api.Low}}}
	for i, x := range []byte(ticks) {
		if x != '.' {
			c.Windows = append(c.Windows, api.Window{From: i, To: i + 1, Part: int(x - 'a')})
		}
	}
	return c
}

// due answers a task with a Deadline.
func due(x api.Task, deadline int) api.Task {
	x.Deadline = deadline
	return x
}

// response asks for a Response.
func response(t *testing.T, c api.Config, part int, i int, want int) {
	t.Helper()
	if got, err := admit.Response(c, part, i); got != want || err != api.OK {
		t.Errorf("P9.1: %v: Response(%d, %d) = %d, %d; want %d", c, part, i, got, err, want)
	}
}

// responseNot asks for a Response that there is not: nothing stands beside the error (R2).
func responseNot(t *testing.T, why string, c api.Config, part int, i int, want api.Errno) {
	t.Helper()
	if got, err := admit.Response(c, part, i); got != 0 || err != want {
		t.Errorf("P9.1: %s: Response(%d, %d) = %d, %d; want error %d", why, part, i, got, err, want)
	}
}

// check asks whether c is admitted.
func check(t *testing.T, why string, c api.Config, want api.Errno) {
	t.Helper()
	if got := admit.Check(c); got != want {
		t.Errorf("P9.2: %s: Check = %d; want %d", why, got, want)
	}
}

// enough answers whether Least is at least Bound.
func enough(t *testing.T, c api.Config, part int, i int, length int) bool {
	t.Helper()
	has, e := supply.Least(c, part, length)
	asked, f := demand.Bound(c.Parts[part].Tasks, i, length)
	if e != api.OK || f != api.OK {
		t.Fatalf("Least = %d, Bound = %d", e, f)
	}
	return has >= asked
}

// walked answers the least length that is enough, tick by tick; 0: none up to the Deadline is.
func walked(t *testing.T, c api.Config, part int, i int) int {
	t.Helper()
	for length := 1; length <= c.Parts[part].Tasks[i].Deadline; length++ {
		if enough(t, c, part, i, length) {
			return length
		}
	}
	return 0
}

// checkWalked holds each task of c, and c itself, against what is walked, and answers what Check is to say.
func checkWalked(t *testing.T, c api.Config) api.Errno {
	t.Helper()
	late, without := false, false
	for part, p := range c.Parts {
		share, err := frame.Share(c, part)
		if err != api.OK {
			t.Fatalf("Share(%d) = %d", part, err)
		}
		without = without || p.Level == api.Low && share == 0
		for i := range p.Tasks {
			if p.Level == api.Low {
				responseNot(t, "Low", c, part, i, api.ErrAdmitForm)
			} else if want := walked(t, c, part, i); want > 0 {
				response(t, c, part, i, want)
			} else {
				responseNot(t, "walked", c, part, i, api.ErrAdmitLate)
				late = true
			}
		}
	}
	want := api.OK
	if without {
		want = api.ErrAdmitLow
	}
	if late {
		want = api.ErrAdmitLate
	}
	check(t, "walked", c, want)
	return want
}

func TestResponses(t *testing.T) {
	c := good()
	// Least of part 0: 0 up to 6 ticks, 1 to 4 of 7 to 10, 4 up to 16, 5 of 17 and so on.
	response(t, c, 0, 1, 8)
	response(t, c, 0, 0, 10)
	// 3, and 2 for each 20, and 2 for each 12: 13 up to 36, where Least is 12; then 15, which is Least of 39.
	response(t, c, 0, 2, 39)
	// Of part 2: 3 of 10 to 17, then 4.
	response(t, c, 2, 0, 18)
}

func TestResponseOfOne(t *testing.T) {
	for _, ticks := range []string{"a", "aa", "aaaaaaaaaa"} {
		response(t, row(ticks, task(1, 1, 0)), 0, 0, 1)
		response(t, row(ticks, task(9, 1, 7)), 0, 0, 1)
		response(t, row(ticks, due(task(9, 1, 7), 1)), 0, 0, 1)
		response(t, row(ticks, task(9, 1, 7), task(api.MaxPeriod, 1, 255)), 0, 0, 1)
	}
}

// With all ticks its own a part has what its tasks ask for as soon as no more comes ahead.
func TestResponseBetween(t *testing.T) {
	ts := []api.Task{task(40, 4, 8), task(5, 3, 2), task(50, 1, 200)}
	c := row("aaa", ts...)
	response(t, c, 0, 1, 3)
	// 4 + 3 up to 5, then 4 + 6 up to 10.
	response(t, c, 0, 0, 10)
	// 1 + 4 + 3, then 1 + 4 + 6, then 1 + 4 + 9.
	response(t, c, 0, 2, 14)
	for many := 1; many <= 20; many++ {
		response(t, row("a", task(api.MaxPeriod, many, 0)), 0, 0, many)
		response(t, row("a.", task(api.MaxPeriod, many, 0)), 0, 0, 2*many)
		response(t, row(".a..", task(api.MaxPeriod, many, 0)), 0, 0, 4*many)
		response(t, row("..aa", task(api.MaxPeriod, many, 0)), 0, 0, many+2*((many+1)/2))
	}
}

func TestResponseOfJustTheDeadline(t *testing.T) {
	for _, x := range []struct {
		ticks string
		most  int
		least int
	}{
		{"a", 1, 1}, {"a", 7, 7}, {"a", 1024, 1024}, {".a", 1, 2}, {".a", 512, 1024}, {"a...", 256, 1024},
		{"a....a....", 2, 10}, {"a..a....aa", 4, 10}, {"aa........", 1, 9}, {"aa........", 3, 19},
	} {
		long := task(api.MaxPeriod, x.most, 3)
		response(t, row(x.ticks, long), 0, 0, x.least)
		c := row(x.ticks, due(long, x.least))
		c.Parts = c.Parts[:1]
		response(t, c, 0, 0, x.least)
		check(t, x.ticks, c, api.OK)
		if x.least > x.most {
			// A length beyond the Deadline would be enough, but none up to it is.
			c.Parts[0].Tasks[0].Deadline--
			responseNot(t, x.ticks, c, 0, 0, api.ErrAdmitLate)
			check(t, x.ticks, c, api.ErrAdmitLate)
		}
	}
}

// The least length that is enough counts, though longer ones, that of the Deadline too, are not: a job comes ahead.
func TestEnoughAheadOfTheDeadline(t *testing.T) {
	c := row("a", due(task(40, 2, 8), 6), task(5, 3, 2))
	if !enough(t, c, 0, 0, 5) || enough(t, c, 0, 0, 6) {
		t.Fatal("5 are to be enough, and 6 not")
	}
	response(t, c, 0, 0, 5)
	c.Parts[0].Tasks[0].Deadline = 5
	response(t, c, 0, 0, 5)
	c.Parts[0].Tasks[0].Deadline = 4
	responseNot(t, "one tick less", c, 0, 0, api.ErrAdmitLate)
}

func TestLate(t *testing.T) {
	for _, x := range []struct {
		why string
		c   api.Config
	}{
		{"no window", row("..", task(api.MaxPeriod, 1, 0))},
		{"none but another part's", row("bb", task(api.MaxPeriod, 1, 0))},
		{"a Deadline of 1", row("a.", due(task(9, 1, 0), 1))},
		{"beyond the Deadline", row("a....a....", due(task(20, 2, 1), 9))},
		{"one ahead that takes all", row("a", task(50, 1, 9), task(1, 1, 0))},
		{"one ahead that takes all, in long pieces", row("a", task(1024, 1, 9), task(7, 7, 0))},
		{"one tick too many", row("aa", due(task(60, 3, 9), 9), task(5, 4, 0))},
	} {
		responseNot(t, x.why, x.c, 0, 0, api.ErrAdmitLate)
		check(t, x.why, x.c, api.ErrAdmitLate)
	}
	// The one that goes ahead is itself in time.
	response(t, row("a", task(50, 1, 9), task(1, 1, 0)), 0, 1, 1)
	response(t, row("a", task(1024, 1, 9), task(7, 7, 0)), 0, 1, 7)
}

// What other parts ask for turns nothing, nor do tasks of a higher Prio, nor CLow, Kind and Code.
func TestResponseHangsOnWhatGoesAhead(t *testing.T) {
	c := good()
	c.Parts[1].Tasks[0] = api.Task{Period: 1, Deadline: 1, CLow: 1, CHigh: 1}
	c.Parts[2].Tasks[0] = task(1, 1, 0)
	c.Parts[0].Tasks[2] = task(30, 30, 255)
	c.Parts[0].Tasks[1].CLow, c.Parts[0].Tasks[1].Kind = 2, api.TaskRegular
	c.Parts[0].Code = nil
	c.Quiet, c.Ports = 16, nil
	response(t, c, 0, 1, 8)
	response(t, c, 0, 0, 10)
	c.Parts[0].Tasks[2] = task(30, 1, 4)
	response(t, c, 0, 1, 8)
	// 2, and 1 of 30, and 2 of 12 twice: 7.
	response(t, c, 0, 0, 19)
	response(t, c, 0, 2, 9)
}

func TestPartsAndTasksThatThereAreNot(t *testing.T) {
	for _, part := range []int{-1, -5, math.MinInt, 5, 6, 7, 8, math.MaxInt} {
		for _, i := range []int{0, 1, -1, 6, math.MaxInt} {
			responseNot(t, "no such part", good(), part, i, api.ErrAdmitForm)
		}
	}
	for part, many := range []int{3, 1, 1, 0, 0} {
		for _, i := range []int{-1, -3, math.MinInt, many, many + 1, api.MaxTasks, math.MaxInt} {
			responseNot(t, "no such task", good(), part, i, api.ErrAdmitForm)
		}
	}
	for _, i := range []int{0, -1, 1, math.MinInt, math.MaxInt} {
		responseNot(t, "a Low part with a task", good(), 1, i, api.ErrAdmitForm)
		responseNot(t, "a Low part without one", good(), 3, i, api.ErrAdmitForm)
		responseNot(t, "a High part without one", good(), 4, i, api.ErrAdmitForm)
	}
	c := good()
	c.Parts[0].Tasks = c.Parts[0].Tasks[:1]
	responseNot(t, "one in spare room", c, 0, 1, api.ErrAdmitForm)
	c = good()
	c.Parts = c.Parts[:4]
	c.Parts[3].Tasks = []api.Task{task(5, 1, 0)}
	responseNot(t, "one in spare room", c, 4, 0, api.ErrAdmitForm)
	responseNot(t, "a Low part that would be late", c, 3, 0, api.ErrAdmitForm)
}

// fault makes of good a configuration that may not be.
type fault struct {
	why  string
	want api.Errno
	make func(c *api.Config)
}

// faults are some for each error that layer 5 has of a configuration.
func faults() []fault {
	return []fault{
		{"nothing at all", api.ErrConfigFrame, func(c *api.Config) { *c = api.Config{} }},
		{"Frame 0", api.ErrConfigFrame, func(c *api.Config) { c.Frame = 0 }},
		{"Frame below 0", api.ErrConfigFrame, func(c *api.Config) { c.Frame = math.MinInt }},
		{"Frame above MaxFrame", api.ErrConfigFrame, func(c *api.Config) { c.Frame = api.MaxFrame + 1 }},
		{"Quiet 0", api.ErrConfigFrame, func(c *api.Config) { c.Quiet = 0 }},
		{"Quiet above MaxQuiet", api.ErrConfigFrame, func(c *api.Config) { c.Quiet = api.MaxQuiet + 1 }},
		{"no part", api.ErrConfigPart, func(c *api.Config) { c.Parts = nil }},
		{"nine parts", api.ErrConfigPart, func(c *api.Config) { c.Parts = append(c.Parts, make([]api.Part, 4)...) }},
		{"Level 2", api.ErrConfigPart, func(c *api.Config) { c.Parts[1].Level = 2 }},
		{"Level -1", api.ErrConfigPart, func(c *api.Config) { c.Parts[4].Level = -1 }},
		{"Period 0", api.ErrConfigTask, func(c *api.Config) { c.Parts[0].Tasks[0].Period = 0 }},
		{"greatest Deadline", api.ErrConfigTask, func(c *api.Config) { c.Parts[0].Tasks[0].Deadline = math.MaxInt }},
		{"CHigh above Deadline", api.ErrConfigTask, func(c *api.Config) { c.Parts[0].Tasks[1].CHigh = 10 }},
		{"CHigh of a Low part's", api.ErrConfigTask, func(c *api.Config) { c.Parts[1].Tasks[0].CLow = 1 }},
		{"two of one Prio", api.ErrConfigTask, func(c *api.Config) { c.Parts[0].Tasks[0].Prio = 1 }},
		{"seven tasks", api.ErrConfigTask, func(c *api.Config) { c.Parts[4].Tasks = prios(api.MaxTasks + 1) }},
		{"33 windows", api.ErrConfigWindow, func(c *api.Config) { c.Windows = make([]api.Window, api.MaxWindows+1) }},
		{"a window beyond the frame", api.ErrConfigWindow, func(c *api.Config) { c.Windows[3].To = 11 }},
		{"a window of no part", api.ErrConfigWindow, func(c *api.Config) { c.Windows[3].Part = 5 }},
		{"windows out of their row", api.ErrConfigWindow, func(c *api.Config) { slices.Reverse(c.Windows) }},
		{"a port's Size", api.ErrConfigPort, func(c *api.Config) { c.Ports[0].Size = 9 }},
		{"a port from a Low part", api.ErrConfigPort, func(c *api.Config) { c.Ports[0].From = 1 }},
		{"Code", api.ErrConfigCode, func(c *api.Config) { c.Parts[3].Code = []api.Instr{{Op: api.OpJump, Arg: 1}} }},
		{"Code of a High part", api.ErrConfigCode, func(c *api.Config) { c.Parts[2].Code = []api.Instr{{Op: 12}} }},
	}
}

// prios answers so many tasks, of one Prio each.
func prios(many int) []api.Task {
	var ts []api.Task
	for prio := range many {
		ts = append(ts, task(api.MaxPeriod, 1, prio))
	}
	return ts
}

// makeLate makes the first task of part 0 late, makeLow takes part 3's tick; each leaves a configuration that may be.
func makeLate(c *api.Config) { c.Parts[0].Tasks[0].Deadline = 9 }
func makeLow(c *api.Config)  { c.Windows[3].Part = 4 }

// Whatever else is wrong too, layer 5's error is the first one (R6).
func TestConfigsThatMayNotBe(t *testing.T) {
	for _, x := range faults() {
		for _, also := range []func(c *api.Config){func(*api.Config) {}, makeLate, makeLow} {
			c := good()
			also(&c)
			x.make(&c)
			check(t, x.why, c, x.want)
			for _, part := range []int{0, 1, 2, 5, -1, math.MaxInt} {
				for _, i := range []int{0, 1, -1, 6, math.MaxInt} {
					responseNot(t, x.why, c, part, i, api.ErrAdmitForm)
				}
			}
		}
	}
}

func TestAdmitted(t *testing.T) {
	check(t, "good", good(), api.OK)
	check(t, "no task, no window, no Low part", api.Config{Frame: 1, Quiet: 1, Parts: []api.Part{{Level: api.High}}}, api.OK)
	check(t, "a Low part alone", api.Config{Frame: 1, Quiet: 1, Parts: make([]api.Part, 1), Windows: []api.Window{{To: 1}}}, api.OK)
	check(t, "a Low part with one tick", row("aaaaaaaaab", task(9, 8, 0)), api.OK)
	check(t, "two windows of a Low part", row("b.b"), api.OK)
}

func TestLateTasks(t *testing.T) {
	for _, x := range []struct {
		why      string
		part     int
		i        int
		deadline int
	}{
		{"the first one", 0, 0, 9}, {"one between", 0, 1, 7}, {"the last one", 0, 2, 38}, {"of a later part", 2, 0, 17},
	} {
		c := good()
		c.Parts[x.part].Tasks[x.i].Deadline = x.deadline
		check(t, x.why, c, api.ErrAdmitLate)
		responseNot(t, x.why, c, x.part, x.i, api.ErrAdmitLate)
		c.Parts[x.part].Tasks[x.i].Deadline = x.deadline + 1
		check(t, x.why, c, api.OK)
	}
	c := good()
	c.Parts[4].Tasks = prios(1)
	check(t, "the last part, without a window", c, api.ErrAdmitLate)
	c.Parts[2].Level = api.Low
	c.Parts[2].Tasks = nil
	c.Ports = nil
	check(t, "the last part, behind Low ones", c, api.ErrAdmitLate)
}

// A Low part's tasks are not asked to be in time.
func TestLowTasksAreNotAsked(t *testing.T) {
	c := good()
	c.Parts[1].Tasks = []api.Task{
		{Period: 1, Deadline: 1, CLow: 1, CHigh: 1, Prio: 0},
		{Period: 1024, Deadline: 1024, CLow: 1024, CHigh: 1024, Prio: 255},
	}
	c.Parts[3].Tasks = []api.Task{{Period: 9, Deadline: 1, CLow: 1, CHigh: 1}}
	check(t, "Low parts' tasks", c, api.OK)
	c.Parts[1].Level = api.High
	check(t, "the same ones of a High part", c, api.ErrAdmitLate)
}

func TestLowPartsWithoutATick(t *testing.T) {
	for part, own := range map[int]int{1: 1, 3: 3} {
		c := good()
		c.Windows[own].Part = 4
		check(t, fmt.Sprint("the tick is part 4's, not part ", part, "'s"), c, api.ErrAdmitLow)
		c.Windows = slices.Delete(c.Windows, own, own+1)
		check(t, fmt.Sprint("the tick is nobody's, not part ", part, "'s"), c, api.ErrAdmitLow)
	}
	check(t, "no window at all", row("..."), api.ErrAdmitLow)
	check(t, "none but a High part's", row("aaa", task(1, 1, 0)), api.ErrAdmitLow)
	c := good()
	c.Parts = append(c.Parts, api.Part{Tasks: []api.Task{{Period: 9, Deadline: 1, CLow: 1, CHigh: 1}}})
	check(t, "the last part", c, api.ErrAdmitLow)
	// Of a High part that has no task none is asked for.
	c.Parts[5] = api.Part{Level: api.High}
	check(t, "a High part without a tick", c, api.OK)
}

// Both at once: the chapter names the late task first (R6), whatever row the parts are in.
func TestLateAndWithoutATick(t *testing.T) {
	c := good()
	makeLate(&c)
	makeLow(&c)
	check(t, "the late one ahead", c, api.ErrAdmitLate)
	c = good()
	c.Windows[1].Part = 0
	check(t, "part 1 has no tick", c, api.ErrAdmitLow)
	c.Parts[2].Tasks[0].Deadline = 17
	check(t, "part 1 has no tick, and part 2's task is late", c, api.ErrAdmitLate)
	c.Parts[4].Tasks = prios(1)
	check(t, "two are late", c, api.ErrAdmitLate)
}

// rnd is a row of numbers.
type rnd uint64

func (r *rnd) next(n int) int {
	*r = *r*6364136223846793005 + 1442695040888963407
	return int(uint64(*r) >> 33 % uint64(n))
}

// anyTask answers a task that may be.
func anyTask(r *rnd, prio int, level int) api.Task {
	x := api.Task{Kind: r.next(2), Period: 1 + r.next(60), Prio: prio}
	x.Deadline = 1 + r.next(x.Period)
	x.CHigh = 1 + r.next(min(x.Deadline, 5))
	x.CLow = 1 + r.next(x.CHigh)
	if level == api.Low {
		x.CLow = x.CHigh
	}
	return x
}

// anyConfig answers a configuration that may be, with the Levels in any row.
func anyConfig(r *rnd) api.Config {
	c := api.Config{Frame: 1 + r.next(24), Quiet: 1 + r.next(api.MaxQuiet), Parts: make([]api.Part, 1+r.next(4))}
	for part := range c.Parts {
		p := &c.Parts[part]
		p.Level = r.next(2)
		for k := range r.next(4) {
			// The Prios fall and rise: the row of the tasks is not theirs.
			p.Tasks = append(p.Tasks, anyTask(r, (k*7+3)%10*10+r.next(10), p.Level))
		}
	}
	for at := r.next(2); at < c.Frame && len(c.Windows) < api.MaxWindows; {
		to := min(at+1+r.next(4), c.Frame)
		c.Windows = append(c.Windows, api.Window{From: at, To: to, Part: r.next(len(c.Parts))})
		at = to + r.next(2)
	}
	return c
}

func TestAnyConfigs(t *testing.T) {
	r := rnd(9)
	seen := map[api.Errno]int{}
	for range 3000 {
		seen[checkWalked(t, anyConfig(&r))]++
	}
	if len(seen) != 3 || seen[api.OK] < 100 || seen[api.ErrAdmitLow] < 100 || seen[api.ErrAdmitLate] < 100 {
		t.Errorf("too few of one kind: %v", seen)
	}
}

// admitted answers configurations that are, at least so many.
func admitted(many int) []api.Config {
	all := []api.Config{good(), widest()}
	for r := rnd(3); len(all) < many; {
		if c := anyConfig(&r); admit.Check(c) == api.OK {
			all = append(all, c)
		}
	}
	return all
}

func TestAdmittedAreInTime(t *testing.T) {
	for _, c := range admitted(300) {
		for part, p := range c.Parts {
			for i, x := range p.Tasks {
				if p.Level == api.Low {
					continue
				}
				n, err := admit.Response(c, part, i)
				if err != api.OK || n < 1 || n > x.Deadline || !enough(t, c, part, i, n) {
					t.Fatalf("P9.3: %v: Response(%d, %d) = %d, %d", c, part, i, n, err)
				}
			}
		}
	}
}

// run is a High part's own schedule, tick by tick, with jobs that come at the worst of times, or at any.
type run struct {
	c     api.Config
	part  int
	begin int
	next  []int
	came  []int
	left  []int
}

// newRun answers a schedule whose tasks come for the first time at begin, or less than a Period behind it.
func newRun(r *rnd, c api.Config, part int, begin int, together bool) *run {
	many := len(c.Parts[part].Tasks)
	x := &run{c: c, part: part, begin: begin, next: make([]int, many), came: make([]int, many), left: make([]int, many)}
	for i, k := range c.Parts[part].Tasks {
		x.next[i] = begin
		if !together {
			x.next[i] += r.next(k.Period)
		}
	}
	return x
}

// step has the jobs of a tick come, and runs the one of the least Prio if the tick is the part's; it answers a task
// whose job is not done within Response ticks (-1: none is).
func (x *run) step(r *rnd, at int, responses []int, whole bool) int {
	first := -1
	for i, k := range x.c.Parts[x.part].Tasks {
		if x.left[i] > 0 && at >= x.came[i]+responses[i] {
			return i
		}
		if at == x.next[i] {
			x.came[i], x.left[i], x.next[i] = at, k.CHigh, at+k.Period
			if !whole {
				x.left[i], x.next[i] = 1+r.next(k.CHigh), at+k.Period+r.next(3)
			}
		}
		if x.left[i] > 0 && (first < 0 || k.Prio < x.c.Parts[x.part].Tasks[first].Prio) {
			first = i
		}
	}
	if owner, _ := frame.At(x.c, at); owner == x.part && first >= 0 {
		x.left[first]--
	}
	return -1
}

// Each job that asks for at most CHigh is done within Response ticks: all come at once, wherever in the frame, each one
// as soon as it may and asking for all, or any of that otherwise.
func TestJobsAreDoneWithinResponse(t *testing.T) {
	r := rnd(5)
	for _, c := range admitted(200) {
		for part, p := range c.Parts {
			if p.Level == api.Low || len(p.Tasks) == 0 || c.Frame > 30 {
				continue
			}
			responses := make([]int, len(p.Tasks))
			for i := range p.Tasks {
				responses[i], _ = admit.Response(c, part, i)
			}
			for kind := range 4 * c.Frame {
				x := newRun(&r, c, part, kind/4, kind%2 == 0)
				for at := x.begin; at < x.begin+150; at++ {
					if i := x.step(&r, at, responses, kind/2%2 == 0); i >= 0 {
						t.Fatalf("P9.3: %v: a job of task %d of part %d is not done at %d", c, i, part, at)
					}
				}
			}
		}
	}
}

// widest answers the greatest configuration that is admitted: MaxParts parts, all High, with MaxTasks tasks each, as many
// windows and instructions as may be, and Deadlines of MaxPeriod.
func widest() api.Config {
	c := api.Config{Frame: api.MaxFrame, Quiet: api.MaxQuiet}
	for range api.MaxParts {
		p := api.Part{Level: api.High, Code: slices.Repeat([]api.Instr{{Op: api.OpConst, Arg: 255}}, api.MaxCode)}
		for k := range api.MaxTasks {
			p.Tasks = append(p.Tasks, task(api.MaxPeriod, 20, 250-40*k))
		}
		c.Parts = append(c.Parts, p)
	}
	for i := range api.MaxWindows {
		c.Windows = append(c.Windows, api.Window{From: 8 * i, To: 8*i + 8, Part: i % api.MaxParts})
	}
	return c
}

func TestWidest(t *testing.T) {
	check(t, "widest", widest(), api.OK)
	// A part has 8 ticks of each 64, in one piece: ahead of each 8 that are asked for 56 of others may go by.
	for i := range api.MaxTasks {
		asked := 20 * (api.MaxTasks - i)
		response(t, widest(), 7, i, 56*((asked+7)/8)+asked)
	}
	c := widest()
	c.Parts[7].Tasks[0].CHigh = 28
	check(t, "one that has just what it asks for", c, api.OK)
	response(t, c, 7, 0, 1024)
	c.Parts[7].Tasks[0].CHigh = 29
	check(t, "one tick more", c, api.ErrAdmitLate)
	// Each waits for a tick a frame, with all of a frame between: the longest walks.
	c.Windows = nil
	for i := range api.MaxParts {
		c.Windows = append(c.Windows, api.Window{From: i, To: i + 1, Part: i})
		c.Parts[i].Tasks = nil
		for k := range api.MaxTasks {
			c.Parts[i].Tasks = append(c.Parts[i].Tasks, task(api.MaxPeriod, 1, k))
		}
	}
	checkWalked(t, c)
}

// told answers a configuration with the spare room of its lists.
func told(c api.Config) string {
	p := c.Parts[0]
	return fmt.Sprint(c, c.Parts[:cap(c.Parts)], c.Windows[:cap(c.Windows)], c.Ports[:cap(c.Ports)], p.Tasks[:cap(p.Tasks)], p.Code[:cap(p.Code)])
}

// roomy answers good with lists that have spare room with something in it.
func roomy() api.Config {
	c := good()
	c.Parts = append(c.Parts, api.Part{Level: 9})[:5]
	c.Windows = append(c.Windows, api.Window{From: 9, To: 8, Part: 7})[:4]
	c.Ports = append(c.Ports, api.Port{Kind: 5})[:1]
	c.Parts[0].Tasks = append(c.Parts[0].Tasks, api.Task{Kind: 6})[:3]
	c.Parts[0].Code = append(c.Parts[0].Code, api.Instr{Op: 99})[:2]
	return c
}

func TestNothingIsChangedOrKept(t *testing.T) {
	c := roomy()
	was := told(c)
	check(t, "roomy", c, api.OK)
	response(t, c, 0, 2, 39)
	responseNot(t, "part", c, 9, 0, api.ErrAdmitForm)
	responseNot(t, "task", c, 0, 3, api.ErrAdmitForm)
	if told(c) != was {
		t.Errorf("R4: %s; was %s", told(c), was)
	}
	c.Parts[0].Tasks[2].Deadline = 38
	was = told(c)
	check(t, "late", c, api.ErrAdmitLate)
	responseNot(t, "late", c, 0, 2, api.ErrAdmitLate)
	c.Quiet = 0
	check(t, "Quiet", c, api.ErrConfigFrame)
	responseNot(t, "Quiet", c, 0, 2, api.ErrAdmitForm)
	c.Quiet = 2
	if told(c) != was {
		t.Errorf("R4: %s; was %s", told(c), was)
	}
	// Nothing of the calls ahead is left (R5).
	c.Parts[0].Tasks[2].Deadline = 50
	check(t, "in time again", c, api.OK)
	c.Parts[0].Tasks[2].CHigh = 2
	response(t, c, 0, 2, 20)
	c.Windows[1].Part = 0
	response(t, c, 0, 2, 10)
}

func TestFromSeveralGoroutines(t *testing.T) {
	c := good()
	var all sync.WaitGroup
	for i := range 8 {
		all.Go(func() {
			want := []int{10, 8, 39}[i%3]
			for range 50 {
				got, err := admit.Response(c, 0, i%3)
				if got != want || err != api.OK || admit.Check(c) != api.OK {
					t.Errorf("R5: Response(0, %d) = %d, %d; want %d", i%3, got, err, want)
					return
				}
			}
		})
	}
	all.Wait()
}
