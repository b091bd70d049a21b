package task_test

import (
	"math"
	"slices"
	"sync"
	"testing"

	"nocturn/api"
	"nocturn/task"
)

// regular is a task that may be, whose jobs come at each tick that 20 divides.
var regular = api.Task{Kind: api.TaskRegular, Period: 20, Deadline: 10, CLow: 3, CHigh: 5, Prio: 7}

// picked is a task that may be, whose jobs come as they are picked.
var picked = api.Task{Kind: api.TaskPicked, Period: 20, Deadline: 10, CLow: 3, CHigh: 5, Prio: 7}

// noDemands holds numbers that no job may ask for; some of them end in bits that are one which may be.
var noDemands = []int{0, -1, -65535, math.MinInt, 65536, 65537, 1 << 32, 1<<32 + 1, math.MaxInt}

// noTicks holds numbers that are no tick.
var noTicks = []int{-1, -20, math.MinInt, api.MaxClock + 1, api.MaxClock + 20, math.MaxInt}

// turns answers turns of a last release and demands.
func turns(last int, picks ...int) api.Turns {
	return api.Turns{Last: last, Picks: picks}
}

// with answers a task that is turned by change.
func with(x api.Task, change func(x *api.Task)) api.Task {
	change(&x)
	return x
}

// wrongTasks answers, of each part of a task, those that lie just behind its edges.
func wrongTasks() []api.Task {
	var wrong []api.Task
	for _, base := range []api.Task{regular, picked} {
		for _, change := range []func(x *api.Task){
			func(x *api.Task) { x.Kind = -1 }, func(x *api.Task) { x.Kind = 2 }, func(x *api.Task) { x.Kind = 257 },
			func(x *api.Task) { x.Period = 0 }, func(x *api.Task) { x.Period = 9 }, func(x *api.Task) { x.Period = 1025 },
			func(x *api.Task) { x.Period = -20 }, func(x *api.Task) { x.Period = math.MinInt },
			func(x *api.Task) { x.Deadline = 0 }, func(x *api.Task) { x.Deadline = 4 }, func(x *api.Task) { x.Deadline = 21 },
			func(x *api.Task) { x.CLow = 0 }, func(x *api.Task) { x.CLow = -1 }, func(x *api.Task) { x.CLow = 6 },
			func(x *api.Task) { x.CHigh = 2 }, func(x *api.Task) { x.CHigh = 11 }, func(x *api.Task) { x.CLow, x.CHigh = 0, 0 },
			func(x *api.Task) { x.Prio = -1 }, func(x *api.Task) { x.Prio = 256 }, func(x *api.Task) { *x = api.Task{} },
		} {
			wrong = append(wrong, with(base, change))
		}
	}
	return wrong
}

// wrongTurns answers turns that may not be, each for one reason.
func wrongTurns() []api.Turns {
	wrong := []api.Turns{
		turns(-2), turns(-2, 1), turns(math.MinInt, 1), turns(api.MaxClock + 1), turns(api.MaxClock+1, 1), turns(math.MaxInt, 1),
		turns(0, 1, 1, 1, 1, 1), turns(-1, slices.Repeat([]int{9}, 1000)...), turns(-1, make([]int, 5)...),
	}
	for _, no := range noDemands {
		for many := range api.MaxPicks {
			picks := slices.Repeat([]int{9}, many+1)
			picks[many] = no
			wrong = append(wrong, turns(-1, picks...), turns(3, slices.Concat([]int{no}, picks[:many])...))
		}
	}
	return wrong
}

// same answers whether turns are the same; an empty list and nil are one.
func same(a api.Turns, b api.Turns) bool {
	return a.Last == b.Last && slices.Equal(a.Picks, b.Picks)
}

// checkPick asks for a demand to be picked.
func checkPick(t *testing.T, x api.Task, s api.Turns, demand int, want api.Turns) {
	t.Helper()
	if got, err := task.Pick(x, s, demand); !same(got, want) || err != api.OK {
		t.Errorf("P11.1: Pick(%+v, %+v, %d) = %+v, %d; want %+v", x, s, demand, got, err, want)
	}
}

// checkNoPick asks for a demand that is not picked: nothing stands beside the error (R2).
func checkNoPick(t *testing.T, x api.Task, s api.Turns, demand int, want api.Errno) {
	t.Helper()
	if got, err := task.Pick(x, s, demand); !same(got, api.Turns{}) || err != want {
		t.Errorf("P11.1: Pick(%+v, %+v, %d) = %+v, %d; want error %d", x, s, demand, got, err, want)
	}
}

// checkLate asks whether the first demand would have to wait.
func checkLate(t *testing.T, x api.Task, s api.Turns, now int, want bool) {
	t.Helper()
	if got := task.Late(x, s, now); got != want {
		t.Errorf("P11.1: Late(%+v, %+v, %d) = %t", x, s, now, got)
	}
}

// checkJob asks for a job, which there is.
func checkJob(t *testing.T, x api.Task, s api.Turns, now int, then api.Turns, demand int) {
	t.Helper()
	if got, asked, is := task.Release(x, s, now); !same(got, then) || asked != demand || !is {
		t.Errorf("P11.2: Release(%+v, %+v, %d) = %+v, %d, %t; want %+v, %d", x, s, now, got, asked, is, then, demand)
	}
}

// checkNoJob asks for a job, which there is not: the turns are those that are told, and no demand is (R2).
func checkNoJob(t *testing.T, x api.Task, s api.Turns, now int, then api.Turns) {
	t.Helper()
	if got, asked, is := task.Release(x, s, now); !same(got, then) || asked != 0 || is {
		t.Errorf("P11.2: Release(%+v, %+v, %d) = %+v, %d, %t; want %+v, no job", x, s, now, got, asked, is, then)
	}
}

func TestMay(t *testing.T) {
	for _, x := range []api.Task{
		regular, picked,
		{Period: 1, Deadline: 1, CLow: 1, CHigh: 1},
		{Kind: api.TaskPicked, Period: 1024, Deadline: 1024, CLow: 1024, CHigh: 1024, Prio: 255},
		with(regular, func(x *api.Task) { x.Period = 10 }), with(regular, func(x *api.Task) { x.Period = 1024 }),
		with(regular, func(x *api.Task) { x.Deadline = 5 }), with(regular, func(x *api.Task) { x.Deadline = 20 }),
		with(regular, func(x *api.Task) { x.CLow = 1 }), with(regular, func(x *api.Task) { x.CLow = 5 }),
		with(regular, func(x *api.Task) { x.CHigh = 3 }), with(regular, func(x *api.Task) { x.CHigh = 10 }),
		with(regular, func(x *api.Task) { x.Prio = 0 }), with(regular, func(x *api.Task) { x.Prio = 255 }),
	} {
		if !task.May(x) {
			t.Errorf("P11.1: May(%+v) is false", x)
		}
	}
	for _, x := range wrongTasks() {
		if task.May(x) {
			t.Errorf("P11.1: May(%+v) is true", x)
		}
	}
}

// A demand is the last one of Picks, whatever the Kind; Last stays as it was.
func TestPick(t *testing.T) {
	for _, x := range []api.Task{regular, picked} {
		for _, last := range []int{-1, 0, 1, 19, 20, api.MaxClock - 1, api.MaxClock} {
			checkPick(t, x, turns(last), 9, turns(last, 9))
			checkPick(t, x, turns(last, 4), 9, turns(last, 4, 9))
			checkPick(t, x, turns(last, 9, 4), 6, turns(last, 9, 4, 6))
			checkPick(t, x, turns(last, 7, 7, 7), 7, turns(last, 7, 7, 7, 7))
			checkPick(t, x, turns(last, 1, 65535, 1), 65535, turns(last, 1, 65535, 1, 65535))
		}
		for _, demand := range []int{1, 2, 3, 5, 6, 255, 256, 1024, 65534, 65535} {
			checkPick(t, x, turns(-1), demand, turns(-1, demand))
		}
	}
}

func TestPickOfWhatMayNotBe(t *testing.T) {
	for _, x := range wrongTasks() {
		checkNoPick(t, x, turns(-1), 1, api.ErrTaskForm)
		checkNoPick(t, x, turns(-1, 1, 1, 1, 1), 1, api.ErrTaskForm)
	}
	for _, x := range []api.Task{regular, picked} {
		for _, s := range wrongTurns() {
			checkNoPick(t, x, s, 1, api.ErrTaskForm)
		}
		for _, no := range noDemands {
			checkNoPick(t, x, turns(-1), no, api.ErrTaskForm)
			checkNoPick(t, x, turns(8, 1, 2, 3), no, api.ErrTaskForm)
		}
	}
}

// ErrTaskForm goes ahead of ErrTaskFull (R6).
func TestPickOfFull(t *testing.T) {
	full := turns(5, 1, 2, 3, 4)
	for _, x := range []api.Task{regular, picked} {
		checkNoPick(t, x, full, 1, api.ErrTaskFull)
		checkNoPick(t, x, full, 65535, api.ErrTaskFull)
		checkNoPick(t, x, turns(-1, 9, 9, 9, 9), 9, api.ErrTaskFull)
		checkNoPick(t, x, turns(-2, 1, 2, 3, 4), 1, api.ErrTaskForm)
		checkNoPick(t, x, turns(5, 1, 2, 3, 0), 1, api.ErrTaskForm)
		checkNoPick(t, x, turns(5, 1, 2, 3, 4, 5), 1, api.ErrTaskForm)
		for _, no := range noDemands {
			checkNoPick(t, x, full, no, api.ErrTaskForm)
		}
	}
}

func TestLate(t *testing.T) {
	checkLate(t, picked, turns(100, 4), 119, true)
	checkLate(t, picked, turns(100, 4), 120, false)
	checkLate(t, picked, turns(100, 4), 121, false)
	checkLate(t, picked, turns(100, 4), 101, true)
	checkLate(t, picked, turns(100, 4), 100, true)
	checkLate(t, picked, turns(100, 4), 99, true)
	checkLate(t, picked, turns(100, 4), 0, true)
	checkLate(t, picked, turns(100, 4, 5, 6, 7), 119, true)
	checkLate(t, picked, turns(100, 4, 5, 6, 7), 120, false)
	checkLate(t, picked, turns(0, 4), 0, true)
	checkLate(t, picked, turns(0, 4), 19, true)
	checkLate(t, picked, turns(0, 4), 20, false)
	checkLate(t, picked, turns(api.MaxClock, 4), api.MaxClock, true)
	checkLate(t, picked, turns(api.MaxClock-19, 4), api.MaxClock, true)
	checkLate(t, picked, turns(api.MaxClock-20, 4), api.MaxClock, false)
	checkLate(t, picked, turns(api.MaxClock, 4), 0, true)
	short := api.Task{Kind: api.TaskPicked, Period: 1, Deadline: 1, CLow: 1, CHigh: 1}
	checkLate(t, short, turns(7, 4), 7, true)
	checkLate(t, short, turns(7, 4), 8, false)
	long := with(picked, func(x *api.Task) { x.Period = api.MaxPeriod })
	checkLate(t, long, turns(7, 4), 1030, true)
	checkLate(t, long, turns(7, 4), 1031, false)
}

// Nothing has to wait of a regular task, of a task without Picks, or ahead of the first job.
func TestNeverLate(t *testing.T) {
	for _, now := range []int{0, 1, 19, 20, 99, 100, 101, 119, 120, api.MaxClock} {
		for _, last := range []int{-1, 0, 100, api.MaxClock} {
			checkLate(t, regular, turns(last), now, false)
			checkLate(t, regular, turns(last, 4), now, false)
			checkLate(t, regular, turns(last, 4, 5, 6, 7), now, false)
			checkLate(t, picked, turns(last), now, false)
			checkLate(t, picked, turns(last, []int{}...), now, false)
		}
		checkLate(t, picked, turns(-1, 4), now, false)
		checkLate(t, picked, turns(-1, 4, 5, 6, 7), now, false)
	}
}

func TestLateOfWhatMayNotBe(t *testing.T) {
	for _, x := range wrongTasks() {
		checkLate(t, x, turns(100, 4), 101, false)
	}
	for _, s := range wrongTurns() {
		checkLate(t, picked, s, 4, false)
		s.Last = 3
		s.Picks = append(s.Picks, 0)
		checkLate(t, picked, s, 4, false)
	}
	for _, no := range noTicks {
		for _, last := range []int{0, 100, api.MaxClock} {
			checkLate(t, picked, turns(last, 4), no, false)
		}
	}
}

// A regular task has a job at each tick that its Period divides, of the first demand, else of CLow.
func TestReleaseRegular(t *testing.T) {
	for _, now := range []int{0, 20, 40, 2000, api.MaxClock - 16} {
		for _, last := range []int{-1, 0, 19, 20, 39, 100, api.MaxClock} {
			checkJob(t, regular, turns(last), now, turns(now), 3)
			checkJob(t, regular, turns(last, 9), now, turns(now), 9)
			checkJob(t, regular, turns(last, 9, 4), now, turns(now, 4), 9)
			checkJob(t, regular, turns(last, 1, 65535, 2, 8), now, turns(now, 65535, 2, 8), 1)
		}
	}
	for _, now := range []int{1, 2, 10, 19, 21, 39, 41, api.MaxClock - 17, api.MaxClock - 15, api.MaxClock} {
		for _, s := range []api.Turns{turns(-1), turns(0), turns(20, 9), turns(api.MaxClock, 9, 4), turns(-1, 1, 2, 3, 4)} {
			checkNoJob(t, regular, s, now, s)
		}
	}
	each := api.Task{Period: 1, Deadline: 1, CLow: 1, CHigh: 1}
	for _, now := range []int{0, 1, 2, 7, api.MaxClock} {
		checkJob(t, each, turns(now, 65535), now, turns(now), 65535)
		checkJob(t, each, turns(now), now, turns(now), 1)
	}
	long := with(regular, func(x *api.Task) { x.Period = api.MaxPeriod })
	checkJob(t, long, turns(0), api.MaxClock, turns(api.MaxClock), 3)
	checkNoJob(t, long, turns(0), api.MaxClock-1, turns(0))
}

// A picked task has a job of the first demand, if it does not have to wait, whatever its Period divides.
func TestReleasePicked(t *testing.T) {
	for _, now := range []int{0, 1, 19, 20, 120, 121, 133, api.MaxClock} {
		checkJob(t, picked, turns(-1, 9), now, turns(now), 9)
		checkJob(t, picked, turns(-1, 9, 4), now, turns(now, 4), 9)
		checkJob(t, picked, turns(-1, 1, 65535, 2, 8), now, turns(now, 65535, 2, 8), 1)
	}
	for _, now := range []int{120, 121, 133, 140, api.MaxClock} {
		checkJob(t, picked, turns(100, 9), now, turns(now), 9)
		checkJob(t, picked, turns(100, 9, 4, 6, 7), now, turns(now, 4, 6, 7), 9)
	}
	for _, now := range []int{0, 20, 99, 100, 101, 110, 119} {
		checkNoJob(t, picked, turns(100, 9), now, turns(100, 9))
		checkNoJob(t, picked, turns(100, 9, 4, 6, 7), now, turns(100, 9, 4, 6, 7))
		checkNoJob(t, picked, turns(api.MaxClock, 9), now, turns(api.MaxClock, 9))
	}
	for _, now := range []int{0, 1, 20, 40, 100, 119, 120, 2000, api.MaxClock} {
		for _, last := range []int{-1, 0, 100, api.MaxClock} {
			checkNoJob(t, picked, turns(last), now, turns(last))
			checkNoJob(t, picked, turns(last, []int{}...), now, turns(last))
		}
	}
}

func TestReleaseOfWhatMayNotBe(t *testing.T) {
	for _, x := range wrongTasks() {
		for _, now := range []int{0, 20, 21} {
			checkNoJob(t, x, turns(-1, 9), now, api.Turns{})
			checkNoJob(t, x, turns(7), now, api.Turns{})
		}
	}
	for _, x := range []api.Task{regular, picked} {
		for _, s := range wrongTurns() {
			for _, now := range []int{0, 20, 21, api.MaxClock} {
				checkNoJob(t, x, s, now, api.Turns{})
			}
		}
		for _, no := range noTicks {
			checkNoJob(t, x, turns(-1, 9), no, api.Turns{})
			checkNoJob(t, x, turns(7, 9, 4), no, api.Turns{})
			checkNoJob(t, x, turns(7), no, api.Turns{})
		}
	}
}

// A demand that is picked again and again comes again, the first one first, a Period behind the one ahead of it.
func TestRow(t *testing.T) {
	s := turns(-1)
	for _, demand := range []int{9, 4, 6, 7} {
		s, _ = task.Pick(picked, s, demand)
	}
	var at, asked []int
	for now := 5; now < 200; now++ {
		then, demand, is := task.Release(picked, s, now)
		if late := len(s.Picks) > 0 && !is; late != task.Late(picked, s, now) {
			t.Errorf("P11.1: Late(%+v, %d) = %t", s, now, !late)
		}
		if is {
			at, asked = append(at, now), append(asked, demand)
		}
		s = then
	}
	if !slices.Equal(at, []int{5, 25, 45, 65}) || !slices.Equal(asked, []int{9, 4, 6, 7}) || !same(s, turns(65)) {
		t.Errorf("P11.2: jobs at %v of %v, then %+v", at, asked, s)
	}
}

// Small tasks, each of them, at small ticks, against the chapter's words.
func TestSmallTasks(t *testing.T) {
	for _, kind := range []int{api.TaskRegular, api.TaskPicked} {
		for period := 1; period < 6; period++ {
			x := api.Task{Kind: kind, Period: period, Deadline: period, CLow: 1, CHigh: period}
			for last := -1; last < 12; last++ {
				for many := range api.MaxPicks + 1 {
					for now := range 20 {
						checkSmall(t, x, turns(last, []int{8, 2, 5, 3}[:many]...), now)
					}
				}
			}
		}
	}
}

// checkSmall holds one of TestSmallTasks against the chapter's words.
func checkSmall(t *testing.T, x api.Task, s api.Turns, now int) {
	t.Helper()
	is := now%x.Period == 0
	if x.Kind == api.TaskPicked {
		late := len(s.Picks) > 0 && s.Last != -1 && now < s.Last+x.Period
		checkLate(t, x, s, now, late)
		is = len(s.Picks) > 0 && !late
	}
	switch {
	case !is:
		checkNoJob(t, x, s, now, s)
	case len(s.Picks) == 0:
		checkJob(t, x, s, now, turns(now), x.CLow)
	default:
		checkJob(t, x, s, now, turns(now, s.Picks[1:]...), s.Picks[0])
	}
}

// roomy answers turns of last with many demands, behind which there is spare room, and all of that room.
func roomy(last int, many int) (api.Turns, []int) {
	room := []int{11, 12, 13, 14, 15, 16, 17, 18, 19}
	return turns(last, room[:many]...), room
}

// answers asks of s each thing at ticks with a job and without, and answers all the turns that are told.
func answers(x api.Task, s api.Turns) []api.Turns {
	first, _ := task.Pick(x, s, 7)
	second, _ := task.Pick(x, s, 8)
	told := []api.Turns{first, second}
	for _, now := range []int{0, 3, 20, 21, 2000} {
		task.Late(x, s, now)
		then, _, _ := task.Release(x, s, now)
		again, _, _ := task.Release(x, s, now)
		told = append(told, then, again)
	}
	return told
}

// What is handed in stays, its spare room too (R4).
func TestArgumentsStay(t *testing.T) {
	for _, x := range []api.Task{regular, picked} {
		for many := range api.MaxPicks + 2 {
			for _, last := range []int{-1, 3} {
				s, room := roomy(last, many)
				kept := slices.Clone(room)
				answers(x, s)
				if !slices.Equal(room, kept) || !same(s, turns(last, kept[:many]...)) {
					t.Errorf("R4: %+v, %v; were %v", s, room, kept)
				}
			}
		}
	}
}

// What is answered shares no memory with what is handed in, nor with another answer (R4).
func TestAnswersAreApart(t *testing.T) {
	for _, x := range []api.Task{regular, picked} {
		for many := range api.MaxPicks + 1 {
			for _, last := range []int{-1, 3} {
				s, room := roomy(last, many)
				kept := slices.Clone(room)
				told, want := answers(x, s), answers(x, s)
				for i, one := range told {
					for j := range one.Picks[:cap(one.Picks)] {
						one.Picks[:cap(one.Picks)][j] = 99
					}
					if !slices.Equal(room, kept) {
						t.Fatalf("R4: what is handed in is %v; was %v", room, kept)
					}
					for j, other := range told[i+1:] {
						if !same(other, want[i+1+j]) {
							t.Fatalf("R4: another answer is %+v; was %+v", other, want[i+1+j])
						}
					}
				}
			}
		}
	}
}

// An answer stays what it is when what was handed in is turned afterwards (R4).
func TestAnswersStay(t *testing.T) {
	for _, x := range []api.Task{regular, picked} {
		for many := range api.MaxPicks + 1 {
			s, room := roomy(3, many)
			told, want := answers(x, s), answers(x, s)
			for i := range want {
				want[i].Picks = slices.Clone(want[i].Picks)
			}
			for i := range room {
				room[i] = 99
			}
			for i, one := range told {
				if !same(one, want[i]) {
					t.Errorf("R4: %+v; was %+v", one, want[i])
				}
			}
		}
	}
}

// What lies behind the length of Picks is no demand that waits, nor one that may be wrong (R5).
func TestSpareRoomIsNoPick(t *testing.T) {
	s := turns(-1, []int{4, 0, -1, 65536, 7}[:1]...)
	checkPick(t, picked, s, 9, turns(-1, 4, 9))
	s = turns(-1, []int{0, 9}[:0]...)
	checkNoJob(t, picked, s, 20, turns(-1))
	checkJob(t, regular, s, 20, turns(20), 3)
	checkLate(t, picked, turns(10, []int{9}[:0]...), 11, false)
}

// A call hangs on nothing but what it is handed: not on another call, not on one that runs beside it (R5).
func TestCallsBesideEachOther(t *testing.T) {
	ask := func(many int) []api.Turns {
		s, _ := roomy(3, many)
		return slices.Concat(answers(regular, s), answers(picked, s))
	}
	var want [api.MaxPicks + 1][]api.Turns
	for many := range want {
		want[many] = ask(many)
	}
	shared, _ := roomy(3, 3)
	var all sync.WaitGroup
	for range 8 {
		all.Go(func() {
			for range 50 {
				for many := range want {
					if got := ask(many); !slices.EqualFunc(got, want[many], same) {
						t.Errorf("R5: %+v; was %+v", got, want[many])
					}
				}
				if got := answers(picked, shared); !slices.EqualFunc(got, want[3][len(got):], same) {
					t.Errorf("R5: %+v; was %+v", got, want[3][len(got):])
				}
			}
		})
	}
	all.Wait()
}
