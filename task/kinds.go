package task

import (
	"nocturn/api"
)

// kind is a task of one of the Tasks, with its turns.
type kind interface {
	// comes answers whether there is a job at now.
	comes(now int) bool
	// late answers whether the first one of Picks would have to wait at now.
	late(now int) bool
	// kept answers the turns without a job.
	kept() api.Turns
	// release answers the turns with a job at now, and its demand.
	release(now int) (api.Turns, int)
}

// kindOf answers t, which may be, as what its Kind makes of it.
func kindOf(t api.Task, s api.Turns) kind {
	x := shared{t, s}
	if t.Kind == api.TaskPicked {
		return picked{x}
	}
	return regular{x}
}

// shared is the part that the kinds share: a task and its turns, and what a job does to them, once the kind has said
// that it comes.
type shared struct {
	api.Task
	api.Turns
}

// late is false of a kind that says nothing else: its jobs hang on the tick alone, so none of its Picks puts one off.
func (x shared) late(int) bool {
	return false
}

// waits answers whether there are Picks.
func (x shared) waits() bool {
	return len(x.Picks) > 0
}

func (x shared) kept() api.Turns {
	return api.Turns{Last: x.Last, Picks: copied(x.Picks)}
}

// release takes the first one of Picks, which is gone, else CLow.
func (x shared) release(now int) (api.Turns, int) {
	if !x.waits() {
		return api.Turns{Last: now}, x.CLow
	}
	return api.Turns{Last: now, Picks: copied(x.Picks[1:])}, x.Picks[0]
}

// regular is a task whose jobs come at each tick that Period divides.
type regular struct {
	shared
}

func (x regular) comes(now int) bool {
	return now%x.Period == 0
}

// picked is a task whose jobs come as they are picked, a Period behind one another at the least.
type picked struct {
	shared
}

func (x picked) comes(now int) bool {
	return x.waits() && !x.late(now)
}

// late holds of a now ahead of Last too: it is less than Period behind it.
func (x picked) late(now int) bool {
	return x.waits() && x.Last != never && now-x.Last < x.Period
}
