// Package may says of api's own types, and of the numbers in them, what may be, where more than one layer asks for it.
package may

import (
	"nocturn/api"
)

const (
	// maxPrio is the greatest Prio: it is told in one byte.
	maxPrio = 255
	// maxDemand is the most that a job may ask for.
	maxDemand = 65535
)

// Task answers whether t may be (chapter 11, which the layers 5 and 8 ask as well).
func Task(t api.Task) bool {
	return (t.Kind == api.TaskRegular || t.Kind == api.TaskPicked) &&
		t.Period >= 1 && t.Period <= api.MaxPeriod &&
		t.Deadline >= 1 && t.Deadline <= t.Period &&
		t.CLow >= 1 && t.CLow <= t.CHigh &&
		t.CHigh <= t.Deadline &&
		Prio(t.Prio)
}

// Prio answers whether a task, and its jobs, may stand by prio (chapters 11 and 12).
func Prio(prio int) bool {
	return prio >= 0 && prio <= maxPrio
}

// Demand answers whether a job may ask for so many ticks (chapter 11, and those of the layers 12 and 20).
func Demand(ticks int) bool {
	return ticks >= 1 && ticks <= maxDemand
}

// Clock answers whether now is a tick at which a clock may stand (chapters 6, 11 and 12).
func Clock(now int) bool {
	return now >= 0 && now <= api.MaxClock
}
