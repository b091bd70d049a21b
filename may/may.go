// Package may says of api's own types what may be, where more than one layer asks for it.
package may

import (
	"nocturn/api"
)

const (
	// maxPrio is the greatest Prio: it is told in one byte.
	maxPrio = 255
	// maxDemand is the most that a job may ask for.
	maxDemand = 65535
)

// Task answers whether t may be (chapter 11, which the layers 5 and 8 ask as well).
func Task(t api.Task) bool {
	return (t.Kind == api.TaskRegular || t.Kind == api.TaskPicked) &&
		t.Period >= 1 && t.Period <= api.MaxPeriod &&
		t.Deadline >= 1 && t.Deadline <= t.Period &&
		t.CLow >= 1 && t.CLow <= t.CHigh &&
		t.CHigh <= t.Deadline &&
		t.Prio >= 0 && t.Prio <= maxPrio
}

// Demand answers whether a job may ask for so many ticks (chapter 11, and those of the layers 12 and 20).
func Demand(ticks int) bool {
	return ticks >= 1 && ticks <= maxDemand
}
