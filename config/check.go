package config

import (
	"slices"

	"nocturn/api"
	"nocturn/code"
	"nocturn/may"
)

// frameMay answers whether Frame and Quiet are in their bounds.
func frameMay(c api.Config) bool {
	return c.Frame >= 1 && c.Frame <= api.MaxFrame && c.Quiet >= 1 && c.Quiet <= api.MaxQuiet
}

// partsMay answers whether there are as many parts as may be, each of a Level.
func partsMay(parts []api.Part) bool {
	if len(parts) < 1 || len(parts) > api.MaxParts {
		return false
	}
	return all(parts, func(p api.Part) bool { return p.Level == api.Low || p.Level == api.High })
}

// tasksMay answers whether a part's tasks may be, beside one another too.
func tasksMay(p api.Part) bool {
	if len(p.Tasks) > api.MaxTasks {
		return false
	}
	for i, t := range p.Tasks {
		if !may.Task(t) || p.Level == api.Low && t.CHigh != t.CLow || hasPrio(p.Tasks[:i], t.Prio) {
			return false
		}
	}
	return true
}

// hasPrio answers whether one of the tasks has that Prio.
func hasPrio(ts []api.Task, prio int) bool {
	return slices.ContainsFunc(ts, func(t api.Task) bool { return t.Prio == prio })
}

// windowsMay answers whether the windows lie in the frame, one behind the other, each of a part that there is.
func windowsMay(c api.Config) bool {
	if len(c.Windows) > api.MaxWindows {
		return false
	}
	// The first window has the frame's begin ahead of it, so that its From is held against 0.
	end := 0
	for _, w := range c.Windows {
		if w.From < end || w.From >= w.To || w.To > c.Frame || !isPart(c.Parts, w.Part) {
			return false
		}
		end = w.To
	}
	return true
}

// portsMay answers whether there are as many ports as may be, each one that may be.
func portsMay(c api.Config) bool {
	return len(c.Ports) <= api.MaxPorts && all(c.Ports, func(p api.Port) bool {
		return isLevel(c.Parts, p.From, api.High) && isLevel(c.Parts, p.To, api.Low) && sizeMay(p)
	})
}

// sizeMay answers whether a port is of a Kind, and its Size one that the Kind has.
func sizeMay(p api.Port) bool {
	switch p.Kind {
	case api.PortSampling:
		return p.Size == 1
	case api.PortQueuing:
		return p.Size >= 1 && p.Size <= api.MaxPort
	}
	return false
}

// codeMay answers whether a part's Code is a program.
func codeMay(p api.Part) bool {
	return code.May(p.Code)
}

// isPart answers whether there is a part i.
func isPart(parts []api.Part, i int) bool {
	return i >= 0 && i < len(parts)
}

// isLevel answers whether there is a part i, and it is of that Level.
func isLevel(parts []api.Part, i int, level int) bool {
	return isPart(parts, i) && parts[i].Level == level
}

// all answers whether is holds of each one.
func all[T any](xs []T, is func(T) bool) bool {
	return !slices.ContainsFunc(xs, func(x T) bool { return !is(x) })
}
