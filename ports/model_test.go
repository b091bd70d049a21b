package ports_test

import (
	"slices"
	"testing"

	"nocturn/api"
	"nocturn/ports"
)

// model is the ports of a configuration by the chapter's words: of each the values that it holds.
type model struct {
	c      api.Config
	values [][]int
}

// newModel answers the model of a configuration's ports.
func newModel(c api.Config) *model {
	return &model{c: c, values: make([][]int, len(c.Ports))}
}

// outs is Outs by the chapter's words.
func (m *model) outs(part int) int {
	sum, bit := 0, 1
	for _, port := range m.c.Ports {
		if port.From == part {
			sum += bit
		}
		bit *= 2
	}
	return sum
}

// gets is Gets by the chapter's words.
func (m *model) gets(part int) []int {
	var all []int
	for i, port := range m.c.Ports {
		switch {
		case port.To != part:
			all = append(all, -1)
		case len(m.values[i]) > 0:
			all = append(all, m.values[i][0])
		default:
			all = append(all, 0)
		}
	}
	return all
}

// write is Write by the chapter's words.
func (m *model) write(part int, port int, x int) (bool, api.Errno) {
	if port < 0 || port >= len(m.c.Ports) || x < 0 || x > 4294967295 {
		return false, api.ErrPortsForm
	}
	if m.c.Ports[port].From != part {
		return false, api.ErrPortsDenied
	}
	if m.c.Ports[port].Kind == api.PortSampling {
		m.values[port] = []int{x}
		return false, api.OK
	}
	m.values[port] = append(m.values[port], x)
	if len(m.values[port]) <= m.c.Ports[port].Size {
		return false, api.OK
	}
	m.values[port] = m.values[port][1:]
	return true, api.OK
}

// take is Take by the chapter's words.
func (m *model) take(part int, port int) (int, bool, api.Errno) {
	if port < 0 || port >= len(m.c.Ports) {
		return 0, false, api.ErrPortsForm
	}
	if m.c.Ports[port].To != part {
		return 0, false, api.ErrPortsDenied
	}
	if len(m.values[port]) == 0 {
		return 0, false, api.OK
	}
	x := m.values[port][0]
	if m.c.Ports[port].Kind == api.PortQueuing {
		m.values[port] = m.values[port][1:]
	}
	return x, true, api.OK
}

// checkSeen asks ports and their model what each part sees, parts that there are none of with them.
func (m *model) checkSeen(t *testing.T, p *ports.Ports) {
	t.Helper()
	for part := -1; part <= len(m.c.Parts); part++ {
		if got, want := p.Outs(part), m.outs(part); got != want {
			t.Errorf("P17.1: Outs(%d) = %b; want %b", part, got, want)
		}
		if got, want := p.Gets(part), m.gets(part); !slices.Equal(got, want) {
			t.Errorf("P17.1: Gets(%d) = %d; want %d", part, got, want)
		}
	}
}

// checkWrite writes to ports and to their model.
func (m *model) checkWrite(t *testing.T, p *ports.Ports, part int, port int, x int) {
	t.Helper()
	dropped, err := p.Write(part, port, x)
	if want, no := m.write(part, port, x); dropped != want || err != no {
		t.Errorf("P17.2: Write(%d, %d, %d) = %t, %d; want %t, %d", part, port, x, dropped, err, want, no)
	}
}

// checkTake takes from ports and from their model.
func (m *model) checkTake(t *testing.T, p *ports.Ports, part int, port int) {
	t.Helper()
	x, is, err := p.Take(part, port)
	if y, there, no := m.take(part, port); x != y || is != there || err != no {
		t.Errorf("P17.2: Take(%d, %d) = %d, %t, %d; want %d, %t, %d", part, port, x, is, err, y, there, no)
	}
}

// checkCall writes or takes, with numbers of no plain order, some of which may not be.
func (m *model) checkCall(t *testing.T, p *ports.Ports, r *chance) {
	t.Helper()
	port := r.below(len(m.c.Ports)+2) - 1
	part := r.below(len(m.c.Parts)+2) - 1
	there := port >= 0 && port < len(m.c.Ports)
	if r.below(2) == 0 {
		if there && r.below(3) > 0 {
			part = m.c.Ports[port].From
		}
		m.checkWrite(t, p, part, port, values[r.below(len(values))])
		return
	}
	if there && r.below(3) > 0 {
		part = m.c.Ports[port].To
	}
	m.checkTake(t, p, part, port)
}

// someConfig answers a configuration that may be, of parts and ports of no plain order.
func someConfig(r *chance) api.Config {
	c := api.Config{Frame: 1 + r.below(api.MaxFrame), Quiet: 1 + r.below(api.MaxQuiet)}
	var from, to []int
	for i := range 2 + r.below(api.MaxParts-1) {
		level := r.below(2)
		if i < 2 {
			level = i // of each level there is one at the least
		}
		if level == api.High {
			from = append(from, i)
		} else {
			to = append(to, i)
		}
		c.Parts = append(c.Parts, api.Part{Level: level})
	}
	for range r.below(api.MaxPorts + 1) {
		port := api.Port{Kind: r.below(2), From: from[r.below(len(from))], To: to[r.below(len(to))], Size: 1}
		if port.Kind == api.PortQueuing {
			port.Size += r.below(api.MaxPort)
		}
		c.Ports = append(c.Ports, port)
	}
	return c
}

// Calls of no plain order of configurations of no plain order, against the model.
func TestCallsInNoPlainOrder(t *testing.T) {
	var r chance
	for range 300 {
		c := someConfig(&r)
		p, m := newPorts(t, c), newModel(c)
		for range 100 {
			m.checkCall(t, p, &r)
			m.checkSeen(t, p)
		}
	}
}

// Many Ports of one configuration, called in no plain order, each against a model of its own.
func TestManyPortsInNoPlainOrder(t *testing.T) {
	var r chance
	var all []*ports.Ports
	var models []*model
	for i := range 6000 {
		if i%300 == 0 {
			all = append(all, newPorts(t, good()))
			models = append(models, newModel(good()))
		}
		n := r.below(len(all))
		models[n].checkCall(t, all[n], &r)
	}
	for n, p := range all {
		models[n].checkSeen(t, p)
	}
}
