package ports_test

import (
	"math"
	"slices"
	"sync"
	"testing"

	"nocturn/api"
	"nocturn/ports"
)

// values holds numbers that a port carries, and numbers that it does not, just behind an edge.
var values = append([]int{
	0, 1, 2, 7, 255, 256, 65535, 65536, math.MaxInt32, math.MaxInt32 + 1, api.Word - 2, api.Word - 1,
}, noValues...)

// noValues holds numbers that no port carries; some of them end in bits that are one which it does.
var noValues = []int{
	-1, -2, -255, math.MinInt32, -api.Word, -api.Word + 1, math.MinInt + 1, math.MinInt,
	api.Word, api.Word + 1, 2*api.Word - 1, 2 * api.Word, 1 << 40, math.MaxInt - 1, math.MaxInt,
}

// good answers a configuration that may be: parts 1, 2 and 4 are High, 0, 3 and 5 Low; each High part but 4 has ports.
func good() api.Config {
	return api.Config{
		Frame: 10, Quiet: 2,
		Parts: []api.Part{
			{Level: api.Low},
			{Level: api.High, Tasks: []api.Task{{Period: 20, Deadline: 10, CLow: 2, CHigh: 3, Prio: 4}}},
			{Level: api.High, Code: []api.Instr{{Op: api.OpOut, Arg: 1}, {Op: api.OpHalt}}},
			{Level: api.Low}, {Level: api.High}, {Level: api.Low},
		},
		Windows: []api.Window{{From: 0, To: 4, Part: 1}, {From: 5, To: 10, Part: 0}},
		Ports: []api.Port{
			{Kind: api.PortSampling, From: 1, To: 0, Size: 1},
			{Kind: api.PortQueuing, From: 2, To: 0, Size: 2},
			{Kind: api.PortQueuing, From: 1, To: 3, Size: 1},
			{Kind: api.PortSampling, From: 2, To: 3, Size: 1},
			{Kind: api.PortQueuing, From: 1, To: 0, Size: 8},
			{Kind: api.PortQueuing, From: 1, To: 0, Size: 8},
		},
	}
}

// one answers a configuration of a High part 0, a Low part 1, and one port between them.
func one(kind int, size int) api.Config {
	return api.Config{
		Frame: 1, Quiet: 1, Parts: []api.Part{{Level: api.High}, {Level: api.Low}},
		Ports: []api.Port{{Kind: kind, From: 0, To: 1, Size: size}},
	}
}

// newPorts makes the ports of a configuration that may be.
func newPorts(t *testing.T, c api.Config) *ports.Ports {
	t.Helper()
	p, err := ports.New(c)
	if p == nil || err != api.OK {
		t.Fatalf("P17.1: New(%+v) = %v, %d", c, p, err)
	}
	return p
}

// checkOuts asks for the ports that lead from a part.
func checkOuts(t *testing.T, p *ports.Ports, part int, want int) {
	t.Helper()
	if got := p.Outs(part); got != want {
		t.Errorf("P17.1: Outs(%d) = %b; want %b", part, got, want)
	}
}

// checkGets asks for the values that a part would take.
func checkGets(t *testing.T, p *ports.Ports, part int, want ...int) {
	t.Helper()
	if got := p.Gets(part); !slices.Equal(got, want) {
		t.Errorf("P17.1: Gets(%d) = %d; want %d", part, got, want)
	}
}

// checkWrite writes x, for which another value is dropped or not.
func checkWrite(t *testing.T, p *ports.Ports, part int, port int, x int, want bool) {
	t.Helper()
	if got, err := p.Write(part, port, x); got != want || err != api.OK {
		t.Errorf("P17.2: Write(%d, %d, %d) = %t, %d; want %t", part, port, x, got, err, want)
	}
}

// checkNoWrite writes what is not taken in: nothing stands beside the error (R2).
func checkNoWrite(t *testing.T, p *ports.Ports, part int, port int, x int, want api.Errno) {
	t.Helper()
	if got, err := p.Write(part, port, x); got || err != want {
		t.Errorf("P17.2: Write(%d, %d, %d) = %t, %d; want error %d", part, port, x, got, err, want)
	}
}

// checkTake takes a value that there is.
func checkTake(t *testing.T, p *ports.Ports, part int, port int, want int) {
	t.Helper()
	if x, is, err := p.Take(part, port); x != want || !is || err != api.OK {
		t.Errorf("P17.2: Take(%d, %d) = %d, %t, %d; want %d, true", part, port, x, is, err, want)
	}
}

// checkNone takes where there is no value: nothing stands beside the false (R2).
func checkNone(t *testing.T, p *ports.Ports, part int, port int) {
	t.Helper()
	if x, is, err := p.Take(part, port); x != 0 || is || err != api.OK {
		t.Errorf("P17.2: Take(%d, %d) = %d, %t, %d; want 0, false", part, port, x, is, err)
	}
}

// checkNoTake takes what may not be taken: nothing stands beside the error (R2).
func checkNoTake(t *testing.T, p *ports.Ports, part int, port int, want api.Errno) {
	t.Helper()
	if x, is, err := p.Take(part, port); x != 0 || is || err != want {
		t.Errorf("P17.2: Take(%d, %d) = %d, %t, %d; want error %d", part, port, x, is, err, want)
	}
}

// chance makes numbers of no plain order, the same ones each time.
type chance uint64

// below answers the next number, from 0 below n.
func (r *chance) below(n int) int {
	*r = *r*6364136223846793005 + 1442695040888963407
	return int(uint64(*r>>33) % uint64(n))
}

// noParts holds numbers that no part of good has; some of them end in bits that are one which a part has.
var noParts = []int{
	-1, -2, -255, math.MinInt, 6, 7, api.MaxParts, 256, 257, 1 << 32, 1<<32 + 1, 1<<32 + 2, math.MaxInt,
}

// noPorts holds numbers that no port of good has; some of them end in bits that are one which a port has.
var noPorts = []int{-1, -2, -256, math.MinInt, 6, 7, api.MaxPorts, 256, 257, 1 << 32, 1<<32 + 1, math.MaxInt}

func TestNewRefusesConfigurations(t *testing.T) {
	for why, change := range map[string]func(c *api.Config){
		"nothing":             func(c *api.Config) { *c = api.Config{} },
		"Frame 0":             func(c *api.Config) { c.Frame, c.Windows = 0, nil },
		"Frame 257":           func(c *api.Config) { c.Frame = api.MaxFrame + 1 },
		"Quiet 0":             func(c *api.Config) { c.Quiet = 0 },
		"Quiet 17":            func(c *api.Config) { c.Quiet = api.MaxQuiet + 1 },
		"no parts":            func(c *api.Config) { c.Parts, c.Windows, c.Ports = nil, nil, nil },
		"nine parts":          func(c *api.Config) { c.Parts = append(c.Parts, make([]api.Part, 3)...) },
		"no Level":            func(c *api.Config) { c.Parts[4].Level = 2 },
		"a task":              func(c *api.Config) { c.Parts[1].Tasks[0].Period = 0 },
		"a window":            func(c *api.Config) { c.Windows[1].To = 11 },
		"no Kind":             func(c *api.Config) { c.Ports[1].Kind = 2 },
		"Kind -1":             func(c *api.Config) { c.Ports[0].Kind = -1 },
		"from a Low part":     func(c *api.Config) { c.Ports[2].From = 0 },
		"from no part":        func(c *api.Config) { c.Ports[2].From = 6 },
		"from part -1":        func(c *api.Config) { c.Ports[2].From = -1 },
		"to a High part":      func(c *api.Config) { c.Ports[3].To = 4 },
		"to no part":          func(c *api.Config) { c.Ports[3].To = 6 },
		"to part -1":          func(c *api.Config) { c.Ports[3].To = -1 },
		"a sample of two":     func(c *api.Config) { c.Ports[0].Size = 2 },
		"a sample of none":    func(c *api.Config) { c.Ports[0].Size = 0 },
		"a queue of none":     func(c *api.Config) { c.Ports[5].Size = 0 },
		"a queue of nine":     func(c *api.Config) { c.Ports[5].Size = api.MaxPort + 1 },
		"nine ports":          func(c *api.Config) { c.Ports = append(c.Ports, c.Ports[:3]...) },
		"a program":           func(c *api.Config) { c.Parts[2].Code[0].Op = 12 },
		"two that may not be": func(c *api.Config) { c.Ports[0].To, c.Parts[2].Code[0].Op = 1, -1 },
	} {
		c := good()
		change(&c)
		if p, err := ports.New(c); p != nil || err != api.ErrPortsForm {
			t.Errorf("P17.1: %s: New = %v, %d; want nil, %d", why, p, err, api.ErrPortsForm)
		}
	}
}

// Ports that are new hold nothing.
func TestNewPortsHoldNothing(t *testing.T) {
	p := newPorts(t, good())
	for i, port := range good().Ports {
		checkNone(t, p, port.To, i)
	}
	newModel(good()).checkSeen(t, p)
}

func TestOuts(t *testing.T) {
	p := newPorts(t, good())
	for part, want := range []int{0, 0b110101, 0b001010, 0, 0, 0} {
		checkOuts(t, p, part, want)
	}
	for _, part := range noParts {
		checkOuts(t, p, part, 0)
	}
}

func TestGets(t *testing.T) {
	p := newPorts(t, good())
	checkGets(t, p, 0, 0, 0, -1, -1, 0, 0)
	checkGets(t, p, 3, -1, -1, 0, 0, -1, -1)
	for i, port := range good().Ports {
		checkWrite(t, p, port.From, i, 10+i, false)
	}
	checkWrite(t, p, 2, 1, 20, false)
	checkWrite(t, p, 1, 2, 30, true)
	checkGets(t, p, 0, 10, 11, -1, -1, 14, 15)
	checkGets(t, p, 3, -1, -1, 30, 13, -1, -1)
	for _, part := range append([]int{1, 2, 4, 5}, noParts...) {
		checkGets(t, p, part, -1, -1, -1, -1, -1, -1)
	}
}

// As many as may be asked for the values: they stay, and so does what each port leads from.
func TestOutsAndGetsTakeNothing(t *testing.T) {
	p := newPorts(t, good())
	checkWrite(t, p, 1, 0, 5, false)
	checkWrite(t, p, 2, 1, 6, false)
	checkWrite(t, p, 2, 1, 7, false)
	for range 100 {
		checkGets(t, p, 0, 5, 6, -1, -1, 0, 0)
		checkGets(t, p, 3, -1, -1, 0, 0, -1, -1)
		checkOuts(t, p, 1, 0b110101)
	}
	checkTake(t, p, 0, 0, 5)
	checkTake(t, p, 0, 1, 6)
	checkTake(t, p, 0, 1, 7)
	checkNone(t, p, 0, 1)
}

func TestNoPorts(t *testing.T) {
	c := good()
	c.Ports = nil
	p := newPorts(t, c)
	checkWithoutPorts(t, p, api.ErrPortsForm)
}

// As many ports as may be: all of one part to another, and each a number of its own.
func TestMostPorts(t *testing.T) {
	c := one(api.PortQueuing, 2)
	for len(c.Ports) < api.MaxPorts {
		c.Ports = append(c.Ports, c.Ports[0])
	}
	p := newPorts(t, c)
	checkOuts(t, p, 0, 1<<api.MaxPorts-1)
	checkOuts(t, p, 1, 0)
	var want []int
	for i := range c.Ports {
		checkWrite(t, p, 0, i, 100*i, false)
		want = append(want, 100*i)
	}
	checkGets(t, p, 1, want...)
	checkGets(t, p, 0, -1, -1, -1, -1, -1, -1, -1, -1)
	checkNoWrite(t, p, 0, api.MaxPorts, 1, api.ErrPortsForm)
	checkNoTake(t, p, 1, api.MaxPorts, api.ErrPortsForm)
	for i := range c.Ports {
		checkTake(t, p, 1, i, 100*i)
	}
	checkGets(t, p, 1, 0, 0, 0, 0, 0, 0, 0, 0)
}

// A sample keeps the value written last, however often it is taken, and drops none.
func TestSample(t *testing.T) {
	p := newPorts(t, one(api.PortSampling, 1))
	checkNone(t, p, 1, 0)
	for x := range 50 {
		checkWrite(t, p, 0, 0, x, false)
		checkWrite(t, p, 0, 0, 2*x, false)
		for range 3 {
			checkTake(t, p, 1, 0, 2*x)
			checkGets(t, p, 1, 2*x)
		}
	}
}

// A queue of each size drops the first one of a full row, and what is taken is gone.
func TestQueue(t *testing.T) {
	for size := 1; size <= api.MaxPort; size++ {
		p := newPorts(t, one(api.PortQueuing, size))
		checkNone(t, p, 1, 0)
		for x := range size + 5 {
			checkWrite(t, p, 0, 0, x, x >= size)
			checkGets(t, p, 1, max(0, x+1-size))
		}
		for x := 5; x < size+5; x++ {
			checkGets(t, p, 1, x)
			checkTake(t, p, 1, 0, x)
		}
		checkGets(t, p, 1, 0)
		checkNone(t, p, 1, 0)
		checkWrite(t, p, 0, 0, 9, false)
		checkTake(t, p, 1, 0, 9)
		checkNone(t, p, 1, 0)
	}
}

// Each Word is a value as all others, 0 with them, and no other number is.
func TestWhatAPortCarries(t *testing.T) {
	for _, c := range []api.Config{one(api.PortSampling, 1), one(api.PortQueuing, 3)} {
		for _, x := range []int{0, 1, 2, 255, 65536, math.MaxInt32, math.MaxInt32 + 1, api.Word - 2, api.Word - 1} {
			p := newPorts(t, c)
			checkWrite(t, p, 0, 0, x, false)
			checkGets(t, p, 1, x)
			checkTake(t, p, 1, 0, x)
		}
		p := newPorts(t, c)
		for _, x := range noValues {
			checkNoWrite(t, p, 0, 0, x, api.ErrPortsForm)
			checkGets(t, p, 1, 0)
		}
		checkNone(t, p, 1, 0)
	}
}

// No other part than the one that a port leads from writes to it, and no other than the one it leads to takes from it.
func TestDenied(t *testing.T) {
	p, m := newPorts(t, good()), newModel(good())
	for range 2 {
		for i, port := range good().Ports {
			for _, part := range append([]int{0, 1, 2, 3, 4, 5}, noParts...) {
				if part != port.From {
					checkNoWrite(t, p, part, i, 1, api.ErrPortsDenied)
				}
				if part != port.To {
					checkNoTake(t, p, part, i, api.ErrPortsDenied)
				}
				m.checkSeen(t, p)
			}
			m.checkWrite(t, p, port.From, i, 50+i)
			m.checkSeen(t, p)
		}
	}
	for i, port := range good().Ports {
		m.checkTake(t, p, port.To, i)
	}
	m.checkSeen(t, p)
}

// No port, and no Word, stands ahead of a part that may not (R6).
func TestFormAheadOfDenied(t *testing.T) {
	p := newPorts(t, good())
	for _, part := range append([]int{0, 1, 2, 3, 4, 5}, noParts...) {
		for _, port := range noPorts {
			checkNoWrite(t, p, part, port, 1, api.ErrPortsForm)
			checkNoWrite(t, p, part, port, -1, api.ErrPortsForm)
			checkNoTake(t, p, part, port, api.ErrPortsForm)
		}
		for port := range good().Ports {
			for _, x := range noValues {
				checkNoWrite(t, p, part, port, x, api.ErrPortsForm)
			}
		}
	}
	newModel(good()).checkSeen(t, p)
}

// An answer that is an error turns nothing, of full ports neither.
func TestErrorsChangeNothing(t *testing.T) {
	p, m := newPorts(t, good()), newModel(good())
	for i, port := range good().Ports {
		for x := range port.Size {
			m.checkWrite(t, p, port.From, i, 10*i+x)
		}
	}
	for i, port := range good().Ports {
		checkNoWrite(t, p, port.From, i, -1, api.ErrPortsForm)
		checkNoWrite(t, p, port.From, i, api.Word, api.ErrPortsForm)
		checkNoWrite(t, p, port.To, i, 1, api.ErrPortsDenied)
		checkNoWrite(t, p, 4, i, 1, api.ErrPortsDenied)
		checkNoTake(t, p, port.From, i, api.ErrPortsDenied)
		checkNoTake(t, p, 5, i, api.ErrPortsDenied)
	}
	for _, port := range noPorts {
		checkNoWrite(t, p, 1, port, 1, api.ErrPortsForm)
		checkNoTake(t, p, 0, port, api.ErrPortsForm)
	}
	if no, err := ports.New(api.Config{}); no != nil || err != api.ErrPortsForm {
		t.Errorf("P17.1: New of nothing = %v, %d", no, err)
	}
	for i, port := range good().Ports {
		for range port.Size + 1 {
			m.checkTake(t, p, port.To, i)
			m.checkSeen(t, p)
		}
	}
}

// What is written to one port is not seen at another, also where they lead between the same parts.
func TestPortsAreApart(t *testing.T) {
	p := newPorts(t, good())
	checkWrite(t, p, 1, 4, 5, false)
	checkGets(t, p, 0, 0, 0, -1, -1, 5, 0)
	checkNone(t, p, 0, 5)
	checkNone(t, p, 0, 0)
	checkWrite(t, p, 1, 0, 6, false)
	checkGets(t, p, 0, 6, 0, -1, -1, 5, 0)
	checkWrite(t, p, 1, 5, 7, false)
	checkTake(t, p, 0, 4, 5)
	checkGets(t, p, 0, 6, 0, -1, -1, 0, 7)
	checkGets(t, p, 3, -1, -1, 0, 0, -1, -1)
}

func TestTwoOfOneConfigurationAreApart(t *testing.T) {
	c := good()
	a, b := newPorts(t, c), newPorts(t, c)
	if a == b {
		t.Fatal("R5: two calls of New answer the same ports")
	}
	checkWrite(t, a, 1, 0, 5, false)
	checkWrite(t, a, 1, 2, 6, false)
	newModel(c).checkSeen(t, b)
	checkWrite(t, b, 1, 2, 7, false)
	checkWrite(t, a, 1, 2, 8, true)
	checkGets(t, b, 3, -1, -1, 7, 0, -1, -1)
	checkTake(t, b, 3, 2, 7)
	checkTake(t, a, 3, 2, 8)
	checkNone(t, b, 0, 0)
	newModel(c).checkSeen(t, b)
}

// Whoever writes is answered the same whether its ports are read or not, but for what is dropped.
func TestWriterSeesNothingOfReaders(t *testing.T) {
	c := good()
	read, left := newPorts(t, c), newPorts(t, c)
	var r chance
	for range 3000 {
		part, port, x := r.below(8)-1, r.below(8)-1, values[r.below(len(values))]
		was, err := read.Write(part, port, x)
		is, no := left.Write(part, port, x)
		if err != no {
			t.Errorf("P17.3: Write(%d, %d, %d) = %d where it is read, %d where it is not", part, port, x, err, no)
		}
		if was && !is {
			t.Errorf("P17.3: Write(%d, %d, %d) drops where it is read, and not where it is not", part, port, x)
		}
		if there := port >= 0 && port < len(c.Ports); there && c.Ports[port].Kind == api.PortSampling && is {
			t.Errorf("P17.3: Write(%d, %d, %d) drops of a sample", part, port, x)
		}
		for range r.below(4) {
			i := r.below(len(c.Ports))
			read.Take(c.Ports[i].To, i)
		}
		for _, part := range []int{1, 2, 4} {
			outs, gets := left.Outs(part), left.Gets(part)
			if a, b := read.Outs(part), read.Gets(part); a != outs || !slices.Equal(b, gets) {
				t.Errorf("P17.3: part %d sees %b, %d where it is read; %b, %d where it is not", part, a, b, outs, gets)
			}
		}
	}
}

// A part that may not take is answered the same whatever stands in the port, and so is one that may not write.
func TestDeniedPartsSeeNothing(t *testing.T) {
	for _, c := range []api.Config{one(api.PortSampling, 1), one(api.PortQueuing, 1)} {
		p := newPorts(t, c)
		for range 3 {
			checkNoTake(t, p, 0, 0, api.ErrPortsDenied)
			checkNoWrite(t, p, 1, 0, 3, api.ErrPortsDenied)
			checkGets(t, p, 0, -1)
			p.Write(0, 0, 4)
		}
		checkTake(t, p, 1, 0, 4)
		checkNoTake(t, p, 0, 0, api.ErrPortsDenied)
		checkNoWrite(t, p, 1, 0, 3, api.ErrPortsDenied)
	}
}

// roomy answers good with spare room behind its lists, and the whole of these, the spare room with it.
func roomy() (api.Config, []api.Part, []api.Window, []api.Port) {
	c := good()
	parts := append(c.Parts, api.Part{Level: 77})
	windows := append(c.Windows, api.Window{From: 77})
	all := append(c.Ports, api.Port{From: 77})
	c.Parts, c.Windows, c.Ports = parts[:6], windows[:2], all[:6]
	return c, parts, windows, all
}

func TestConfigurationStays(t *testing.T) {
	c, parts, windows, all := roomy()
	p := newPorts(t, c)
	for i, port := range good().Ports {
		checkWrite(t, p, port.From, i, 1, false)
		checkTake(t, p, port.To, i, 1)
	}
	p.Outs(1)
	p.Gets(0)
	was := good()
	if c.Frame != was.Frame || c.Quiet != was.Quiet || len(c.Parts) != 6 || parts[6].Level != 77 {
		t.Errorf("R4: the configuration is %+v; was %+v", c, was)
	}
	for i, part := range was.Parts {
		same := c.Parts[i].Level == part.Level && slices.Equal(c.Parts[i].Tasks, part.Tasks)
		if !same || !slices.Equal(c.Parts[i].Code, part.Code) {
			t.Errorf("R4: part %d is %+v; was %+v", i, c.Parts[i], part)
		}
	}
	if !slices.Equal(windows, append(was.Windows, api.Window{From: 77})) {
		t.Errorf("R4: the windows are %+v", windows)
	}
	if !slices.Equal(all, append(was.Ports, api.Port{From: 77})) {
		t.Errorf("R4: the ports are %+v", all)
	}
}

// Whatever becomes of the configuration behind New, the ports are those that it told.
func TestConfigurationIsNotKept(t *testing.T) {
	c := good()
	p, m := newPorts(t, c), newModel(good())
	m.checkWrite(t, p, 2, 1, 5)
	for i := range c.Ports {
		c.Ports[i] = api.Port{Kind: 1 - c.Ports[i].Kind, From: 4, To: 5, Size: 3}
	}
	for i := range c.Parts {
		c.Parts[i] = api.Part{Level: 1 - c.Parts[i].Level}
	}
	m.checkSeen(t, p)
	var r chance
	for range 500 {
		m.checkCall(t, p, &r)
		m.checkSeen(t, p)
	}
}

// A list that Gets answers is its own: turning it turns nothing, and no later call turns it.
func TestGetsAnswersAListOfItsOwn(t *testing.T) {
	p := newPorts(t, good())
	for i, port := range good().Ports {
		checkWrite(t, p, port.From, i, 10+i, false)
	}
	a, b := p.Gets(0), p.Gets(0)
	for i := range a {
		a[i] = -9
	}
	if want := []int{10, 11, -1, -1, 14, 15}; !slices.Equal(b, want) {
		t.Errorf("R4: a list of Gets(0) is %d when another one is turned; was %d", b, want)
	}
	for i := range b[:cap(b)] {
		b[:cap(b)][i] = -8
	}
	checkGets(t, p, 0, 10, 11, -1, -1, 14, 15)
	checkGets(t, p, 3, -1, -1, 12, 13, -1, -1)
	c := p.Gets(0)
	checkWrite(t, p, 1, 0, 20, false)
	checkTake(t, p, 0, 1, 11)
	if want := []int{10, 11, -1, -1, 14, 15}; !slices.Equal(c, want) {
		t.Errorf("R4: a list of Gets(0) is %d behind a Write and a Take; was %d", c, want)
	}
	checkTake(t, p, 0, 4, 14)
}

// Ports are told by their own calls alone, also where others are made and called at the same time.
func TestPortsBesideEachOther(t *testing.T) {
	c := good()
	var all sync.WaitGroup
	for n := range 8 {
		all.Go(func() {
			p, err := ports.New(c)
			if p == nil || err != api.OK {
				t.Errorf("P17.1: New(%+v) = %v, %d", c, p, err)
				return
			}
			m, r := newModel(c), chance(n)
			for range 200 {
				m.checkCall(t, p, &r)
				m.checkSeen(t, p)
			}
		})
	}
	all.Wait()
}

// checkWithoutPorts asks ports of which there are none.
func checkWithoutPorts(t *testing.T, p *ports.Ports, want api.Errno) {
	t.Helper()
	for _, part := range append([]int{0, 1, 2}, noParts...) {
		checkOuts(t, p, part, 0)
		checkGets(t, p, part)
		for _, port := range append([]int{0, 1, 2}, noPorts...) {
			for _, x := range values {
				checkNoWrite(t, p, part, port, x, want)
			}
			checkNoTake(t, p, part, port, want)
		}
	}
}

// Of nil ports nothing is told, and ErrNil stands ahead of each other error (R3).
func TestNilPorts(t *testing.T) {
	checkWithoutPorts(t, nil, api.ErrNil)
}

// Ports that New did not make are none: no call panics (R1).
func TestPortsThatNewDidNotMake(t *testing.T) {
	checkWithoutPorts(t, new(ports.Ports), api.ErrPortsForm)
}
