package config_test

import (
	"fmt"
	"math"
	"slices"
	"strings"
	"testing"

	"nocturn/api"
	"nocturn/config"
)

// good answers a configuration that may be: parts 0 and 2 are High, 1 and 3 Low.
func good() api.Config {
	return api.Config{
		Frame: 20, Quiet: 3,
		Parts: []api.Part{
			{Level: api.High, Tasks: []api.Task{
				{Kind: api.TaskRegular, Period: 300, Deadline: 260, CLow: 2, CHigh: 257, Prio: 4},
				{Kind: api.TaskPicked, Period: 1024, Deadline: 1024, CLow: 1, CHigh: 1, Prio: 255},
			}, Code: []api.Instr{{Op: api.OpConst, Arg: 200}, {Op: api.OpOut, Arg: 7}, {Op: api.OpJump, Arg: 2}}},
			{Level: api.Low, Tasks: []api.Task{{Kind: api.TaskPicked, Period: 12, Deadline: 9, CLow: 3, CHigh: 3, Prio: 4}}},
			{Level: api.High, Code: []api.Instr{{Op: api.OpHalt}}},
			{Level: api.Low, Tasks: []api.Task{
				{Period: 7, Deadline: 7, CLow: 7, CHigh: 7, Prio: 0},
				{Period: 8, Deadline: 6, CLow: 2, CHigh: 2, Prio: 1},
			}},
		},
		Windows: []api.Window{{From: 0, To: 4, Part: 0}, {From: 4, To: 9, Part: 3}, {From: 12, To: 20, Part: 2}},
		Ports: []api.Port{
			{Kind: api.PortSampling, From: 0, To: 1, Size: 1},
			{Kind: api.PortQueuing, From: 2, To: 3, Size: 8},
			{Kind: api.PortQueuing, From: 0, To: 3, Size: 1},
		},
	}
}

// goodBytes are good's, as the chapter lays them.
const goodBytes = "NC\x00\x14\x03" + "\x04" +
	"\x01\x02" + "\x00\x01\x2c\x01\x04\x00\x02\x01\x01\x04" + "\x01\x04\x00\x04\x00\x00\x01\x00\x01\xff" + "\x03\x01\xc8\x09\x07\x06\x02" +
	"\x00\x01" + "\x01\x00\x0c\x00\x09\x00\x03\x00\x03\x04" + "\x00" +
	"\x01\x00" + "\x01\x0b\x00" +
	"\x00\x02" + "\x00\x00\x07\x00\x07\x00\x07\x00\x07\x00" + "\x00\x00\x08\x00\x06\x00\x02\x00\x02\x01" + "\x00" +
	"\x03" + "\x00\x00\x00\x04\x00" + "\x00\x04\x00\x09\x03" + "\x00\x0c\x00\x14\x02" +
	"\x03" + "\x00\x00\x01\x01" + "\x01\x02\x03\x08" + "\x01\x00\x03\x01"

// full answers the greatest configuration that may be: as many of everything as the limits let be.
func full() api.Config {
	c := api.Config{Frame: api.MaxFrame, Quiet: api.MaxQuiet}
	for i := range api.MaxParts {
		p := api.Part{Level: i % 2, Code: slices.Repeat([]api.Instr{{Op: api.OpConst, Arg: 255}}, api.MaxCode)}
		for k := range api.MaxTasks {
			p.Tasks = append(p.Tasks, api.Task{Kind: k % 2, Period: 1024, Deadline: 1024, CLow: 1024, CHigh: 1024, Prio: 255 - k})
		}
		c.Parts = append(c.Parts, p)
	}
	for i := range api.MaxWindows {
		c.Windows = append(c.Windows, api.Window{From: 8 * i, To: 8*i + 8, Part: i % api.MaxParts})
	}
	for i := range api.MaxPorts {
		c.Ports = append(c.Ports, api.Port{Kind: api.PortQueuing, From: 7, To: 6, Size: 1 + i})
	}
	return c
}

// number answers the bytes of a number, the highest first.
func number(x int, size int) string {
	if size == 0 {
		return ""
	}
	return number(x/256, size-1) + string([]byte{byte(x % 256)})
}

// bytesOf answers how a configuration is laid, one that may not be too, if its numbers fit their bytes.
func bytesOf(c api.Config) string {
	var s strings.Builder
	lay := func(size int, xs ...int) {
		for _, x := range xs {
			s.WriteString(number(x, size))
		}
	}
	s.WriteString("NC")
	lay(2, c.Frame)
	lay(1, c.Quiet, len(c.Parts))
	for _, p := range c.Parts {
		lay(1, p.Level, len(p.Tasks))
		for _, x := range p.Tasks {
			lay(1, x.Kind)
			lay(2, x.Period, x.Deadline, x.CLow, x.CHigh)
			lay(1, x.Prio)
		}
		lay(1, len(p.Code))
		for _, x := range p.Code {
			lay(1, x.Op, x.Arg)
		}
	}
	lay(1, len(c.Windows))
	for _, x := range c.Windows {
		lay(2, x.From, x.To)
		lay(1, x.Part)
	}
	lay(1, len(c.Ports))
	for _, x := range c.Ports {
		lay(1, x.Kind, x.From, x.To, x.Size)
	}
	return s.String()
}

// fits answers whether each number of a configuration fits its bytes.
func fits(c api.Config) bool {
	is := true
	fit := func(below int, xs ...int) {
		for _, x := range xs {
			is = is && x >= 0 && x < below
		}
	}
	fit(65536, c.Frame)
	fit(256, c.Quiet, len(c.Parts), len(c.Windows), len(c.Ports))
	for _, p := range c.Parts {
		fit(256, p.Level, len(p.Tasks), len(p.Code))
		for _, x := range p.Tasks {
			fit(256, x.Kind, x.Prio)
			fit(65536, x.Period, x.Deadline, x.CLow, x.CHigh)
		}
		for _, x := range p.Code {
			fit(256, x.Op, x.Arg)
		}
	}
	for _, x := range c.Windows {
		fit(65536, x.From, x.To)
		fit(256, x.Part)
	}
	for _, x := range c.Ports {
		fit(256, x.Kind, x.From, x.To, x.Size)
	}
	return is
}

// same answers whether two configurations are one: an empty list and nil are.
func same(a api.Config, b api.Config) bool {
	samePart := func(x api.Part, y api.Part) bool {
		return x.Level == y.Level && slices.Equal(x.Tasks, y.Tasks) && slices.Equal(x.Code, y.Code)
	}
	return a.Frame == b.Frame && a.Quiet == b.Quiet && slices.EqualFunc(a.Parts, b.Parts, samePart) &&
		slices.Equal(a.Windows, b.Windows) && slices.Equal(a.Ports, b.Ports)
}

// checkMay holds a configuration that may be against its bytes, there and back.
func checkMay(t *testing.T, c api.Config, want string) {
	t.Helper()
	if err := config.Check(c); err != api.OK {
		t.Errorf("P5.1: Check(%+v) = %d", c, err)
	}
	if s, err := config.Put(c); s != want || err != api.OK {
		t.Errorf("P5.2: Put(%+v) = %q, %d; want %q", c, s, err, want)
	}
	if back, err := config.Get(want); !same(back, c) || err != api.OK {
		t.Errorf("P5.2: Get(%q) = %+v, %d; want %+v", want, back, err, c)
	}
}

// checkMayNot asks for a configuration that may not be; for its bytes too, if it has any.
func checkMayNot(t *testing.T, why string, c api.Config, want api.Errno) {
	t.Helper()
	if err := config.Check(c); err != want {
		t.Errorf("P5.1: %s: Check = %d, want %d", why, err, want)
	}
	if s, err := config.Put(c); s != "" || err != want {
		t.Errorf("P5.2: %s: Put = %q, %d, want %d", why, s, err, want)
	}
	if fits(c) {
		checkNoBytes(t, why, bytesOf(c), want)
	}
}

// checkNoBytes asks for bytes of which Get answers nothing but an error.
func checkNoBytes(t *testing.T, why string, s string, want api.Errno) {
	t.Helper()
	if c, err := config.Get(s); !same(c, api.Config{}) || err != want {
		t.Errorf("P5.2: %s: Get = %+v, %d, want %d", why, c, err, want)
	}
}

// change is one that is made to good.
type change struct {
	why  string
	make func(c *api.Config)
}

// changed answers good with changes, one made behind the other.
func changed(all ...change) api.Config {
	c := good()
	for _, x := range all {
		x.make(&c)
	}
	return c
}

// manyParts answers so many parts like good's first one.
func manyParts(many int) []api.Part {
	return slices.Repeat([]api.Part{{Level: api.High}}, many)
}

// manyTasks answers so many tasks, each of a Prio of its own.
func manyTasks(many int) []api.Task {
	var ts []api.Task
	for i := range many {
		ts = append(ts, api.Task{Period: 9, Deadline: 9, CLow: 1, CHigh: 1, Prio: i})
	}
	return ts
}

// manyWindows answers so many windows of one tick, one behind the other.
func manyWindows(many int) []api.Window {
	var ws []api.Window
	for i := range many {
		ws = append(ws, api.Window{From: i, To: i + 1})
	}
	return ws
}

// manyPorts answers so many ports like good's first one.
func manyPorts(many int) []api.Port {
	return slices.Repeat([]api.Port{{From: 0, To: 1, Size: 1}}, many)
}

func TestOrdinary(t *testing.T) {
	checkMay(t, good(), goodBytes)
	checkMay(t, api.Config{Frame: 1, Quiet: 1, Parts: []api.Part{{}}}, "NC\x00\x01\x01\x01\x00\x00\x00\x00\x00")
	checkMay(t, api.Config{
		Frame: 256, Quiet: 16,
		Parts:   []api.Part{{Level: api.High}, {Level: api.Low, Tasks: []api.Task{}, Code: []api.Instr{{Op: api.OpIn}}}},
		Windows: []api.Window{{From: 255, To: 256, Part: 1}},
		Ports:   []api.Port{{From: 0, To: 1, Size: 1}},
	}, "NC\x01\x00\x10\x02\x01\x00\x00\x00\x00\x01\x08\x00\x01\x00\xff\x01\x00\x01\x01\x00\x00\x01\x01")
}

func TestFull(t *testing.T) {
	c := full()
	checkMay(t, c, bytesOf(c))
	if s, _ := config.Put(c); len(s) != 1728 {
		t.Errorf("P5.2: %d bytes", len(s))
	}
}

// changesThatMayBe lead from good to configurations that may be as well: the near sides of the edges.
func changesThatMayBe() []change {
	return []change{
		{"Frame MaxFrame", func(c *api.Config) { c.Frame = api.MaxFrame }},
		{"Frame at the last window's end", func(c *api.Config) { c.Frame = 20 }},
		{"Frame 1", func(c *api.Config) { c.Frame, c.Windows = 1, []api.Window{{From: 0, To: 1, Part: 3}} }},
		{"Frame 1, no window", func(c *api.Config) { c.Frame, c.Windows = 1, nil }},
		{"Quiet 1", func(c *api.Config) { c.Quiet = 1 }},
		{"Quiet MaxQuiet", func(c *api.Config) { c.Quiet = api.MaxQuiet }},
		{"one part", func(c *api.Config) { c.Parts, c.Windows, c.Ports = manyParts(1), manyWindows(1), nil }},
		{"MaxParts", func(c *api.Config) { c.Parts = append(c.Parts, manyParts(api.MaxParts-4)...) }},
		{"window of the last part", func(c *api.Config) {
			c.Parts = append(c.Parts, manyParts(4)...)
			c.Windows[0].Part = 7
		}},
		{"no task", func(c *api.Config) { c.Parts[0].Tasks = nil }},
		{"MaxTasks", func(c *api.Config) { c.Parts[0].Tasks = manyTasks(api.MaxTasks) }},
		{"MaxTasks of a Low part", func(c *api.Config) { c.Parts[3].Tasks = manyTasks(api.MaxTasks) }},
		{"all Prios reversed", func(c *api.Config) {
			c.Parts[3].Tasks = manyTasks(api.MaxTasks)
			slices.Reverse(c.Parts[3].Tasks)
		}},
		{"two parts of one Prio", func(c *api.Config) { c.Parts[3].Tasks[0].Prio = 4 }},
		{"CHigh at CLow in a High part", func(c *api.Config) { c.Parts[0].Tasks[0].CHigh = 2 }},
		{"no window", func(c *api.Config) { c.Windows = nil }},
		{"MaxWindows", func(c *api.Config) { c.Frame, c.Windows = 256, manyWindows(api.MaxWindows) }},
		{"a window of the whole frame", func(c *api.Config) { c.Windows = []api.Window{{From: 0, To: 20, Part: 1}} }},
		{"a gap ahead of the first window", func(c *api.Config) { c.Windows[0].From = 3 }},
		{"a window of a part ahead", func(c *api.Config) { c.Windows[1].Part = 0 }},
		{"no port", func(c *api.Config) { c.Ports = nil }},
		{"MaxPorts", func(c *api.Config) { c.Ports = manyPorts(api.MaxPorts) }},
		{"Size MaxPort", func(c *api.Config) { c.Ports[2].Size = api.MaxPort }},
		{"Size 1 of a queuing port", func(c *api.Config) { c.Ports[1].Size = 1 }},
		{"no Code", func(c *api.Config) { c.Parts[0].Code, c.Parts[2].Code = nil, []api.Instr{} }},
		{"MaxCode", func(c *api.Config) { c.Parts[3].Code = make([]api.Instr, api.MaxCode) }},
	}
}

func TestNearSidesOfTheEdges(t *testing.T) {
	for _, x := range changesThatMayBe() {
		c := changed(x)
		if err := config.Check(c); err != api.OK {
			t.Errorf("P5.1: %s: Check = %d", x.why, err)
		}
		checkMay(t, c, bytesOf(c))
	}
}

// faults are, by the error that is to come of them, changes that make good one that may not be.
func faults() map[api.Errno][]change {
	return map[api.Errno][]change{
		api.ErrConfigFrame:  frameFaults(),
		api.ErrConfigPart:   partFaults(),
		api.ErrConfigTask:   taskFaults(),
		api.ErrConfigWindow: windowFaults(),
		api.ErrConfigPort:   portFaults(),
		api.ErrConfigCode:   codeFaults(),
	}
}

func frameFaults() []change {
	return []change{
		{"Frame 0", func(c *api.Config) { c.Frame = 0 }},
		{"Frame -1", func(c *api.Config) { c.Frame = -1 }},
		{"Frame 257", func(c *api.Config) { c.Frame = api.MaxFrame + 1 }},
		{"Frame 65,535", func(c *api.Config) { c.Frame = 65535 }},
		{"Frame that ends in 20", func(c *api.Config) { c.Frame = 65536 + 20 }},
		{"least Frame", func(c *api.Config) { c.Frame = math.MinInt }},
		{"greatest Frame", func(c *api.Config) { c.Frame = math.MaxInt }},
		{"Quiet 0", func(c *api.Config) { c.Quiet = 0 }},
		{"Quiet -1", func(c *api.Config) { c.Quiet = -1 }},
		{"Quiet 17", func(c *api.Config) { c.Quiet = api.MaxQuiet + 1 }},
		{"Quiet that ends in 1", func(c *api.Config) { c.Quiet = 257 }},
		{"greatest Quiet", func(c *api.Config) { c.Quiet = math.MaxInt }},
		{"nothing at all", func(c *api.Config) { *c = api.Config{} }},
	}
}

func partFaults() []change {
	return []change{
		{"no part", func(c *api.Config) { c.Parts = nil }},
		{"an empty list of parts", func(c *api.Config) { c.Parts = []api.Part{} }},
		{"no part, no window, no port", func(c *api.Config) { c.Parts, c.Windows, c.Ports = nil, nil, nil }},
		{"9 parts", func(c *api.Config) { c.Parts = append(c.Parts, manyParts(api.MaxParts+1-4)...) }},
		{"255 parts", func(c *api.Config) { c.Parts = manyParts(255) }},
		{"260 parts", func(c *api.Config) { c.Parts = append(c.Parts, manyParts(256)...) }},
		{"Level 2", func(c *api.Config) { c.Parts[0].Level = 2 }},
		{"Level -1", func(c *api.Config) { c.Parts[1].Level = -1 }},
		{"the last Level", func(c *api.Config) { c.Parts[3].Level = 2 }},
		{"Level 255", func(c *api.Config) { c.Parts[2].Level = 255 }},
		{"Level that ends in 0", func(c *api.Config) { c.Parts[1].Level = 256 }},
		{"greatest Level", func(c *api.Config) { c.Parts[1].Level = math.MaxInt }},
	}
}

func taskFaults() []change {
	return []change{
		{"7 tasks", func(c *api.Config) { c.Parts[0].Tasks = manyTasks(api.MaxTasks + 1) }},
		{"7 tasks of the last part", func(c *api.Config) { c.Parts[3].Tasks = manyTasks(api.MaxTasks + 1) }},
		{"255 tasks", func(c *api.Config) { c.Parts[2].Tasks = manyTasks(255) }},
		{"256 tasks", func(c *api.Config) { c.Parts[2].Tasks = manyTasks(256) }},
		{"a task of nothing", func(c *api.Config) { c.Parts[0].Tasks[0] = api.Task{} }},
		{"Kind 2", func(c *api.Config) { c.Parts[0].Tasks[0].Kind = 2 }},
		{"Kind -1", func(c *api.Config) { c.Parts[0].Tasks[0].Kind = -1 }},
		{"Period 0", func(c *api.Config) { c.Parts[0].Tasks[0].Period = 0 }},
		{"Period 1,025", func(c *api.Config) { c.Parts[0].Tasks[1].Period = api.MaxPeriod + 1 }},
		{"Deadline above Period", func(c *api.Config) { c.Parts[0].Tasks[0].Deadline = 301 }},
		{"Deadline below CHigh", func(c *api.Config) { c.Parts[0].Tasks[0].Deadline = 256 }},
		{"CLow 0", func(c *api.Config) { c.Parts[0].Tasks[0].CLow = 0 }},
		{"CLow above CHigh", func(c *api.Config) { c.Parts[0].Tasks[0].CLow = 258 }},
		{"Prio 256", func(c *api.Config) { c.Parts[0].Tasks[0].Prio = 256 }},
		{"Prio -1", func(c *api.Config) { c.Parts[0].Tasks[0].Prio = -1 }},
		{"the last task", func(c *api.Config) { c.Parts[3].Tasks[1].Deadline = 0 }},
		{"CHigh above CLow in a Low part", func(c *api.Config) { c.Parts[1].Tasks[0].CLow = 2 }},
		{"CHigh one above CLow in the last part", func(c *api.Config) { c.Parts[3].Tasks[1].CHigh = 3 }},
		{"a High part's tasks in a Low one", func(c *api.Config) { c.Parts[1].Tasks = slices.Clone(c.Parts[0].Tasks) }},
		{"two of one Prio", func(c *api.Config) { c.Parts[0].Tasks[0].Prio = 255 }},
		{"two of one Prio in the last part", func(c *api.Config) { c.Parts[3].Tasks[1].Prio = 0 }},
		{"the first and the last of one Prio", func(c *api.Config) {
			c.Parts[0].Tasks = manyTasks(api.MaxTasks)
			c.Parts[0].Tasks[5].Prio = 0
		}},
		{"the last two of one Prio", func(c *api.Config) {
			c.Parts[0].Tasks = manyTasks(api.MaxTasks)
			c.Parts[0].Tasks[4].Prio = 5
		}},
	}
}

func windowFaults() []change {
	return []change{
		{"33 windows", func(c *api.Config) { c.Frame, c.Windows = 256, manyWindows(api.MaxWindows+1) }},
		{"255 windows", func(c *api.Config) { c.Frame, c.Windows = 256, manyWindows(255) }},
		{"256 windows", func(c *api.Config) { c.Frame, c.Windows = 256, manyWindows(256) }},
		{"From -1", func(c *api.Config) { c.Windows[0].From = -1 }},
		{"least From", func(c *api.Config) { c.Windows[0].From = math.MinInt }},
		{"From below 0 of one behind", func(c *api.Config) { c.Windows[1].From = -1 }},
		{"From at To", func(c *api.Config) { c.Windows[0].From = 4 }},
		{"From at To, 0", func(c *api.Config) { c.Windows[0].To = 0 }},
		{"From at To of one behind", func(c *api.Config) { c.Windows[1].From = 9 }},
		{"From at To, the frame's end", func(c *api.Config) { c.Windows[2].From = 20 }},
		{"From above To", func(c *api.Config) { c.Windows[2].From, c.Windows[2].To = 14, 13 }},
		{"To ahead of the frame's begin", func(c *api.Config) { c.Windows[0].From, c.Windows[0].To = -4, -2 }},
		{"To above Frame", func(c *api.Config) { c.Windows[2].To = 21 }},
		{"Frame below To", func(c *api.Config) { c.Frame = 19 }},
		{"From at Frame", func(c *api.Config) { c.Windows[2] = api.Window{From: 20, To: 21, Part: 2} }},
		{"To above MaxFrame", func(c *api.Config) { c.Frame, c.Windows[2].To = 256, 257 }},
		{"greatest To", func(c *api.Config) { c.Windows[2].To = math.MaxInt }},
		{"Part 4", func(c *api.Config) { c.Windows[0].Part = 4 }},
		{"Part -1", func(c *api.Config) { c.Windows[0].Part = -1 }},
		{"Part 255", func(c *api.Config) { c.Windows[1].Part = 255 }},
		{"Part of the last one", func(c *api.Config) { c.Windows[2].Part = 4 }},
		{"Part that ends in 0", func(c *api.Config) { c.Windows[1].Part = 256 }},
		{"greatest Part", func(c *api.Config) { c.Windows[1].Part = math.MaxInt }},
		{"least Part", func(c *api.Config) { c.Windows[1].Part = math.MinInt }},
		{"begins ahead of the end of the one ahead", func(c *api.Config) { c.Windows[1].From = 3 }},
		{"the last begins ahead of that end", func(c *api.Config) { c.Windows[2].From = 8 }},
		{"one twice", func(c *api.Config) { c.Windows[1] = c.Windows[0] }},
		{"one inside the one ahead", func(c *api.Config) { c.Windows[1] = api.Window{From: 1, To: 2, Part: 3} }},
		{"two in the wrong row", func(c *api.Config) { c.Windows[0], c.Windows[1] = c.Windows[1], c.Windows[0] }},
	}
}

func portFaults() []change {
	return []change{
		{"9 ports", func(c *api.Config) { c.Ports = manyPorts(api.MaxPorts + 1) }},
		{"255 ports", func(c *api.Config) { c.Ports = manyPorts(255) }},
		{"256 ports", func(c *api.Config) { c.Ports = manyPorts(256) }},
		{"Kind 2", func(c *api.Config) { c.Ports[0].Kind = 2 }},
		{"Kind -1", func(c *api.Config) { c.Ports[0].Kind = -1 }},
		{"Kind that ends in 1", func(c *api.Config) { c.Ports[1].Kind = 257 }},
		{"the last Kind", func(c *api.Config) { c.Ports[2].Kind = 255 }},
		{"From a Low part", func(c *api.Config) { c.Ports[0].From = 3 }},
		{"From its own Low part", func(c *api.Config) { c.Ports[0].From = 1 }},
		{"From -1", func(c *api.Config) { c.Ports[1].From = -1 }},
		{"From 4", func(c *api.Config) { c.Ports[1].From = 4 }},
		{"greatest From", func(c *api.Config) { c.Ports[1].From = math.MaxInt }},
		{"To a High part", func(c *api.Config) { c.Ports[0].To = 2 }},
		{"To its own High part", func(c *api.Config) { c.Ports[0].To = 0 }},
		{"To -1", func(c *api.Config) { c.Ports[1].To = -1 }},
		{"To 4", func(c *api.Config) { c.Ports[2].To = 4 }},
		{"To 255", func(c *api.Config) { c.Ports[2].To = 255 }},
		{"least To", func(c *api.Config) { c.Ports[2].To = math.MinInt }},
		{"from Low to High", func(c *api.Config) { c.Ports[0].From, c.Ports[0].To = 1, 0 }},
		{"sampling, Size 0", func(c *api.Config) { c.Ports[0].Size = 0 }},
		{"sampling, Size 2", func(c *api.Config) { c.Ports[0].Size = 2 }},
		{"sampling, Size MaxPort", func(c *api.Config) { c.Ports[0].Size = api.MaxPort }},
		{"sampling, Size -1", func(c *api.Config) { c.Ports[0].Size = -1 }},
		{"queuing, Size 0", func(c *api.Config) { c.Ports[1].Size = 0 }},
		{"queuing, Size -1", func(c *api.Config) { c.Ports[1].Size = -1 }},
		{"queuing, Size 9", func(c *api.Config) { c.Ports[1].Size = api.MaxPort + 1 }},
		{"queuing, Size that ends in 1", func(c *api.Config) { c.Ports[2].Size = 257 }},
		{"queuing, greatest Size", func(c *api.Config) { c.Ports[2].Size = math.MaxInt }},
		{"a Level turned to Low", func(c *api.Config) { c.Parts[2].Level = api.Low }},
	}
}

func codeFaults() []change {
	return []change{
		{"Op 12", func(c *api.Config) { c.Parts[0].Code[0].Op = 12 }},
		{"Op -1", func(c *api.Config) { c.Parts[0].Code[0].Op = -1 }},
		{"Op that ends in 1", func(c *api.Config) { c.Parts[0].Code[0].Op = 257 }},
		{"Arg 256", func(c *api.Config) { c.Parts[0].Code[0].Arg = 256 }},
		{"Arg -1", func(c *api.Config) { c.Parts[0].Code[0].Arg = -1 }},
		{"a port that is none", func(c *api.Config) { c.Parts[0].Code[1].Arg = api.MaxPorts }},
		{"a jump behind the end", func(c *api.Config) { c.Parts[0].Code[2].Arg = 3 }},
		{"a halt with an Arg", func(c *api.Config) { c.Parts[2].Code[0].Arg = 1 }},
		{"65 instructions", func(c *api.Config) { c.Parts[3].Code = make([]api.Instr, api.MaxCode+1) }},
		{"255 instructions", func(c *api.Config) { c.Parts[0].Code = make([]api.Instr, 255) }},
		{"256 instructions", func(c *api.Config) { c.Parts[0].Code = make([]api.Instr, 256) }},
	}
}

func TestFaults(t *testing.T) {
	for want, all := range faults() {
		for _, x := range all {
			checkMayNot(t, x.why, changed(x), want)
		}
	}
}

// Of two errors that apply the one that the chapter names first is answered (R6).
func TestFirstErrorIsAnswered(t *testing.T) {
	all := faults()
	for first := api.ErrConfigFrame; first <= api.ErrConfigCode; first++ {
		for later := first + 1; later <= api.ErrConfigCode; later++ {
			for _, x := range all[first] {
				for _, y := range all[later] {
					checkMayNot(t, x.why+", "+y.why, changed(y, x), first)
				}
			}
		}
	}
}

// What a Level makes of tasks and ports hangs on the part's own one.
func TestTurnedLevels(t *testing.T) {
	up := change{"up", func(c *api.Config) { c.Parts[3].Level = api.High }}
	checkMayNot(t, "a port leads to what is High now", changed(up), api.ErrConfigPort)
	apart := change{"apart", func(c *api.Config) { c.Parts[3].Tasks[1].CHigh, c.Ports = 3, nil }}
	c := changed(up, apart)
	checkMay(t, c, bytesOf(c))
	checkMayNot(t, "CHigh above CLow in a Low part", changed(apart), api.ErrConfigTask)
}

// A fault of the last part's stands behind one, of a later error, of the first part's.
func TestFirstErrorInALaterPart(t *testing.T) {
	badCode := change{"code", func(c *api.Config) { c.Parts[0].Code[0].Op = 99 }}
	badTask := change{"task", func(c *api.Config) { c.Parts[0].Tasks[0].Prio = 300 }}
	lastTask := change{"last task", func(c *api.Config) { c.Parts[3].Tasks[1].Prio = 300 }}
	lastLevel := change{"last Level", func(c *api.Config) { c.Parts[3].Level = 9 }}
	checkMayNot(t, "code, last task", changed(badCode, lastTask), api.ErrConfigTask)
	checkMayNot(t, "task, last Level", changed(badTask, lastLevel), api.ErrConfigPart)
	checkMayNot(t, "all of them", changed(badCode, badTask, lastTask, lastLevel), api.ErrConfigPart)
}

func TestTextsThatEndTooEarly(t *testing.T) {
	for _, whole := range []string{goodBytes, bytesOf(full()), bytesOf(changed(frameFaults()[0]))} {
		for many := range len(whole) {
			checkNoBytes(t, fmt.Sprint("cut to ", many), whole[:many], api.ErrConfigForm)
		}
	}
}

func TestBytesBehindTheEnd(t *testing.T) {
	for _, whole := range []string{goodBytes, bytesOf(full()), bytesOf(changed(frameFaults()[0]))} {
		for b := range 256 {
			checkNoBytes(t, "one more", whole+string([]byte{byte(b)}), api.ErrConfigForm)
		}
		checkNoBytes(t, "twice", whole+whole, api.ErrConfigForm)
	}
}

func TestMark(t *testing.T) {
	for b := range 256 {
		x := string([]byte{byte(b)})
		if x != "N" {
			checkNoBytes(t, "the first byte", x+goodBytes[1:], api.ErrConfigForm)
		}
		if x != "C" {
			checkNoBytes(t, "the second byte", "N"+x+goodBytes[2:], api.ErrConfigForm)
		}
	}
	for _, s := range []string{"", "N", "NC", "C", "CN" + goodBytes[2:], "nc" + goodBytes[2:], goodBytes[2:], " " + goodBytes, "NC" + goodBytes} {
		checkNoBytes(t, "a text", s, api.ErrConfigForm)
	}
	// The mark goes ahead of what Check would say.
	checkNoBytes(t, "no mark, and Frame 0", "XX"+bytesOf(changed(frameFaults()[0]))[2:], api.ErrConfigForm)
}

// A count that says more, or less, than there is leads astray, or to an end that is none.
func TestCountsThatAreWrong(t *testing.T) {
	small := "NC\x00\x01\x01\x01\x00\x00\x00\x00\x00"
	for _, at := range []int{5, 7, 8, 9, 10} {
		for many := 0; many < 256; many++ {
			b := []byte(small)
			if int(b[at]) == many {
				continue
			}
			b[at] = byte(many)
			checkNoBytes(t, fmt.Sprintf("byte %d is %d", at, many), string(b), api.ErrConfigForm)
		}
	}
}

// laidWith answers a text that is laid well, of so many bytes: as many parts as it takes, of more tasks than may be.
func laidWith(t *testing.T, frame int, many int) string {
	t.Helper()
	c := api.Config{Frame: frame, Quiet: 1}
	part := api.Part{Tasks: make([]api.Task, 255), Code: make([]api.Instr, 255)}
	rest := many - len(bytesOf(c))
	size := 3 + 10*255 + 2*255
	for rest >= size+3+5 {
		c.Parts = append(c.Parts, part)
		rest -= size
	}
	if rest%2 == 0 {
		c.Windows = append(c.Windows, api.Window{})
		rest -= 5
	}
	rest -= 3
	last := api.Part{Tasks: make([]api.Task, min(255, rest/10))}
	last.Code = make([]api.Instr, (rest-10*len(last.Tasks))/2)
	c.Parts = append(c.Parts, last)
	s := bytesOf(c)
	if len(s) != many {
		t.Fatalf("%d bytes are laid, not %d", len(s), many)
	}
	return s
}

// What is laid well is asked by Check, up to MaxText bytes; one more is too long, however it is laid.
func TestLongTexts(t *testing.T) {
	for _, many := range []int{40000, 65000, api.MaxText - 1, api.MaxText} {
		checkNoBytes(t, fmt.Sprint(many), laidWith(t, 5, many), api.ErrConfigPart)
		checkNoBytes(t, fmt.Sprint(many), laidWith(t, 0, many), api.ErrConfigFrame)
	}
	for _, many := range []int{api.MaxText + 1, api.MaxText + 2, 2 * api.MaxText} {
		checkNoBytes(t, fmt.Sprint(many), laidWith(t, 5, many), api.ErrConfigForm)
		checkNoBytes(t, fmt.Sprint(many), laidWith(t, 0, many), api.ErrConfigForm)
	}
	for _, b := range []string{"\x00", "\x01", "N", "\xff"} {
		for _, many := range []int{api.MaxText - 2, api.MaxText, 70000, 1 << 22} {
			checkNoBytes(t, "one byte again and again", strings.Repeat(b, many), api.ErrConfigForm)
			checkNoBytes(t, "one byte behind the mark", "NC"+strings.Repeat(b, many), api.ErrConfigForm)
		}
	}
}

func TestLongLists(t *testing.T) {
	const many = 1 << 20
	checkMayNot(t, "parts", changed(change{"", func(c *api.Config) { c.Parts = manyParts(many) }}), api.ErrConfigPart)
	checkMayNot(t, "tasks", changed(change{"", func(c *api.Config) { c.Parts[0].Tasks = manyTasks(many) }}), api.ErrConfigTask)
	checkMayNot(t, "windows", changed(change{"", func(c *api.Config) { c.Windows = manyWindows(many) }}), api.ErrConfigWindow)
	checkMayNot(t, "ports", changed(change{"", func(c *api.Config) { c.Ports = manyPorts(many) }}), api.ErrConfigPort)
	checkMayNot(t, "code", changed(change{"", func(c *api.Config) { c.Parts[0].Code = make([]api.Instr, many) }}), api.ErrConfigCode)
}

// Each byte of a text, turned to each value: what Get takes is what Put lays, and all else it refuses.
func TestEachByte(t *testing.T) {
	taken := 0
	for at := range len(goodBytes) {
		for x := range 256 {
			b := []byte(goodBytes)
			b[at] = byte(x)
			c, err := config.Get(string(b))
			if err == api.OK {
				taken++
				checkMay(t, c, string(b))
			} else if err < api.ErrConfigForm || err > api.ErrConfigCode || !same(c, api.Config{}) {
				t.Errorf("P5.2: byte %d is %d: %+v, %d", at, x, c, err)
			}
		}
	}
	if taken < 1000 {
		t.Errorf("P5.2: only %d texts are taken", taken)
	}
}

// Each error that Check answers is Get's too, of bytes that are laid well.
func TestCheckOfWhatIsRead(t *testing.T) {
	for want, all := range faults() {
		asked := 0
		for _, x := range all {
			if c := changed(x); fits(c) {
				asked++
				checkNoBytes(t, x.why, bytesOf(c), want)
			}
		}
		if asked < 3 {
			t.Errorf("P5.2: %d: only %d have bytes", want, asked)
		}
	}
}

// roomy answers good with lists that have spare room, and all of these lists with their room laid open.
func roomy() (api.Config, func() string) {
	c := good()
	seven := api.Task{Kind: 77, Prio: -7}
	var rooms []any
	for i := range c.Parts {
		tasks := append(slices.Clone(c.Parts[i].Tasks), seven, seven)
		code := append(slices.Clone(c.Parts[i].Code), api.Instr{Op: 77, Arg: -7})
		rooms = append(rooms, tasks, code)
		c.Parts[i].Tasks, c.Parts[i].Code = tasks[:len(tasks)-2], code[:len(code)-1]
	}
	parts := append(slices.Clone(c.Parts), api.Part{Level: 77})
	windows := append(slices.Clone(c.Windows), api.Window{From: 77})
	ports := append(slices.Clone(c.Ports), api.Port{Kind: 77})
	rooms = append(rooms, parts, windows, ports)
	c.Parts, c.Windows, c.Ports = parts[:len(parts)-1], windows[:len(windows)-1], ports[:len(ports)-1]
	return c, func() string { return fmt.Sprint(rooms...) }
}

// Check and Put change nothing of what they are handed, nor of what lies behind its end (R4).
func TestArgumentsStay(t *testing.T) {
	breaks := []func(c *api.Config){
		func(c *api.Config) {}, func(c *api.Config) { c.Parts[3].Level = 5 }, func(c *api.Config) { c.Parts[3].Tasks[1].Prio = 0 },
		func(c *api.Config) { c.Windows[2].Part = 9 }, func(c *api.Config) { c.Ports[2].Size = 9 }, func(c *api.Config) { c.Parts[2].Code[0].Op = 12 },
	}
	for i, change := range breaks {
		c, told := roomy()
		change(&c)
		was, itself := told(), fmt.Sprint(c)
		config.Check(c)
		if _, err := config.Put(c); (err == api.OK) != (i == 0) {
			t.Errorf("P5.2: Put = %d", err)
		}
		if told() != was || fmt.Sprint(c) != itself {
			t.Errorf("R4: %s became %s", was, told())
		}
	}
}

// What Put answered stays when the configuration is changed (R4), and it is asked anew.
func TestPutKeepsNothing(t *testing.T) {
	c := good()
	s, _ := config.Put(c)
	c.Parts[0].Tasks[0].Prio = 77
	c.Ports[0].To = 3
	if s != goodBytes {
		t.Errorf("R4: %q", s)
	}
	checkMay(t, c, bytesOf(c))
	c.Parts[0].Code[0].Op = 12
	checkMayNot(t, "changed", c, api.ErrConfigCode)
}

// spoil writes over all that an answer's lists hold, and over their spare room.
func spoil(c api.Config) {
	for _, p := range c.Parts {
		for i := range p.Tasks[:cap(p.Tasks)] {
			p.Tasks[:cap(p.Tasks)][i] = api.Task{Kind: 66}
		}
		for i := range p.Code[:cap(p.Code)] {
			p.Code[:cap(p.Code)][i] = api.Instr{Op: 66}
		}
	}
	for i := range c.Parts[:cap(c.Parts)] {
		c.Parts[:cap(c.Parts)][i] = api.Part{Level: 66}
	}
	for i := range c.Windows[:cap(c.Windows)] {
		c.Windows[:cap(c.Windows)][i] = api.Window{From: 66}
	}
	for i := range c.Ports[:cap(c.Ports)] {
		c.Ports[:cap(c.Ports)][i] = api.Port{Kind: 66}
	}
}

// What Get answers shares no memory with another answer (R4).
func TestAnswersShareNothing(t *testing.T) {
	for _, s := range []string{goodBytes, bytesOf(full())} {
		a, _ := config.Get(s)
		b, _ := config.Get(s)
		spoil(a)
		if again, err := config.Put(b); again != s || err != api.OK {
			t.Errorf("R4: another answer is %+v", b)
		}
		if c, err := config.Get(s); err != api.OK || bytesOf(c) != s {
			t.Errorf("R4: a later answer is %+v", c)
		}
	}
}

// Two lists of one answer share no memory, their spare room neither (R4).
func TestListsShareNothing(t *testing.T) {
	for _, s := range []string{goodBytes, bytesOf(full())} {
		first, _ := config.Get(s)
		for i := range first.Parts {
			c, _ := config.Get(s)
			spoil(api.Config{Parts: slices.Clone(c.Parts[i : i+1])})
			want, _ := config.Get(s)
			c.Parts[i], want.Parts[i] = api.Part{}, api.Part{}
			if !same(c, want) {
				t.Errorf("R4: part %d: %+v", i, c)
			}
			c, _ = config.Get(s)
			spoil(api.Config{Parts: []api.Part{{Tasks: c.Parts[i].Tasks}}})
			if !slices.Equal(c.Parts[i].Code, first.Parts[i].Code) {
				t.Errorf("R4: part %d: %+v", i, c)
			}
		}
	}
}

// What was refused turns nothing of what is answered behind it (R5).
func TestRefusalsLeaveNothing(t *testing.T) {
	for range 3 {
		checkNoBytes(t, "cut", goodBytes[:100], api.ErrConfigForm)
		checkMayNot(t, "Frame 0", changed(frameFaults()[0]), api.ErrConfigFrame)
		checkMay(t, good(), goodBytes)
	}
}

func TestFromSeveralGoroutines(t *testing.T) {
	c := good()
	answers := make(chan string)
	for range 8 {
		go func() {
			s, _ := config.Put(c)
			back, _ := config.Get(s)
			answers <- bytesOf(back)
		}()
	}
	for range 8 {
		if s := <-answers; s != goodBytes {
			t.Errorf("R5: %q", s)
		}
	}
}
