package supply_test

import (
	"fmt"
	"math"
	"slices"
	"sync"
	"testing"

	"nocturn/api"
	"nocturn/frame"
	"nocturn/supply"
)

// good answers a configuration that may be: part 0 has two windows, 1 and 3 have one, 2 has none,
// and no window has the ticks 0, 1, 9, 10, 11 and 19.
func good() api.Config {
	return api.Config{
		Frame: 20, Quiet: 3,
		Parts: []api.Part{
			{Level: api.High, Tasks: []api.Task{{Period: 30, Deadline: 9, CLow: 1, CHigh: 2, Prio: 1}}, Code: []api.Instr{{Op: api.OpHalt}}},
			{Level: api.Low},
			{Level: api.Low, Tasks: []api.Task{{Period: 12, Deadline: 12, CLow: 1, CHigh: 1}}},
			{Level: api.High},
		},
		Windows: []api.Window{
			{From: 2, To: 4, Part: 3}, {From: 4, To: 9, Part: 0}, {From: 12, To: 13, Part: 1}, {From: 13, To: 19, Part: 0},
		},
		Ports: []api.Port{{Kind: api.PortQueuing, From: 3, To: 2, Size: 8}},
	}
}

// plain answers a configuration of a Frame and of two parts, where part 0 has the windows from the first to the
// second number of each pair.
func plain(length int, pairs ...[2]int) api.Config {
	c := api.Config{Frame: length, Quiet: 1, Parts: []api.Part{{Level: api.High}, {Level: api.Low}}}
	for _, x := range pairs {
		c.Windows = append(c.Windows, api.Window{From: x[0], To: x[1]})
	}
	return c
}

// row answers a configuration with a tick a letter: 'a' is part 0's, 'b' part 1's and so on, '.' nobody's.
func row(ticks string) api.Config {
	c := api.Config{Frame: len(ticks), Quiet: 1, Parts: make([]api.Part, 3)}
	for i, x := range []byte(ticks) {
		if x != '.' {
			c.Windows = append(c.Windows, api.Window{From: i, To: i + 1, Part: int(x - 'a')})
		}
	}
	return c
}

// check asks for the least that a part has.
func check(t *testing.T, c api.Config, part int, length int, want int) {
	t.Helper()
	if got, err := supply.Least(c, part, length); got != want || err != api.OK {
		t.Errorf("P7.1: %d, %v: Least(%d, %d) = %d, %d; want %d", c.Frame, c.Windows, part, length, got, err, want)
	}
}

// checkNot asks for what there is not.
func checkNot(t *testing.T, why string, c api.Config, part int, length int) {
	t.Helper()
	if got, err := supply.Least(c, part, length); got != 0 || err != api.ErrSupplyForm {
		t.Errorf("P7.1: %s: Least(%d, %d) = %d, %d; want ErrSupplyForm", why, part, length, got, err)
	}
}

// owners answers whose each tick of a frame is, as layer 6 says it.
func owners(t *testing.T, c api.Config) []int {
	t.Helper()
	all := make([]int, c.Frame)
	for i := range all {
		own, err := frame.At(c, i)
		if err != api.OK {
			t.Fatalf("At(%d) = %d", i, err)
		}
		all[i] = own
	}
	return all
}

// counted answers the least by the chapter's words: each beginning, tick by tick.
func counted(owners []int, part int, length int) int {
	least := length
	for from := range owners {
		n := 0
		for i := range length {
			if owners[(from+i)%len(owners)] == part {
				n++
			}
		}
		least = min(least, n)
	}
	return least
}

// checkCounted holds all parts of c against what is counted, for each of the lengths.
func checkCounted(t *testing.T, c api.Config, lengths ...int) {
	t.Helper()
	all := owners(t, c)
	for part := range c.Parts {
		for _, n := range lengths {
			check(t, c, part, n, counted(all, part, n))
		}
	}
}

// upTo answers the numbers from 0 to n.
func upTo(n int) []int {
	all := make([]int, n+1)
	for i := range all {
		all[i] = i
	}
	return all
}

func TestSeveralWindows(t *testing.T) {
	// From tick 19 on part 0 has none for 5 ticks, and from tick 9 on for 4; behind the 5 come five of its own, then
	// 4 of none, then six.
	want := []int{0, 0, 0, 0, 0, 0, 1, 2, 3, 4, 5, 5, 5, 5, 5, 6, 7, 8, 9, 10, 11, 11, 11, 11, 11, 11, 12, 13}
	for length, least := range want {
		check(t, good(), 0, length, least)
	}
	check(t, good(), 0, api.MaxSpan, 204*11+7)
}

func TestOneWindow(t *testing.T) {
	for length, least := range map[int]int{0: 0, 1: 0, 19: 0, 20: 1, 21: 1, 39: 1, 40: 2, 41: 2, 4079: 203, 4080: 204, 4096: 204} {
		check(t, good(), 1, length, least)
	}
	for length, least := range map[int]int{0: 0, 1: 0, 18: 0, 19: 1, 20: 2, 21: 2, 38: 2, 39: 3, 40: 4, 4096: 408} {
		check(t, good(), 3, length, least)
	}
}

func TestNoWindow(t *testing.T) {
	for _, length := range []int{0, 1, 2, 19, 20, 21, 4095, api.MaxSpan} {
		check(t, good(), 2, length, 0)
		check(t, plain(1), 0, length, 0)
		check(t, plain(api.MaxFrame), 1, length, 0)
		check(t, plain(10, [2]int{0, 10}), 1, length, 0)
	}
}

func TestWindowsThatFillTheFrame(t *testing.T) {
	full := []api.Config{
		plain(1, [2]int{0, 1}), plain(7, [2]int{0, 7}), plain(7, [2]int{0, 3}, [2]int{3, 4}, [2]int{4, 7}),
		plain(api.MaxFrame, [2]int{0, api.MaxFrame}), row("aaaaaaaaa"),
	}
	for _, c := range full {
		for _, length := range []int{0, 1, 2, 6, 7, 8, 255, 256, 257, 4095, api.MaxSpan} {
			check(t, c, 0, length, length)
		}
	}
}

// The ticks that a part has not may lie across the border of two frames, or the ticks that it has.
func TestBorderOfTwoFrames(t *testing.T) {
	for _, x := range []struct {
		why   string
		ticks string
		least []int
	}{
		{"at the begin", "aaa.....", []int{0, 0, 0, 0, 0, 0, 1, 2, 3, 3, 3, 3, 3, 3, 4, 5, 6, 6}},
		{"at the end", ".....aaa", []int{0, 0, 0, 0, 0, 0, 1, 2, 3, 3, 3, 3, 3, 3, 4, 5, 6, 6}},
		{"at both", "aa.....a", []int{0, 0, 0, 0, 0, 0, 1, 2, 3, 3, 3, 3, 3, 3, 4, 5, 6, 6}},
		{"in the midst", "...aaa..", []int{0, 0, 0, 0, 0, 0, 1, 2, 3, 3, 3, 3, 3, 3, 4, 5, 6, 6}},
		{"the first one", "a.......", []int{0, 0, 0, 0, 0, 0, 0, 0, 1, 1}},
		{"the last one", ".......a", []int{0, 0, 0, 0, 0, 0, 0, 0, 1, 1}},
		{"all but the first one", ".aaaaaaa", []int{0, 0, 1, 2, 3, 4, 5, 6, 7, 7, 8}},
		{"all but the last one", "aaaaaaa.", []int{0, 0, 1, 2, 3, 4, 5, 6, 7, 7, 8}},
		{"two gaps, with the longer one inside", ".aa...a.", []int{0, 0, 0, 0, 1, 1, 1, 2, 3, 3}},
		{"two gaps, with the longer one across", "..a.a...", []int{0, 0, 0, 0, 0, 0, 1, 1, 2, 2}},
	} {
		for length, least := range x.least {
			c := row(x.ticks)
			if got, err := supply.Least(c, 0, length); got != least || err != api.OK {
				t.Errorf("P7.1: %s: Least(%d) = %d, %d; want %d", x.why, length, got, err, least)
			}
		}
	}
}

// Where the least begins hangs on the length: two gaps that are near each other, and a longer one apart.
func TestLongerIsElsewhere(t *testing.T) {
	c := row("aaaa...aaaa..a..aaaa")
	check(t, c, 0, 3, 0)
	check(t, c, 0, 4, 1)
	check(t, c, 0, 5, 1)
	check(t, c, 0, 6, 2)
	checkCounted(t, c, upTo(60)...)
}

func TestWholeFrames(t *testing.T) {
	c := good()
	for frames := range api.MaxSpan / 20 {
		for part, share := range []int{11, 1, 0, 2} {
			check(t, c, part, frames*20, frames*share)
			check(t, c, part, frames*20+1, frames*share)
			if frames > 0 {
				// The tick that is missing is one of its own, if it has one.
				check(t, c, part, frames*20-1, max(0, frames*share-1))
			}
		}
	}
	wide := plain(api.MaxFrame, [2]int{0, 1}, [2]int{255, 256})
	for frames := 1; frames <= api.MaxSpan/api.MaxFrame; frames++ {
		check(t, wide, 0, frames*api.MaxFrame, frames*2)
		check(t, wide, 0, frames*api.MaxFrame-1, frames*2-1)
		check(t, wide, 0, frames*api.MaxFrame-2, frames*2-2)
	}
	check(t, wide, 0, 255, 1)
	check(t, wide, 0, 254, 0)
	check(t, wide, 0, 257, 2)
}

func TestEdgesOfLength(t *testing.T) {
	for part := range 4 {
		check(t, good(), part, 0, 0)
		check(t, good(), part, 1, 0)
		for _, length := range []int{-1, -20, -4096, math.MinInt, api.MaxSpan + 1, api.MaxSpan + 4, 8192, math.MaxInt} {
			checkNot(t, "length", good(), part, length)
		}
	}
	check(t, good(), 0, api.MaxSpan, 2251)
	check(t, row("a"), 0, api.MaxSpan, api.MaxSpan)
}

func TestPartsThatThereAreNot(t *testing.T) {
	for _, part := range []int{-1, -4, math.MinInt, 4, 5, 7, 8, math.MaxInt} {
		for _, length := range []int{0, 1, 20, api.MaxSpan} {
			checkNot(t, "part", good(), part, length)
		}
	}
	checkNot(t, "one behind one", plain(5, [2]int{0, 5}), 2, 5)
	c := plain(5, [2]int{0, 5})
	c.Parts = make([]api.Part, api.MaxParts)
	check(t, c, 7, 5, 0)
	checkNot(t, "one behind MaxParts", c, 8, 5)
}

// fault makes of good a configuration that may not be.
type fault struct {
	why  string
	make func(c *api.Config)
}

// faults are some for each error that layer 5 has of a configuration.
func faults() []fault {
	return []fault{
		{"nothing at all", func(c *api.Config) { *c = api.Config{} }},
		{"Frame 0", func(c *api.Config) { c.Frame = 0 }},
		{"Frame 0, no window", func(c *api.Config) { c.Frame, c.Windows = 0, nil }},
		{"Frame below 0", func(c *api.Config) { c.Frame, c.Windows = -20, nil }},
		{"least Frame", func(c *api.Config) { c.Frame, c.Windows = math.MinInt, nil }},
		{"Frame above MaxFrame", func(c *api.Config) { c.Frame = api.MaxFrame + 1 }},
		{"greatest Frame", func(c *api.Config) { c.Frame = math.MaxInt }},
		{"Quiet 0", func(c *api.Config) { c.Quiet = 0 }},
		{"Quiet above MaxQuiet", func(c *api.Config) { c.Quiet = api.MaxQuiet + 1 }},
		{"no part", func(c *api.Config) { c.Parts = nil }},
		{"no part, no window, no port", func(c *api.Config) { c.Parts, c.Windows, c.Ports = nil, nil, nil }},
		{"nine parts", func(c *api.Config) { c.Parts = append(c.Parts, make([]api.Part, 5)...) }},
		{"Level 2", func(c *api.Config) { c.Parts[1].Level = 2 }},
		{"Period 0", func(c *api.Config) { c.Parts[0].Tasks[0].Period = 0 }},
		{"two of one Prio", func(c *api.Config) { c.Parts[0].Tasks = append(c.Parts[0].Tasks, c.Parts[0].Tasks[0]) }},
		{"33 windows", func(c *api.Config) { c.Windows = make([]api.Window, api.MaxWindows+1) }},
		{"a window below the frame", func(c *api.Config) { c.Windows[0].From = -1 }},
		{"a window beyond the frame", func(c *api.Config) { c.Windows[3].To = 21 }},
		{"a window without an end", func(c *api.Config) { c.Windows[3].To = math.MaxInt }},
		{"a window that ends ahead of its begin", func(c *api.Config) { c.Windows[3].To = 12 }},
		{"a window of a part that there is not", func(c *api.Config) { c.Windows[3].Part = 4 }},
		{"a window ahead of the end of the one ahead", func(c *api.Config) { c.Windows[1].From = 3 }},
		{"windows that are not in their row", func(c *api.Config) { slices.Reverse(c.Windows) }},
		{"a port's Size", func(c *api.Config) { c.Ports[0].Size = 9 }},
		{"Code", func(c *api.Config) { c.Parts[3].Code = []api.Instr{{Op: api.OpJump, Arg: 1}} }},
	}
}

// Whatever else is wrong too, there is one error alone (R6).
func TestConfigsThatMayNotBe(t *testing.T) {
	for _, x := range faults() {
		c := good()
		x.make(&c)
		for _, part := range []int{0, 1, 3, 4, -1, math.MaxInt} {
			for _, length := range []int{0, 1, 20, api.MaxSpan, -1, api.MaxSpan + 1} {
				checkNot(t, x.why, c, part, length)
			}
		}
	}
	checkNot(t, "part and length", good(), 4, -1)
	checkNot(t, "part and length", good(), -1, api.MaxSpan+1)
}

// Each frame of up to seven ticks that two parts and nobody share, and each length up to three frames.
func TestSmallFrames(t *testing.T) {
	for size := 1; size <= 7; size++ {
		ticks := make([]byte, size)
		var lay func(at int)
		lay = func(at int) {
			if at == size {
				checkCounted(t, row(string(ticks)), upTo(3*size)...)
				return
			}
			for _, x := range []byte("ab.") {
				ticks[at] = x
				lay(at + 1)
			}
		}
		lay(0)
	}
}

// widest answers a frame of MaxFrame ticks with as many windows as may be, of all parts.
func widest() api.Config {
	c := api.Config{Frame: api.MaxFrame, Quiet: 1, Parts: make([]api.Part, api.MaxParts)}
	for i := range api.MaxWindows {
		c.Windows = append(c.Windows, api.Window{From: 8 * i, To: 8*i + 1 + (i*i+3)%8, Part: (i*5 + i/7) % 8})
	}
	return c
}

func TestWidestFrame(t *testing.T) {
	checkCounted(t, widest(), 0, 1, 2, 7, 8, 9, 100, 127, 128, 129, 254, 255, 256, 257, 511, 512, 513, 1000, 4095, api.MaxSpan)
}

// One tick more has at most one of its own more, and never less; a frame more has all of a frame's.
func TestRisesByAFrame(t *testing.T) {
	c := widest()
	for part := range c.Parts {
		share, _ := frame.Share(c, part)
		least := make([]int, api.MaxSpan+1)
		for length := range least {
			got, err := supply.Least(c, part, length)
			if err != api.OK {
				t.Fatalf("P7.1: Least(%d, %d) = %d", part, length, err)
			}
			least[length] = got
			if length > 0 && (got < least[length-1] || got > least[length-1]+1) {
				t.Fatalf("P7.1: Least(%d, %d) = %d behind %d", part, length, got, least[length-1])
			}
			if length >= c.Frame && got != least[length-c.Frame]+share {
				t.Fatalf("P7.1: Least(%d, %d) = %d; a frame ahead %d, its share %d", part, length, got, least[length-c.Frame], share)
			}
		}
	}
}

// told answers a configuration with the spare room of its lists.
func told(c api.Config) string {
	p := c.Parts[0]
	return fmt.Sprint(c, c.Parts[:cap(c.Parts)], c.Windows[:cap(c.Windows)], c.Ports[:cap(c.Ports)], p.Tasks[:cap(p.Tasks)], p.Code[:cap(p.Code)])
}

// roomy answers good with lists that have spare room with something in it.
func roomy() api.Config {
	c := good()
	c.Parts = append(c.Parts, api.Part{Level: 9})[:4]
	c.Windows = append(c.Windows, api.Window{From: 9, To: 8, Part: 7})[:4]
	c.Ports = append(c.Ports, api.Port{Kind: 5})[:1]
	c.Parts[0].Tasks = append(c.Parts[0].Tasks, api.Task{Kind: 6})[:1]
	c.Parts[0].Code = append(c.Parts[0].Code, api.Instr{Op: 99})[:1]
	return c
}

func TestNothingIsChangedOrKept(t *testing.T) {
	c := roomy()
	was := told(c)
	check(t, c, 0, 27, 13)
	check(t, c, 3, api.MaxSpan, 408)
	checkNot(t, "part", c, 9, 27)
	checkNot(t, "length", c, 0, -1)
	if told(c) != was {
		t.Errorf("R4: %s; was %s", told(c), was)
	}
	c.Quiet = 0
	was = told(c)
	checkNot(t, "Quiet", c, 0, 27)
	if told(c) != was {
		t.Errorf("R4: %s; was %s", told(c), was)
	}
	c.Quiet = 1
	c.Windows[1].Part = 3
	check(t, c, 0, 27, 6)
	check(t, c, 3, 27, 7)
}

func TestFromSeveralGoroutines(t *testing.T) {
	c := good()
	var all sync.WaitGroup
	for i := range 8 {
		all.Go(func() {
			want := []int{13, 1, 0, 2}[i%4]
			for range 50 {
				if got, err := supply.Least(c, i%4, 27); got != want || err != api.OK {
					t.Errorf("R5: Least(%d, 27) = %d, %d; want %d", i%4, got, err, want)
					return
				}
			}
		})
	}
	all.Wait()
}
