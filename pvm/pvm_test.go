package pvm_test

import (
	"math"
	"slices"
	"sync"
	"testing"

	"nocturn/api"
	"nocturn/pvm"
)

// most is the greatest word.
const most = api.Word - 1

// noWords holds numbers that are no word; some of them end in bits that are one.
var noWords = []int{-1, -2, -api.Word, -api.Word + 1, math.MinInt, api.Word, api.Word + 1, 2 * api.Word, math.MaxInt}

// given is what Step is handed.
type given struct {
	p    []api.Instr
	vm   api.Vm
	in   int
	outs int
	gets []int
}

// quiet is the effect of what does nothing outside.
var quiet = api.Effect{Write: -1, Get: -1}

// failed is the effect of a fault.
var failed = api.Effect{Write: -1, Get: -1, Fault: true}

// memory answers words that differ from each other, from 100 on.
func memory() [api.Words]int {
	var m [api.Words]int
	for i := range m {
		m[i] = 100 + i
	}
	return m
}

// with answers a memory with a word at a place.
func with(m [api.Words]int, i int, word int) [api.Words]int {
	m[i] = word
	return m
}

// at answers what Step is handed to do the instruction, which is at the place 2 of five; the others would be told.
func at(op int, arg int) given {
	other := api.Instr{Op: api.OpConst, Arg: 99}
	return given{
		p:  []api.Instr{other, other, {Op: op, Arg: arg}, other, other},
		vm: api.Vm{Pc: 2, Acc: 77, Mem: memory()},
		in: 55, outs: 0b10100101, gets: []int{40, -1, 42, 0, most},
	}
}

// then answers the machine of at with what an instruction turns of it: where it stands, and what it has.
func then(pc int, acc int) api.Vm {
	return api.Vm{Pc: pc, Acc: acc, Mem: memory()}
}

// check asks for a step.
func check(t *testing.T, why string, g given, vm api.Vm, effect api.Effect) {
	t.Helper()
	gotVm, gotEffect, err := pvm.Step(g.p, g.vm, g.in, g.outs, g.gets)
	if gotVm != vm || gotEffect != effect || err != api.OK {
		t.Errorf("P10.1: %s: Step(%+v) = %+v, %+v, %d; want %+v, %+v", why, g, gotVm, gotEffect, err, vm, effect)
	}
}

// checkNot asks for a step that there is not: nothing stands beside the error (R2).
func checkNot(t *testing.T, why string, g given) {
	t.Helper()
	vm, effect, err := pvm.Step(g.p, g.vm, g.in, g.outs, g.gets)
	if vm != (api.Vm{}) || effect != (api.Effect{}) || err != api.ErrPvmForm {
		t.Errorf("P10.1: %s: Step(%+v) = %+v, %+v, %d; want error %d", why, g, vm, effect, err, api.ErrPvmForm)
	}
}

func TestNop(t *testing.T) {
	check(t, "Nop", at(api.OpNop, 0), then(3, 77), quiet)
}

func TestConst(t *testing.T) {
	for arg := range 256 {
		check(t, "Const", at(api.OpConst, arg), then(3, arg), quiet)
	}
}

func TestLoadAndStore(t *testing.T) {
	for i := range api.Words {
		check(t, "Load", at(api.OpLoad, i), then(3, 100+i), quiet)
		check(t, "Store", at(api.OpStore, i), api.Vm{Pc: 3, Acc: 77, Mem: with(memory(), i, 77)}, quiet)
		for _, word := range []int{0, 1, 1 << 31, most} {
			g := at(api.OpLoad, i)
			g.vm.Mem[i] = word
			check(t, "Load", g, api.Vm{Pc: 3, Acc: word, Mem: g.vm.Mem}, quiet)
			g = at(api.OpStore, i)
			g.vm.Acc = word
			check(t, "Store", g, api.Vm{Pc: 3, Acc: word, Mem: with(memory(), i, word)}, quiet)
		}
	}
}

func TestAddAndSub(t *testing.T) {
	for _, c := range []struct{ acc, word, sum, less int }{
		{0, 0, 0, 0},
		{7, 5, 12, 2},
		{5, 7, 12, most - 1},
		{0, 1, 1, most},
		{1, 0, 1, 1},
		{1, 1, 2, 0},
		{0, most, most, 1},
		{most, 0, most, most},
		{1, most, 0, 2},
		{most, 1, 0, most - 1},
		{most, most, most - 1, 0},
		{most - 1, 1, most, most - 2},
		{most, 2, 1, most - 2},
		{1 << 31, 1 << 31, 0, 0},
		{1 << 31, 1<<31 - 1, most, 1},
		{1<<31 - 1, 1 << 31, most, most},
	} {
		for i := range api.Words {
			add := at(api.OpAdd, i)
			add.vm.Acc, add.vm.Mem[i] = c.acc, c.word
			check(t, "Add", add, api.Vm{Pc: 3, Acc: c.sum, Mem: add.vm.Mem}, quiet)
			sub := at(api.OpSub, i)
			sub.vm.Acc, sub.vm.Mem[i] = c.acc, c.word
			check(t, "Sub", sub, api.Vm{Pc: 3, Acc: c.less, Mem: sub.vm.Mem}, quiet)
		}
	}
}

func TestJumpAndZero(t *testing.T) {
	for to := range 5 {
		check(t, "Jump", at(api.OpJump, to), then(to, 77), quiet)
		for _, acc := range []int{0, 1, 1 << 31, most} {
			g := at(api.OpJump, to)
			g.vm.Acc = acc
			check(t, "Jump", g, then(to, acc), quiet)
		}
		g := at(api.OpZero, to)
		g.vm.Acc = 0
		check(t, "Zero of 0", g, then(to, 0), quiet)
		for _, acc := range []int{1, 2, 77, 256, 1 << 16, 1 << 31, most} {
			g.vm.Acc = acc
			check(t, "Zero of another number", g, then(3, acc), quiet)
		}
	}
}

func TestIn(t *testing.T) {
	for _, in := range []int{0, 1, 55, 255, 256, 1 << 31, most} {
		g := at(api.OpIn, 0)
		g.in = in
		check(t, "In", g, then(3, in), api.Effect{Took: true, Write: -1, Get: -1})
	}
}

func TestOut(t *testing.T) {
	for port := range api.MaxPorts {
		for outs := range 256 {
			g := at(api.OpOut, port)
			g.outs = outs
			if bit := outs / (1 << port) % 2; bit == 1 {
				check(t, "Out", g, then(3, 77), api.Effect{Write: port, Value: 77, Get: -1})
			} else {
				check(t, "Out of a bit that is 0", g, then(0, 0), failed)
			}
		}
		for _, acc := range []int{0, 1, most} {
			g := at(api.OpOut, port)
			g.vm.Acc, g.outs = acc, 255
			check(t, "Out", g, then(3, acc), api.Effect{Write: port, Value: acc, Get: -1})
			g.outs = 0
			check(t, "Out to nobody", g, then(0, 0), failed)
		}
	}
}

func TestGet(t *testing.T) {
	gets := at(api.OpGet, 0).gets
	for port := range api.MaxPorts {
		g := at(api.OpGet, port)
		if port < len(gets) && gets[port] >= 0 {
			check(t, "Get", g, then(3, gets[port]), api.Effect{Write: -1, Get: port})
		} else {
			check(t, "Get of none", g, then(0, 0), failed)
		}
		for many := range api.MaxPorts + 1 {
			g.gets = slices.Repeat([]int{9}, many)
			if port < many {
				check(t, "Get", g, then(3, 9), api.Effect{Write: -1, Get: port})
				g.gets[port] = -1
			}
			check(t, "Get of nothing", g, then(0, 0), failed)
		}
		for _, word := range []int{0, 1, 1 << 31, most} {
			g.gets = slices.Repeat([]int{-1}, api.MaxPorts)
			g.gets[port] = word
			check(t, "Get beside none", g, then(3, word), api.Effect{Write: -1, Get: port})
		}
		g.gets = nil
		check(t, "Get without any", g, then(0, 0), failed)
	}
}

// What Get may ask for is nothing that Out asks for, and the other way round.
func TestGetsAndOutsAreApart(t *testing.T) {
	get := at(api.OpGet, 2)
	get.outs = 0
	check(t, "Get without outs", get, then(3, 42), api.Effect{Write: -1, Get: 2})
	out := at(api.OpOut, 2)
	out.gets = nil
	check(t, "Out without gets", out, then(3, 77), api.Effect{Write: 2, Value: 77, Get: -1})
}

func TestHalt(t *testing.T) {
	check(t, "Halt", at(api.OpHalt, 0), then(0, 77), quiet)
}

// ends answers the instructions behind which Pc is one more, with the effect of each in at.
func ends() map[api.Instr]api.Effect {
	return map[api.Instr]api.Effect{
		{Op: api.OpNop}: quiet, {Op: api.OpConst, Arg: 255}: quiet, {Op: api.OpLoad, Arg: 15}: quiet,
		{Op: api.OpStore, Arg: 15}: quiet, {Op: api.OpAdd, Arg: 15}: quiet, {Op: api.OpSub, Arg: 15}: quiet,
		{Op: api.OpZero}: quiet, {Op: api.OpIn}: {Took: true, Write: -1, Get: -1},
		{Op: api.OpOut, Arg: 7}: {Write: 7, Value: 77, Get: -1}, {Op: api.OpGet, Arg: 4}: {Write: -1, Get: 4},
	}
}

// Behind the last instruction stands the first one, however many there are.
func TestPcBehindEach(t *testing.T) {
	for x, effect := range ends() {
		for _, many := range []int{1, 2, 3, 16, 63, api.MaxCode} {
			for pc := range many {
				g := at(x.Op, x.Arg)
				g.p = slices.Repeat([]api.Instr{{Op: api.OpConst, Arg: 99}}, many)
				g.p[pc], g.vm.Pc = x, pc
				vm, got, err := pvm.Step(g.p, g.vm, g.in, g.outs, g.gets)
				want := pc + 1
				if want == many {
					want = 0
				}
				if vm.Pc != want || got != effect || err != api.OK {
					t.Errorf("P10.1: %v at %d of %d: Pc %d, %+v, %d; want %d, %+v", x, pc, many, vm.Pc, got, err, want, effect)
				}
			}
		}
	}
}

// A jump from the last place, or to the own one, is no step to the next; a Halt and a fault from any place begin anew.
func TestPcElsewhere(t *testing.T) {
	for pc := range api.MaxCode {
		g := at(api.OpNop, 0)
		g.vm.Pc, g.outs, g.gets = pc, 0, nil
		g.p = make([]api.Instr, api.MaxCode)
		for _, to := range []int{0, 1, pc, api.MaxCode - 1} {
			g.p[pc] = api.Instr{Op: api.OpJump, Arg: to}
			check(t, "Jump", g, then(to, 77), quiet)
			zero := g
			zero.p = slices.Clone(g.p)
			zero.p[pc].Op, zero.vm.Acc = api.OpZero, 0
			check(t, "Zero", zero, then(to, 0), quiet)
		}
		g.p[pc] = api.Instr{Op: api.OpHalt}
		check(t, "Halt", g, then(0, 77), quiet)
		g.p[pc] = api.Instr{Op: api.OpOut, Arg: 3}
		check(t, "a fault", g, then(0, 0), failed)
		g.p[pc] = api.Instr{Op: api.OpGet, Arg: 3}
		check(t, "a fault", g, then(0, 0), failed)
	}
}

// A program that walks: 3 times 5, by adding.
func TestProgram(t *testing.T) {
	p := []api.Instr{
		{Op: api.OpConst, Arg: 1}, {Op: api.OpStore, Arg: 2}, {Op: api.OpIn}, {Op: api.OpStore, Arg: 0},
		{Op: api.OpZero, Arg: 11}, {Op: api.OpSub, Arg: 2}, {Op: api.OpStore, Arg: 0}, {Op: api.OpGet, Arg: 1},
		{Op: api.OpAdd, Arg: 1}, {Op: api.OpStore, Arg: 1}, {Op: api.OpJump, Arg: 14},
		{Op: api.OpLoad, Arg: 1}, {Op: api.OpOut, Arg: 6}, {Op: api.OpHalt}, {Op: api.OpLoad, Arg: 0}, {Op: api.OpJump, Arg: 4},
	}
	var vm api.Vm
	for range 1000 {
		var effect api.Effect
		var err api.Errno
		vm, effect, err = pvm.Step(p, vm, 3, 1<<6, []int{-1, 5})
		if err != api.OK || effect.Fault {
			t.Fatalf("P10.1: %+v, %+v, %d", vm, effect, err)
		}
		if effect.Write >= 0 {
			if effect != (api.Effect{Write: 6, Value: 15, Get: -1}) || vm.Pc != 13 || vm.Acc != 15 {
				t.Errorf("P10.1: %+v, %+v", vm, effect)
			}
			return
		}
	}
	t.Errorf("P10.1: the program writes nothing")
}

// Without instructions nothing is done, whatever there is to take.
func TestNoInstructions(t *testing.T) {
	for _, p := range [][]api.Instr{nil, {}, make([]api.Instr, 0, 4)} {
		for _, acc := range []int{0, 77, most} {
			g := at(api.OpNop, 0)
			g.p, g.vm.Pc, g.vm.Acc = p, 0, acc
			check(t, "no instructions", g, then(0, acc), quiet)
		}
		check(t, "nothing at all", given{p: p}, api.Vm{}, quiet)
		for _, pc := range []int{-1, 1, 2, 64, math.MinInt, math.MaxInt} {
			checkNot(t, "Pc without instructions", given{p: p, vm: api.Vm{Pc: pc}})
		}
		checkNot(t, "Acc without instructions", given{p: p, vm: api.Vm{Acc: -1}})
		checkNot(t, "in without instructions", given{p: p, in: -1})
		checkNot(t, "outs without instructions", given{p: p, outs: 256})
		checkNot(t, "gets without instructions", given{p: p, gets: make([]int, 9)})
	}
}

func TestProgramMayNotBe(t *testing.T) {
	for _, x := range []api.Instr{
		{Op: -1}, {Op: 12}, {Op: 255}, {Op: 256}, {Op: math.MinInt}, {Op: math.MaxInt}, {Op: api.OpNop, Arg: 1},
		{Op: api.OpConst, Arg: -1}, {Op: api.OpConst, Arg: 256}, {Op: api.OpLoad, Arg: 16}, {Op: api.OpStore, Arg: 16},
		{Op: api.OpAdd, Arg: -1}, {Op: api.OpSub, Arg: 16}, {Op: api.OpJump, Arg: 5}, {Op: api.OpJump, Arg: -1},
		{Op: api.OpZero, Arg: 5}, {Op: api.OpIn, Arg: 1}, {Op: api.OpOut, Arg: 8}, {Op: api.OpOut, Arg: -1},
		{Op: api.OpGet, Arg: 8}, {Op: api.OpGet, Arg: math.MaxInt}, {Op: api.OpHalt, Arg: 1},
	} {
		// An instruction that is not done counts too.
		for i := range 5 {
			g := at(api.OpNop, 0)
			g.p[i] = x
			checkNot(t, "a program that may not be", g)
		}
	}
	g := at(api.OpNop, 0)
	g.p = make([]api.Instr, api.MaxCode)
	check(t, "MaxCode instructions", g, then(3, 77), quiet)
	for _, many := range []int{api.MaxCode + 1, 2 * api.MaxCode, 100000} {
		g.p = make([]api.Instr, many)
		checkNot(t, "too many instructions", g)
	}
}

func TestMachineMayNotBe(t *testing.T) {
	for _, pc := range []int{-1, -2, -5, math.MinInt, 5, 6, 64, 261, 1 << 32, math.MaxInt} {
		g := at(api.OpNop, 0)
		g.vm.Pc = pc
		checkNot(t, "Pc", g)
	}
	for _, no := range noWords {
		g := at(api.OpNop, 0)
		g.vm.Acc = no
		checkNot(t, "Acc", g)
		for i := range api.Words {
			g := at(api.OpNop, 0)
			g.vm.Mem[i] = no
			checkNot(t, "Mem", g)
		}
	}
	g := at(api.OpNop, 0)
	g.vm = api.Vm{Pc: 4, Acc: most}
	for i := range g.vm.Mem {
		g.vm.Mem[i] = most
	}
	check(t, "the greatest machine", g, api.Vm{Pc: 0, Acc: 99, Mem: g.vm.Mem}, quiet)
}

func TestTakenMayNotBe(t *testing.T) {
	for _, no := range noWords {
		g := at(api.OpNop, 0)
		g.in = no
		checkNot(t, "in", g)
		for many := 1; many <= api.MaxPorts; many++ {
			for i := range many {
				g := at(api.OpNop, 0)
				g.gets = make([]int, many)
				g.gets[i] = no
				if no == -1 {
					check(t, "none to get", g, then(3, 77), quiet)
				} else {
					checkNot(t, "gets", g)
				}
			}
		}
	}
	for _, outs := range []int{-1, -2, -256, math.MinInt, 256, 257, 511, 512, 1 << 32, math.MaxInt} {
		g := at(api.OpNop, 0)
		g.outs = outs
		checkNot(t, "outs", g)
	}
	for _, many := range []int{api.MaxPorts + 1, 2 * api.MaxPorts, 256, 1000} {
		g := at(api.OpNop, 0)
		g.gets = make([]int, many)
		checkNot(t, "too many to get", g)
		g.gets = slices.Repeat([]int{-1}, many)
		checkNot(t, "too many to get", g)
	}
}

// The edges of what may be taken may be, though nobody takes it.
func TestTakenAtItsEdges(t *testing.T) {
	for _, in := range []int{0, most} {
		for _, outs := range []int{0, 255} {
			for _, gets := range [][]int{nil, {}, {-1}, {0}, {most}, slices.Repeat([]int{-1}, 8), slices.Repeat([]int{most}, 8)} {
				g := at(api.OpNop, 0)
				g.in, g.outs, g.gets = in, outs, gets
				check(t, "edges", g, then(3, 77), quiet)
			}
		}
	}
}

// each answers an instruction of each Op, with those that fail.
func each() []api.Instr {
	return []api.Instr{
		{Op: api.OpNop}, {Op: api.OpConst, Arg: 8}, {Op: api.OpLoad, Arg: 1}, {Op: api.OpStore, Arg: 1},
		{Op: api.OpAdd, Arg: 1}, {Op: api.OpSub, Arg: 1}, {Op: api.OpJump, Arg: 1}, {Op: api.OpZero, Arg: 1},
		{Op: api.OpIn}, {Op: api.OpOut}, {Op: api.OpOut, Arg: 1}, {Op: api.OpGet}, {Op: api.OpGet, Arg: 1},
		{Op: api.OpGet, Arg: 7}, {Op: api.OpHalt}, {Op: api.OpHalt, Arg: 1},
	}
}

// What is handed in stays, its spare room too (R4).
func TestArgumentsStay(t *testing.T) {
	for _, x := range each() {
		g := at(x.Op, x.Arg)
		p := append(slices.Clone(g.p), api.Instr{Op: 5, Arg: 5}, api.Instr{Op: 6, Arg: 6})
		gets := append(slices.Clone(g.gets), 71, 72, 73, 74, 75)
		keptP, keptGets := slices.Clone(p), slices.Clone(gets)
		pvm.Step(p[:5], g.vm, g.in, g.outs, gets[:5])
		if !slices.Equal(p, keptP) || !slices.Equal(gets, keptGets) {
			t.Errorf("R4: %v: %v, %v; were %v, %v", x, p, gets, keptP, keptGets)
		}
	}
}

// What lies behind the length of gets is nothing to get (R5).
func TestSpareRoomIsNotGot(t *testing.T) {
	g := at(api.OpGet, 3)
	g.gets = []int{1, 2, 3, 4, 5}[:3]
	check(t, "spare room", g, then(0, 0), failed)
}

// A step hangs on nothing but what it is handed: not on another step, not on one that runs beside it (R5).
func TestStepsBesideEachOther(t *testing.T) {
	type answer struct {
		vm     api.Vm
		effect api.Effect
		err    api.Errno
	}
	ask := func(x api.Instr) answer {
		g := at(x.Op, x.Arg)
		vm, effect, err := pvm.Step(g.p, g.vm, g.in, g.outs, g.gets)
		return answer{vm, effect, err}
	}
	var want []answer
	for _, x := range each() {
		want = append(want, ask(x))
	}
	var all sync.WaitGroup
	for range 8 {
		all.Go(func() {
			for range 50 {
				for i, x := range each() {
					if got := ask(x); got != want[i] {
						t.Errorf("R5: %v: %+v; was %+v", x, got, want[i])
					}
				}
			}
		})
	}
	all.Wait()
}
