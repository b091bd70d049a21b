package code_test

import (
	"math"
	"slices"
	"strings"
	"testing"

	"nocturn/api"
	"nocturn/code"
)

// noOps holds numbers that are none of the Ops; some of them end in a byte that is one.
var noOps = []int{-1, -2, -12, -256, -255, math.MinInt, 12, 13, 255, 256, 257, 267, 1 << 32, 1<<32 + 1, math.MaxInt}

// noArgs holds numbers that are no Arg of any Op.
var noArgs = []int{-1, -2, -255, -256, math.MinInt, 256, 257, 511, 512, 1 << 32, math.MaxInt}

// checkMay holds a program that may be against its bytes, there and back.
func checkMay(t *testing.T, p []api.Instr, want string) {
	t.Helper()
	if !code.May(p) {
		t.Errorf("P4.1: May(%v) = false", p)
	}
	if s, err := code.Put(p); s != want || err != api.OK {
		t.Errorf("P4.1: Put(%v) = %q, %d; want %q", p, s, err, want)
	}
	if back, err := code.Get(want); !slices.Equal(back, p) || err != api.OK {
		t.Errorf("P4.1: Get(%q) = %v, %d; want %v", want, back, err, p)
	}
}

// checkMayNot asks for what is no program.
func checkMayNot(t *testing.T, p []api.Instr) {
	t.Helper()
	if code.May(p) {
		t.Errorf("P4.1: May(%v) = true", p)
	}
	if s, err := code.Put(p); s != "" || err != api.ErrCodeForm {
		t.Errorf("P4.1: Put(%v) = %q, %d", p, s, err)
	}
}

// checkNoBytes asks for bytes that are no program's.
func checkNoBytes(t *testing.T, s string) {
	t.Helper()
	if p, err := code.Get(s); len(p) != 0 || err != api.ErrCodeForm {
		t.Errorf("P4.1: Get(%q) = %v, %d", s, p, err)
	}
}

// bytesOf answers the bytes that a program, or what is none but fits into bytes, is put into.
func bytesOf(p []api.Instr) string {
	var s strings.Builder
	for _, x := range p {
		s.WriteByte(byte(x.Op))
		s.WriteByte(byte(x.Arg))
	}
	return s.String()
}

// nops answers so many instructions that do nothing, with x at the place i.
func nops(many int, i int, x api.Instr) []api.Instr {
	p := make([]api.Instr, many)
	p[i] = x
	return p
}

// argMay says, beside the chapter, whether an Arg is an Op's.
func argMay(op int, arg int, many int) bool {
	switch op {
	case 0, 8, 11:
		return arg == 0
	case 1:
		return arg >= 0 && arg <= 255
	case 2, 3, 4, 5:
		return arg >= 0 && arg <= 15
	case 6, 7:
		return arg >= 0 && arg < many
	case 9, 10:
		return arg >= 0 && arg <= 7
	}
	return false
}

func TestOrdinaryPrograms(t *testing.T) {
	checkMay(t, []api.Instr{{Op: api.OpHalt}}, "\x0b\x00")
	checkMay(t, []api.Instr{{Op: api.OpConst, Arg: 7}, {Op: api.OpStore, Arg: 3}, {Op: api.OpHalt}}, "\x01\x07\x03\x03\x0b\x00")
	checkMay(t, []api.Instr{
		{Op: api.OpIn}, {Op: api.OpAdd, Arg: 15}, {Op: api.OpStore, Arg: 15}, {Op: api.OpOut, Arg: 7}, {Op: api.OpNop},
		{Op: api.OpGet, Arg: 1}, {Op: api.OpZero, Arg: 9}, {Op: api.OpLoad, Arg: 2}, {Op: api.OpSub, Arg: 4}, {Op: api.OpJump, Arg: 0},
	}, "\x08\x00\x04\x0f\x03\x0f\x09\x07\x00\x00\x0a\x01\x07\x09\x02\x02\x05\x04\x06\x00")
}

func TestEmptyProgram(t *testing.T) {
	checkMay(t, nil, "")
	checkMay(t, []api.Instr{}, "")
}

func TestMostInstructions(t *testing.T) {
	checkMay(t, make([]api.Instr, api.MaxCode), strings.Repeat("\x00\x00", api.MaxCode))
	checkMay(t, slices.Repeat([]api.Instr{{Op: api.OpConst, Arg: 255}}, api.MaxCode), strings.Repeat("\x01\xff", api.MaxCode))
	for _, many := range []int{api.MaxCode + 1, api.MaxCode + 2, 2 * api.MaxCode, 256, 257, 1000, 100000} {
		checkMayNot(t, make([]api.Instr, many))
		checkNoBytes(t, strings.Repeat("\x00\x00", many))
		checkNoBytes(t, strings.Repeat("\x01\x00", many))
	}
}

func TestConstTakesEachByte(t *testing.T) {
	for arg := range 256 {
		checkMay(t, []api.Instr{{Op: api.OpConst, Arg: arg}}, string([]byte{1, byte(arg)}))
	}
}

// Each Op's greatest Arg may be, the one above it may not, at every place of a program.
func TestGreatestArg(t *testing.T) {
	for _, many := range []int{1, 2, 7, 8, 9, 15, 16, 17, 63, 64} {
		most := map[int]int{
			api.OpNop: 0, api.OpConst: 255, api.OpLoad: api.Words - 1, api.OpStore: api.Words - 1,
			api.OpAdd: api.Words - 1, api.OpSub: api.Words - 1, api.OpJump: many - 1, api.OpZero: many - 1,
			api.OpIn: 0, api.OpOut: api.MaxPorts - 1, api.OpGet: api.MaxPorts - 1, api.OpHalt: 0,
		}
		for op, arg := range most {
			for _, i := range []int{0, many / 2, many - 1} {
				for _, may := range []int{0, arg} {
					p := nops(many, i, api.Instr{Op: op, Arg: may})
					checkMay(t, p, bytesOf(p))
				}
				over := nops(many, i, api.Instr{Op: op, Arg: arg + 1})
				checkMayNot(t, over)
				if arg < 255 {
					checkNoBytes(t, bytesOf(over))
				}
				checkMayNot(t, nops(many, i, api.Instr{Op: op, Arg: -1}))
			}
		}
	}
}

func TestEachOpAndArg(t *testing.T) {
	for _, many := range []int{1, 8, 16, 20, 64} {
		for op := -3; op < 260; op++ {
			for arg := -3; arg < 260; arg++ {
				p := nops(many, many-1, api.Instr{Op: op, Arg: arg})
				if may := code.May(p); may != argMay(op, arg, many) {
					t.Fatalf("P4.1: May of %d instructions with Op %d, Arg %d = %t", many, op, arg, may)
				}
			}
		}
	}
}

func TestEachTwoBytes(t *testing.T) {
	for op := range 256 {
		for arg := range 256 {
			s := string([]byte{byte(op), byte(arg)})
			if argMay(op, arg, 1) {
				checkMay(t, []api.Instr{{Op: op, Arg: arg}}, s)
			} else {
				checkMayNot(t, []api.Instr{{Op: op, Arg: arg}})
				checkNoBytes(t, s)
			}
		}
	}
}

func TestNoOp(t *testing.T) {
	for _, op := range noOps {
		for _, arg := range append([]int{0, 1, 255}, noArgs...) {
			x := api.Instr{Op: op, Arg: arg}
			checkMayNot(t, []api.Instr{x})
			checkMayNot(t, nops(3, 0, x))
			checkMayNot(t, nops(3, 1, x))
			checkMayNot(t, nops(api.MaxCode, api.MaxCode-1, x))
		}
	}
}

func TestNoArg(t *testing.T) {
	for op := range api.OpHalt + 1 {
		for _, arg := range noArgs {
			x := api.Instr{Op: op, Arg: arg}
			checkMayNot(t, []api.Instr{x})
			checkMayNot(t, nops(3, 0, x))
			checkMayNot(t, nops(3, 1, x))
			checkMayNot(t, nops(api.MaxCode, api.MaxCode-1, x))
		}
	}
}

// A jump counts all instructions, those behind it and its own too.
func TestJumpsAreBelowTheProgramsLength(t *testing.T) {
	for _, op := range []int{api.OpJump, api.OpZero} {
		for many := 1; many <= api.MaxCode; many++ {
			for arg := range many {
				p := nops(many, 0, api.Instr{Op: op, Arg: arg})
				checkMay(t, p, bytesOf(p))
			}
			for _, arg := range []int{many, many + 1, 255} {
				p := nops(many, 0, api.Instr{Op: op, Arg: arg})
				checkMayNot(t, p)
				checkNoBytes(t, bytesOf(p))
			}
		}
	}
}

// What is cut off a program's end may take away where a jump leads.
func TestCutProgram(t *testing.T) {
	whole := []api.Instr{{Op: api.OpJump, Arg: 2}, {Op: api.OpNop}, {Op: api.OpHalt}}
	checkMay(t, whole, "\x06\x02\x00\x00\x0b\x00")
	checkMayNot(t, whole[:2])
	checkNoBytes(t, "\x06\x02\x00\x00")
}

func TestOddLength(t *testing.T) {
	for many := 0; many <= api.MaxCode+1; many++ {
		even := strings.Repeat("\x00\x00", many)
		checkNoBytes(t, even+"\x00")
		checkNoBytes(t, even+"\x01")
		checkNoBytes(t, "\x01"+even)
		checkNoBytes(t, even+"\xff")
	}
}

func TestBytesThatAreNoProgram(t *testing.T) {
	for _, s := range []string{
		"\x0c\x00", "\xff\x00", "\x00\x01", "\x08\x01", "\x0b\x01", "\x00\xff", "\x02\x10", "\x03\x10", "\x04\x10",
		"\x05\x10", "\x06\x01", "\x07\x01", "\x09\x08", "\x0a\x08", "\x0b\x00\x0c\x00", "\x0c\x00\x0b\x00",
		"nop", "halt", "\x0b\x00\n\n", "  ", "ä", strings.Repeat("\xff", 128), strings.Repeat("\x01", api.MaxText),
		strings.Repeat("\x0b\x00", api.MaxText),
	} {
		checkNoBytes(t, s)
	}
}

// Get is Put's way back and no more: what it answers is put into the very bytes again.
func TestThereAndBack(t *testing.T) {
	for seed := range 3000 {
		many := seed % (api.MaxCode + 1)
		var p []api.Instr
		for i := range many {
			op := (seed*7 + i*i*3 + i) % 12
			arg := (seed*13 + i*29) % 256
			for !argMay(op, arg, many) {
				arg /= 2
			}
			p = append(p, api.Instr{Op: op, Arg: arg})
		}
		checkMay(t, p, bytesOf(p))
	}
}

// May and Put neither change what they are handed nor what lies behind its end (R4).
func TestArgumentsStay(t *testing.T) {
	for _, bad := range []api.Instr{{Op: api.OpHalt}, {Op: 12}, {Op: api.OpNop, Arg: 300}} {
		room := []api.Instr{{Op: api.OpConst, Arg: 200}, {Op: api.OpJump, Arg: 2}, bad, {Op: 77, Arg: -7}, {Op: -7, Arg: 77}}
		was := slices.Clone(room)
		code.May(room[:3])
		code.Put(room[:3])
		if !slices.Equal(room, was) {
			t.Errorf("R4: %v became %v", was, room)
		}
	}
}

// What Put answered stays as it is when the program is changed (R4), and Put asks anew.
func TestPutKeepsNothing(t *testing.T) {
	p := []api.Instr{{Op: api.OpConst, Arg: 1}, {Op: api.OpHalt}}
	s, _ := code.Put(p)
	p[0].Arg = 2
	if s != "\x01\x01\x0b\x00" {
		t.Errorf("R4: %q", s)
	}
	checkMay(t, p, "\x01\x02\x0b\x00")
	p[1].Op = 12
	checkMayNot(t, p)
}

func TestGetSharesNothing(t *testing.T) {
	const s = "\x01\x05\x03\x02\x0b\x00"
	want := []api.Instr{{Op: api.OpConst, Arg: 5}, {Op: api.OpStore, Arg: 2}, {Op: api.OpHalt}}
	a, _ := code.Get(s)
	b, _ := code.Get(s)
	for i := range a {
		a[i] = api.Instr{Op: 9, Arg: 9}
	}
	_ = append(a, api.Instr{Op: 8, Arg: 8})
	if !slices.Equal(b, want) {
		t.Errorf("R4: another answer is %v", b)
	}
	_ = append(a[:0], want[2], want[2])
	if c, err := code.Get(s); !slices.Equal(c, want) || err != api.OK {
		t.Errorf("R4: a later answer is %v, %d", c, err)
	}
}

// What was refused turns nothing of what is answered behind it (R5).
func TestRefusalsLeaveNothing(t *testing.T) {
	for range 3 {
		checkMayNot(t, []api.Instr{{Op: api.OpConst, Arg: 256}})
		checkNoBytes(t, "\x01\x05\x0c\x00")
		checkMay(t, []api.Instr{{Op: api.OpConst, Arg: 6}}, "\x01\x06")
	}
}

func TestFromSeveralGoroutines(t *testing.T) {
	p := []api.Instr{{Op: api.OpIn}, {Op: api.OpOut, Arg: 3}, {Op: api.OpJump, Arg: 0}}
	answers := make(chan []api.Instr)
	for range 8 {
		go func() {
			s, _ := code.Put(p)
			back, _ := code.Get(s)
			answers <- back
		}()
	}
	for range 8 {
		if back := <-answers; !slices.Equal(back, p) {
			t.Errorf("R5: %v", back)
		}
	}
}
