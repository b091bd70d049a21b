package config

import (
	"nocturn/api"
)

// mark is what the bytes of each configuration begin with.
const mark = "NC"

// byteBits is how many bits a byte has.
const byteBits = 8

// writer lays numbers one behind the other, the highest byte first.
type writer struct {
	laid []byte
}

// numbers lays each of xs into so many bytes.
func (w *writer) numbers(size int, xs ...int) {
	for _, x := range xs {
		for i := range size {
			w.laid = append(w.laid, byte(x>>(byteBits*(size-1-i))))
		}
	}
}

// config lays a configuration that may be: each of its numbers fits its bytes.
func (w *writer) config(c api.Config) {
	w.laid = append(w.laid, mark...)
	w.numbers(2, c.Frame)
	w.numbers(1, c.Quiet)
	layList(w, c.Parts, w.part)
	layList(w, c.Windows, w.window)
	layList(w, c.Ports, w.port)
}

// part lays a part: its tasks, and its instructions.
func (w *writer) part(p api.Part) {
	w.numbers(1, p.Level)
	layList(w, p.Tasks, w.task)
	layList(w, p.Code, w.instr)
}

func (w *writer) task(t api.Task) {
	w.numbers(1, t.Kind)
	w.numbers(2, t.Period, t.Deadline, t.CLow, t.CHigh)
	w.numbers(1, t.Prio)
}

func (w *writer) instr(x api.Instr) {
	w.numbers(1, x.Op, x.Arg)
}

func (w *writer) window(x api.Window) {
	w.numbers(2, x.From, x.To)
	w.numbers(1, x.Part)
}

func (w *writer) port(p api.Port) {
	w.numbers(1, p.Kind, p.From, p.To, p.Size)
}

// layList lays how many there are, and each of them by lay.
func layList[T any](w *writer, xs []T, lay func(T)) {
	w.numbers(1, len(xs))
	for _, x := range xs {
		lay(x)
	}
}

// reader takes bytes from the front of a text. Once it was asked for more than there are it is short, for good: what it
// answers then is zero, so that whoever reads need ask only at the end, and lists that are read from then on are empty.
type reader struct {
	rest  string
	short bool
}

// take answers the next bytes, so many.
func (r *reader) take(many int) string {
	if r.short || many > len(r.rest) {
		r.short = true
		return ""
	}
	taken := r.rest[:many]
	r.rest = r.rest[many:]
	return taken
}

// number answers the number that so many bytes tell, the highest first.
func (r *reader) number(size int) int {
	x := 0
	for _, b := range []byte(r.take(size)) {
		x = x<<byteBits | int(b)
	}
	return x
}

// done answers whether the text held just what was read.
func (r *reader) done() bool {
	return !r.short && r.rest == ""
}

// partsReader reads the parts of a configuration by the reader of bytes that is embedded in it.
type partsReader struct {
	reader
}

// config reads a configuration, which need not be one that may be. What does not begin with the mark is short.
func (r *partsReader) config() api.Config {
	r.short = r.take(len(mark)) != mark
	return api.Config{
		Frame:   r.number(2),
		Quiet:   r.number(1),
		Parts:   readList(r, r.part),
		Windows: readList(r, r.window),
		Ports:   readList(r, r.port),
	}
}

// part reads a part: its tasks, and its instructions.
func (r *partsReader) part() api.Part {
	return api.Part{Level: r.number(1), Tasks: readList(r, r.task), Code: readList(r, r.instr)}
}

func (r *partsReader) task() api.Task {
	return api.Task{
		Kind:     r.number(1),
		Period:   r.number(2),
		Deadline: r.number(2),
		CLow:     r.number(2),
		CHigh:    r.number(2),
		Prio:     r.number(1),
	}
}

func (r *partsReader) instr() api.Instr {
	return api.Instr{Op: r.number(1), Arg: r.number(1)}
}

func (r *partsReader) window() api.Window {
	return api.Window{From: r.number(2), To: r.number(2), Part: r.number(1)}
}

func (r *partsReader) port() api.Port {
	return api.Port{Kind: r.number(1), From: r.number(1), To: r.number(1), Size: r.number(1)}
}

// readList reads how many there are, and each of them by read.
func readList[T any](r *partsReader, read func() T) []T {
	var xs []T
	for range r.number(1) {
		xs = append(xs, read())
	}
	return xs
}
