package ports

import (
	"nocturn/api"
	"nocturn/queuing"
	"nocturn/sampling"
)

// carrier is what a port carries values in.
type carrier interface {
	// Write takes x in, and answers whether another value was dropped for it.
	Write(x int) bool
	// Read answers the value that a reader takes; false, if there is none.
	Read() (int, bool)
	// peek answers what Read would, 0 if there is none, and takes nothing.
	peek() int
}

// passage is one port: the parts that it leads from and to, and what it carries values in.
type passage struct {
	carrier
	from int
	to   int
}

// newPassage answers the port that of tells, which may be, without a value.
func newPassage(of api.Port) passage {
	return passage{carrier: newCarrier(of), from: of.From, to: of.To}
}

// newCarrier answers what a port of that kind carries values in.
func newCarrier(of api.Port) carrier {
	if of.Kind == api.PortSampling {
		return sampled{sampling.New()}
	}
	// No error comes of it: the port may be, and so its Size.
	q, _ := queuing.New(of.Size)
	return queued{q}
}

// sampled carries the value written last.
type sampled struct {
	*sampling.Sample
}

// Write makes x the value; the one ahead of it counts for no value dropped.
func (s sampled) Write(x int) bool {
	s.Sample.Write(x)
	return false
}

// peek answers the value, which stays when it is read.
func (s sampled) peek() int {
	x, _ := s.Read()
	return x
}

// queued carries values in a row.
type queued struct {
	*queuing.Queue
}

// peek answers the first one of the row, and leaves it there.
func (q queued) peek() int {
	row := q.All()
	if len(row) == 0 {
		return 0
	}
	return row[0]
}
