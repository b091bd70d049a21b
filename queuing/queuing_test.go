package queuing_test

import (
	"math"
	"slices"
	"sync"
	"testing"

	"nocturn/api"
	"nocturn/queuing"
)

// edges holds numbers just within, on and just behind the edges of the kinds of numbers.
var edges = []int{
	0, 1, -1, 2, -2, 63, 64, 65, 127, 128, -128, -129, 255, 256, -255, -256, 65535, 65536, -65536,
	math.MaxInt32, math.MaxInt32 + 1, math.MinInt32, math.MinInt32 - 1, math.MaxUint32, math.MaxUint32 + 1,
	-math.MaxUint32, -math.MaxUint32 - 1, 1 << 52, 1<<53 + 1, -1<<53 - 1, math.MaxInt - 1, math.MaxInt,
	math.MinInt + 1, math.MinInt,
}

// newQueue makes a queue that must be, and must be empty.
func newQueue(t *testing.T, size int) *queuing.Queue {
	t.Helper()
	q, err := queuing.New(size)
	if q == nil || err != api.OK {
		t.Fatalf("P16.1: New(%d) = %v, %d", size, q, err)
	}
	checkLen(t, q, 0)
	return q
}

// checkLen asks how many values stand in a queue.
func checkLen(t *testing.T, q *queuing.Queue, want int) {
	t.Helper()
	if got := q.Len(); got != want {
		t.Errorf("P16.1: Len() = %d; want %d", got, want)
	}
}

// checkWrite writes x, which must drop another one or not.
func checkWrite(t *testing.T, q *queuing.Queue, x int, want bool) {
	t.Helper()
	if got := q.Write(x); got != want {
		t.Errorf("P16.1: Write(%d) = %t; want %t", x, got, want)
	}
}

// checkRead reads a queue, the first one of which must be want.
func checkRead(t *testing.T, q *queuing.Queue, want int) {
	t.Helper()
	if x, is := q.Read(); x != want || !is {
		t.Errorf("P16.1: Read() = %d, %t; want %d, true", x, is, want)
	}
}

// checkNone reads a queue that must be empty: nothing stands beside the false (R2).
func checkNone(t *testing.T, q *queuing.Queue) {
	t.Helper()
	if x, is := q.Read(); x != 0 || is {
		t.Errorf("P16.1: Read() = %d, %t; want 0, false", x, is)
	}
	checkLen(t, q, 0)
}

// checkRest reads a queue till it is empty; the values that want holds must come, in their row.
func checkRest(t *testing.T, q *queuing.Queue, want ...int) {
	t.Helper()
	checkLen(t, q, len(want))
	for i, x := range want {
		checkRead(t, q, x)
		checkLen(t, q, len(want)-i-1)
	}
	checkNone(t, q)
}

// model is a queue by the chapter's words.
type model struct {
	size int
	row  []int
}

// write makes x the last one; of a full row the first one is dropped.
func (m *model) write(x int) bool {
	full := len(m.row) == m.size
	if full {
		m.row = m.row[1:]
	}
	m.row = append(m.row, x)
	return full
}

// checkWrite writes x to a queue and to its model.
func (m *model) checkWrite(t *testing.T, q *queuing.Queue, x int) {
	t.Helper()
	checkWrite(t, q, x, m.write(x))
	checkLen(t, q, len(m.row))
}

// checkRead reads a queue and its model.
func (m *model) checkRead(t *testing.T, q *queuing.Queue) {
	t.Helper()
	if len(m.row) == 0 {
		checkNone(t, q)
		return
	}
	checkRead(t, q, m.row[0])
	m.row = m.row[1:]
	checkLen(t, q, len(m.row))
}

// chance makes numbers of no plain order, the same ones each time.
type chance uint64

// below answers the next number, from 0 below n.
func (c *chance) below(n int) int {
	*c = *c*6364136223846793005 + 1442695040888963407
	return int(uint64(*c>>33) % uint64(n))
}

func TestNewRefusesSizes(t *testing.T) {
	for _, size := range []int{
		0, -1, -2, -api.MaxPort, math.MinInt32, math.MinInt + 1, math.MinInt, math.MinInt + api.MaxPort,
		api.MaxPort + 1, api.MaxPort + 2, 2 * api.MaxPort, api.MaxRing - 1, api.MaxRing, api.MaxRing + 1, 256, 257,
		math.MaxInt32, math.MaxUint32 + 2, math.MaxInt - 1, math.MaxInt,
	} {
		if q, err := queuing.New(size); q != nil || err != api.ErrQueuingForm {
			t.Errorf("P16.1: New(%d) = %v, %d; want nil, %d", size, q, err, api.ErrQueuingForm)
		}
	}
}

func TestEachSizeHoldsSoMany(t *testing.T) {
	for size := 1; size <= api.MaxPort; size++ {
		q := newQueue(t, size)
		checkNone(t, q)
		var want []int
		for x := range size {
			checkWrite(t, q, x, false)
			checkLen(t, q, x+1)
			want = append(want, x)
		}
		checkRest(t, q, want...)
	}
}

// A full row stays full: each further value drops the first one, many times round.
func TestFullRowDropsTheFirst(t *testing.T) {
	for size := 1; size <= api.MaxPort; size++ {
		for past := 1; past <= 200; past++ {
			q := newQueue(t, size)
			var want []int
			for x := range size + past {
				checkWrite(t, q, x, x >= size)
				checkLen(t, q, min(x+1, size))
				if x >= past {
					want = append(want, x)
				}
			}
			checkRest(t, q, want...)
		}
	}
}

func TestRoomAgainBehindARead(t *testing.T) {
	q := newQueue(t, 3)
	for x := range 3 {
		checkWrite(t, q, x, false)
	}
	checkRead(t, q, 0)
	checkLen(t, q, 2)
	checkWrite(t, q, 3, false)
	checkLen(t, q, 3)
	checkWrite(t, q, 4, true)
	checkLen(t, q, 3)
	checkRest(t, q, 2, 3, 4)
	checkWrite(t, q, 5, false)
	checkRest(t, q, 5)
}

// Each number is a value as all others, whether it is dropped or comes out, 0 with them.
func TestEachNumberIsAValue(t *testing.T) {
	for _, x := range edges {
		for _, y := range edges {
			q := newQueue(t, 1)
			checkWrite(t, q, x, false)
			checkLen(t, q, 1)
			checkWrite(t, q, y, true)
			checkRest(t, q, y)
			q = newQueue(t, 2)
			checkWrite(t, q, x, false)
			checkWrite(t, q, y, false)
			checkWrite(t, q, x, true)
			checkRest(t, q, y, x)
		}
	}
}

// The same value stands in the row as often as it was written.
func TestSameValueManyTimes(t *testing.T) {
	q := newQueue(t, 4)
	for range 4 {
		checkWrite(t, q, 0, false)
	}
	checkWrite(t, q, 0, true)
	checkRest(t, q, 0, 0, 0, 0)
}

func TestEmptyRow(t *testing.T) {
	q := newQueue(t, 2)
	for x := range 100 {
		for range 3 {
			checkNone(t, q)
		}
		checkWrite(t, q, x, false)
		checkRest(t, q, x)
	}
}

// So many stand in the row all the time, while as many are written as are read.
func TestWritesAndReadsAlternate(t *testing.T) {
	for size := 1; size <= api.MaxPort; size++ {
		for stand := range size {
			q := newQueue(t, size)
			m := model{size: size}
			for x := range stand {
				m.checkWrite(t, q, x)
			}
			for x := range 500 {
				m.checkWrite(t, q, stand+x)
				m.checkRead(t, q)
			}
			checkRest(t, q, m.row...)
		}
	}
}

// Writes and Reads of no plain order, now more of these, now more of those, against the model.
func TestWritesAndReadsInNoPlainOrder(t *testing.T) {
	var c chance
	for size := 1; size <= api.MaxPort; size++ {
		for often := 1; often <= 9; often++ {
			q := newQueue(t, size)
			m := model{size: size}
			for range 400 {
				if c.below(10) < often {
					m.checkWrite(t, q, edges[c.below(len(edges))])
				} else {
					m.checkRead(t, q)
				}
			}
			checkRest(t, q, m.row...)
		}
	}
}

// Len takes nothing away and adds nothing.
func TestLenChangesNothing(t *testing.T) {
	q := newQueue(t, 2)
	checkWrite(t, q, 7, false)
	for range 100 {
		checkLen(t, q, 1)
	}
	checkWrite(t, q, 8, false)
	for range 100 {
		checkLen(t, q, 2)
	}
	checkWrite(t, q, 9, true)
	checkRest(t, q, 8, 9)
}

func TestQueuesAreApart(t *testing.T) {
	a, b := newQueue(t, 2), newQueue(t, 2)
	if a == b {
		t.Fatal("R5: two calls of New answer one queue")
	}
	checkWrite(t, a, 5, false)
	checkNone(t, b)
	checkWrite(t, b, -7, false)
	checkWrite(t, a, 6, false)
	checkWrite(t, a, 0, true)
	checkLen(t, b, 1)
	checkRest(t, b, -7)
	checkNone(t, newQueue(t, 2))
	checkRest(t, a, 6, 0)
}

// Many queues of all sizes, written and read in no plain order, each against a model of its own.
func TestManyQueuesInNoPlainOrder(t *testing.T) {
	var c chance
	var queues []*queuing.Queue
	var models []*model
	for i := range 8000 {
		if i%200 == 0 {
			size := 1 + len(queues)%api.MaxPort
			queues = append(queues, newQueue(t, size))
			models = append(models, &model{size: size})
		}
		n := c.below(len(queues))
		if c.below(3) > 0 {
			models[n].checkWrite(t, queues[n], i-4000)
		} else {
			models[n].checkRead(t, queues[n])
		}
	}
	for n, q := range queues {
		checkRest(t, q, models[n].row...)
	}
}

// A size that is refused turns nothing for the queues that stand.
func TestRefusedSizeChangesNothing(t *testing.T) {
	q := newQueue(t, 1)
	checkWrite(t, q, 3, false)
	if none, err := queuing.New(0); none != nil || err != api.ErrQueuingForm {
		t.Errorf("P16.1: New(0) = %v, %d", none, err)
	}
	checkRest(t, q, 3)
}

// A queue is told by its own calls alone, also where others are made, written and read at the same time.
func TestQueuesBesideEachOther(t *testing.T) {
	var all sync.WaitGroup
	for n := range 8 {
		all.Go(func() {
			q, err := queuing.New(n + 1)
			if q == nil || err != api.OK {
				t.Errorf("P16.1: New(%d) = %v, %d", n+1, q, err)
				return
			}
			m := model{size: n + 1}
			for i := range 300 {
				m.checkWrite(t, q, n*1000+i)
				if i%3 == 0 {
					m.checkRead(t, q)
				}
			}
			checkRest(t, q, m.row...)
		})
	}
	all.Wait()
}

// checkWithoutRoom asks a queue that holds nothing, and can hold nothing.
func checkWithoutRoom(t *testing.T, q *queuing.Queue) {
	t.Helper()
	for _, x := range edges {
		if q.Write(x) {
			t.Errorf("R3: Write(%d) of no queue = true", x)
		}
		if got, is := q.Read(); got != 0 || is {
			t.Errorf("R3: Read() of no queue = %d, %t", got, is)
		}
		if got := q.Len(); got != 0 {
			t.Errorf("R3: Len() of no queue = %d", got)
		}
	}
}

func TestNilQueue(t *testing.T) {
	checkWithoutRoom(t, nil)
}

// A Queue that New did not make has no size: it takes nothing, and does not panic (R1).
func TestQueueThatNewDidNotMake(t *testing.T) {
	checkWithoutRoom(t, new(queuing.Queue))
}

// The methods of the ring are the queue's, on the same row: All tells the first one without taking it.
func TestMethodsOfTheRing(t *testing.T) {
	q := newQueue(t, 2)
	checkWrite(t, q, 4, false)
	if !q.Offer(5) || q.Offer(6) {
		t.Error("P2.1: Offer of a queue: the row of two takes one more, and then none")
	}
	if all := q.All(); !slices.Equal(all, []int{4, 5}) {
		t.Errorf("P2.1: All() of a queue = %d; want [4 5]", all)
	} else {
		all[0] = 9 // what is answered is not the queue's (R4)
	}
	checkLen(t, q, 2)
	if x, was := q.Push(6); x != 4 || !was {
		t.Errorf("P2.1: Push(6) of a queue = %d, %t; want 4, true", x, was)
	}
	if x, is := q.Pop(); x != 5 || !is {
		t.Errorf("P2.1: Pop() of a queue = %d, %t; want 5, true", x, is)
	}
	checkRest(t, q, 6)
}

// port embeds a queue, as a port does (chapter 17): the queue's methods are the port's.
type port struct {
	*queuing.Queue
	from int
}

func TestEmbedded(t *testing.T) {
	a, b := port{newQueue(t, 1), 1}, port{newQueue(t, 2), 2}
	if a.Write(9) || !a.Write(8) || b.Write(7) {
		t.Error("P16.1: Write of an embedded queue: a row of one drops the first one for the second alone")
	}
	if a.Len() != 1 || b.Len() != 1 {
		t.Errorf("P16.1: Len() of embedded queues = %d, %d; want 1, 1", a.Len(), b.Len())
	}
	if x, is := a.Read(); x != 8 || !is {
		t.Errorf("P16.1: Read() of an embedded queue = %d, %t; want 8, true", x, is)
	}
	checkRest(t, a.Queue)
	checkRest(t, b.Queue, 7)
	checkWithoutRoom(t, port{from: 3}.Queue)
}
