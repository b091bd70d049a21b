package bits_test

import (
	"math"
	"slices"
	"testing"

	"nocturn/api"
	"nocturn/bits"
)

// far holds numbers that can be in no set.
var far = []int{-1, -2, -63, -64, -65, math.MinInt, api.MaxBits, api.MaxBits + 1, 2 * api.MaxBits, 128, math.MaxInt - 1, math.MaxInt}

// newSet makes a set that must be.
func newSet(t *testing.T, size int, is ...int) *bits.Set {
	t.Helper()
	s, err := bits.New(size, is...)
	if s == nil || err != api.OK {
		t.Fatalf("P3.1: New(%d, %d) = %v, %d", size, is, s, err)
	}
	return s
}

// checkAll holds a set against the members that it must have, by All and by Has.
func checkAll(t *testing.T, s *bits.Set, want ...int) {
	t.Helper()
	if got := s.All(); !slices.Equal(got, want) {
		t.Errorf("P3.1: All() = %d; want %d", got, want)
	}
	for i := -2; i < api.MaxBits+2; i++ {
		checkHas(t, s, i, slices.Contains(want, i))
	}
}

// checkHas asks for i, which must be in the set or not.
func checkHas(t *testing.T, s *bits.Set, i int, want bool) {
	t.Helper()
	if got := s.Has(i); got != want {
		t.Errorf("P3.1: Has(%d) = %t; want %t", i, got, want)
	}
}

// checkNext asks for the one behind i, which must be want, or not be.
func checkNext(t *testing.T, s *bits.Set, i int, want int, is bool) {
	t.Helper()
	if got, was := s.Next(i); got != want || was != is {
		t.Errorf("P3.1: Next(%d) = %d, %t; want %d, %t", i, got, was, want, is)
	}
}

// checkPut puts i, which must be answered by want.
func checkPut(t *testing.T, s *bits.Set, i int, want api.Errno) {
	t.Helper()
	if err := s.Put(i); err != want {
		t.Errorf("P3.1: Put(%d) = %d; want %d", i, err, want)
	}
}

// checkDrop drops i, which must be answered by want.
func checkDrop(t *testing.T, s *bits.Set, i int, want api.Errno) {
	t.Helper()
	if err := s.Drop(i); err != want {
		t.Errorf("P3.1: Drop(%d) = %d; want %d", i, err, want)
	}
}

// below answers the numbers from 0 below size.
func below(size int) []int {
	var is []int
	for i := range size {
		is = append(is, i)
	}
	return is
}

func TestNewRefusesSizes(t *testing.T) {
	for _, size := range []int{0, -1, -64, math.MinInt, api.MaxBits + 1, 2 * api.MaxBits, math.MaxInt} {
		for _, is := range [][]int{nil, {}, {0}, {0, 1}, {-1}} {
			if s, err := bits.New(size, is...); s != nil || err != api.ErrBitsForm {
				t.Errorf("P3.1: New(%d, %d) = %v, %d", size, is, s, err)
			}
		}
	}
}

func TestNewRefusesMembers(t *testing.T) {
	for size := 1; size <= api.MaxBits; size++ {
		for _, i := range append([]int{size, size + 1, size + 64}, far...) {
			for _, is := range [][]int{{i}, {0, i}, {i, 0}, {0, i, size - 1}, {i, i}} {
				if s, err := bits.New(size, is...); s != nil || err != api.ErrBitsForm {
					t.Errorf("P3.1: New(%d, %d) = %v, %d", size, is, s, err)
				}
			}
		}
	}
}

func TestNewOfEachSize(t *testing.T) {
	for size := 1; size <= api.MaxBits; size++ {
		checkAll(t, newSet(t, size))
		checkAll(t, newSet(t, size, 0), 0)
		checkAll(t, newSet(t, size, size-1), size-1)
		checkAll(t, newSet(t, size, below(size)...), below(size)...)
		for i := range size {
			checkAll(t, newSet(t, size, i), i)
		}
	}
}

func TestNewTakesMembersInAnyOrderAndTwice(t *testing.T) {
	checkAll(t, newSet(t, 10, 9, 0, 4, 0, 9, 2), 0, 2, 4, 9)
	checkAll(t, newSet(t, 5, 3, 3, 3), 3)
	many := slices.Concat(below(7), below(7), below(7), below(7), below(7), below(7), below(7), below(7), below(7), below(7))
	checkAll(t, newSet(t, 7, many...), below(7)...)
}

func TestPutAndDrop(t *testing.T) {
	s := newSet(t, 8, 3)
	checkPut(t, s, 7, api.OK)
	checkPut(t, s, 0, api.OK)
	checkAll(t, s, 0, 3, 7)
	checkDrop(t, s, 3, api.OK)
	checkAll(t, s, 0, 7)
	checkPut(t, s, 3, api.OK)
	checkAll(t, s, 0, 3, 7)
	checkDrop(t, s, 0, api.OK)
	checkDrop(t, s, 7, api.OK)
	checkDrop(t, s, 3, api.OK)
	checkAll(t, s)
}

func TestPutTwice(t *testing.T) {
	s := newSet(t, 8, 2)
	for range 3 {
		checkPut(t, s, 2, api.OK)
		checkPut(t, s, 5, api.OK)
		checkAll(t, s, 2, 5)
	}
	checkDrop(t, s, 2, api.OK)
	checkAll(t, s, 5)
}

func TestDropWhatIsNotThere(t *testing.T) {
	s := newSet(t, 8, 2)
	for range 3 {
		checkDrop(t, s, 0, api.OK)
		checkDrop(t, s, 7, api.OK)
		checkAll(t, s, 2)
	}
	for range 2 {
		checkDrop(t, s, 2, api.OK)
		checkAll(t, s)
	}
}

func TestEachMemberPutAndDropped(t *testing.T) {
	for size := 1; size <= api.MaxBits; size++ {
		s := newSet(t, size)
		for i := range size {
			checkPut(t, s, i, api.OK)
			checkAll(t, s, below(i+1)...)
		}
		for i := size - 1; i >= 0; i-- {
			checkDrop(t, s, i, api.OK)
			checkAll(t, s, below(i)...)
		}
	}
}

// What can be no member is refused, and the set is as it was, an empty, a mixed and a full one.
func TestPutAndDropRefuse(t *testing.T) {
	for size := 1; size <= api.MaxBits; size++ {
		for _, members := range [][]int{nil, {0}, {size - 1}, below(size)} {
			s := newSet(t, size, members...)
			for _, i := range append([]int{size, size + 1, size + 64}, far...) {
				checkPut(t, s, i, api.ErrBitsForm)
				checkDrop(t, s, i, api.ErrBitsForm)
			}
			checkAll(t, s, members...)
			want, is := nextOf(members, size-1)
			checkNext(t, s, size-1, want, is)
		}
	}
}

func TestHasOfWhatCanBeNoMember(t *testing.T) {
	for size := 1; size <= api.MaxBits; size++ {
		full := newSet(t, size, below(size)...)
		for _, i := range append([]int{size, size + 1, size + 64}, far...) {
			checkHas(t, full, i, false)
		}
	}
}

func TestNext(t *testing.T) {
	s := newSet(t, 10, 2, 3, 7)
	for i, want := range []int{2, 2, 3, 7, 7, 7, 7, 2, 2, 2} {
		checkNext(t, s, i, want, true)
	}
	checkAll(t, s, 2, 3, 7)
}

func TestNextAboveTheGreatest(t *testing.T) {
	s := newSet(t, 64, 5, 62)
	checkNext(t, s, 61, 62, true)
	checkNext(t, s, 62, 5, true)
	checkNext(t, s, 63, 5, true)
	top := newSet(t, 64, 1, 63)
	checkNext(t, top, 62, 63, true)
	checkNext(t, top, 63, 1, true)
}

func TestNextFromBelowZero(t *testing.T) {
	for _, i := range []int{-1, -2, -64, -65, math.MinInt} {
		checkNext(t, newSet(t, 64, 0, 63), i, 0, true)
		checkNext(t, newSet(t, 64, 9, 12), i, 9, true)
		checkNext(t, newSet(t, 64, 63), i, 63, true)
	}
}

func TestNextFromSizeOn(t *testing.T) {
	for _, i := range []int{6, 7, 63, 64, 65, 127, 128, math.MaxInt - 1, math.MaxInt} {
		checkNext(t, newSet(t, 6, 0, 5), i, 0, true)
		checkNext(t, newSet(t, 6, 4, 5), i, 4, true)
	}
	for _, i := range []int{64, 65, 127, 128, math.MaxInt - 1, math.MaxInt} {
		checkNext(t, newSet(t, 64, 3, 63), i, 3, true)
	}
}

func TestNextOfOneMember(t *testing.T) {
	for size := 1; size <= api.MaxBits; size++ {
		for member := range size {
			s := newSet(t, size, member)
			for i := -2; i < size+2; i++ {
				checkNext(t, s, i, member, true)
			}
			checkNext(t, s, math.MinInt, member, true)
			checkNext(t, s, math.MaxInt, member, true)
		}
	}
}

func TestNextOfTheFullSet(t *testing.T) {
	for size := 1; size <= api.MaxBits; size++ {
		s := newSet(t, size, below(size)...)
		for i := -1; i < size; i++ {
			checkNext(t, s, i, (i+1)%size, true)
		}
	}
}

// Beside the false stands 0, whatever was asked and whatever was in the set ahead of it (R2).
func TestEmptySet(t *testing.T) {
	for _, size := range []int{1, 2, 63, 64} {
		s := newSet(t, size)
		for range 2 {
			for _, i := range append([]int{0, 1, size - 1, size}, far...) {
				checkNext(t, s, i, 0, false)
			}
			checkAll(t, s)
			checkPut(t, s, size-1, api.OK)
			checkNext(t, s, 0, size-1, true)
			checkDrop(t, s, size-1, api.OK)
		}
	}
}

// The set in a plain list is held against each size, through many members put and dropped.
func TestAgainstAPlainList(t *testing.T) {
	for size := 1; size <= api.MaxBits; size++ {
		s := newSet(t, size)
		var members []int
		for step := range 300 {
			i := (step*step*7 + step/3) % size
			place, is := slices.BinarySearch(members, i)
			if step%5 < 3 {
				checkPut(t, s, i, api.OK)
				if !is {
					members = slices.Insert(members, place, i)
				}
			} else {
				checkDrop(t, s, i, api.OK)
				if is {
					members = slices.Delete(members, place, place+1)
				}
			}
			checkAll(t, s, members...)
			from := step%(size+2) - 1
			want, found := nextOf(members, from)
			checkNext(t, s, from, want, found)
		}
	}
}

// nextOf answers what Next must, of a rising list.
func nextOf(members []int, i int) (int, bool) {
	if len(members) == 0 {
		return 0, false
	}
	for _, member := range members {
		if member > i {
			return member, true
		}
	}
	return members[0], true
}

// New neither changes its list, its spare room neither, nor keeps it (R4).
func TestNewSharesNothing(t *testing.T) {
	room := []int{5, 1, 3, 1, 99, 98}
	is := room[:4]
	s := newSet(t, 8, is...)
	if !slices.Equal(room, []int{5, 1, 3, 1, 99, 98}) {
		t.Errorf("R4: New turned its list to %d", room)
	}
	for i := range room {
		room[i] = 7
	}
	checkAll(t, s, 1, 3, 5)
	checkPut(t, s, 6, api.OK)
	checkDrop(t, s, 1, api.OK)
	checkAll(t, s, 3, 5, 6)
	if !slices.Equal(room, []int{7, 7, 7, 7, 7, 7}) {
		t.Errorf("R4: the set turned the list to %d", room)
	}
}

func TestNewThatRefusesChangesNothing(t *testing.T) {
	room := []int{5, 1, 8, 3, 99}
	if s, err := bits.New(8, room[:4]...); s != nil || err != api.ErrBitsForm {
		t.Errorf("P3.1: New = %v, %d", s, err)
	}
	if !slices.Equal(room, []int{5, 1, 8, 3, 99}) {
		t.Errorf("R4: New turned its list to %d", room)
	}
}

func TestAllSharesNothing(t *testing.T) {
	s := newSet(t, 8, 1, 3, 5)
	a, b := s.All(), s.All()
	for i := range a {
		a[i] = 7
	}
	_ = append(a[:0], 6, 6, 6)
	if !slices.Equal(b, []int{1, 3, 5}) {
		t.Errorf("R4: another answer is %d", b)
	}
	checkAll(t, s, 1, 3, 5)
	checkDrop(t, s, 3, api.OK)
	checkPut(t, s, 0, api.OK)
	if !slices.Equal(b, []int{1, 3, 5}) {
		t.Errorf("R4: the set turned an answer to %d", b)
	}
	checkAll(t, s, 0, 1, 5)
}

// What an answer has room for beyond its end is not the set's, nor another answer's.
func TestAllSharesNoSpareRoom(t *testing.T) {
	s := newSet(t, 64, 1, 3, 5)
	a := s.All()
	_ = append(a, 99, 99)
	checkPut(t, s, 9, api.OK)
	b := s.All()
	_ = append(a, 99, 99)
	checkAll(t, s, 1, 3, 5, 9)
	if !slices.Equal(b, []int{1, 3, 5, 9}) {
		t.Errorf("R4: another answer is %d", b)
	}
}

func TestSetsAreApart(t *testing.T) {
	a, b := newSet(t, 4, 1), newSet(t, 4, 1)
	checkPut(t, a, 2, api.OK)
	checkDrop(t, a, 1, api.OK)
	checkAll(t, a, 2)
	checkAll(t, b, 1)
	small, great := newSet(t, 4), newSet(t, 64)
	checkPut(t, great, 63, api.OK)
	checkPut(t, small, 63, api.ErrBitsForm)
	checkAll(t, small)
	checkAll(t, great, 63)
}

func TestNilSet(t *testing.T) {
	var s *bits.Set
	for _, i := range append([]int{0, 1, 63}, far...) {
		if err := s.Put(i); err != api.ErrNil {
			t.Errorf("R3: Put(%d) = %d", i, err)
		}
		if err := s.Drop(i); err != api.ErrNil {
			t.Errorf("R3: Drop(%d) = %d", i, err)
		}
		if s.Has(i) {
			t.Errorf("R3: Has(%d) = true", i)
		}
		if next, is := s.Next(i); next != 0 || is {
			t.Errorf("R3: Next(%d) = %d, %t", i, next, is)
		}
	}
	if all := s.All(); len(all) != 0 {
		t.Errorf("R3: All = %d", all)
	}
}

// A Set that New did not make has room for no member: its calls answer all the same (R1).
func TestSetThatNewDidNotMake(t *testing.T) {
	var s bits.Set
	for _, i := range append([]int{0, 1, 63}, far...) {
		checkPut(t, &s, i, api.ErrBitsForm)
		checkDrop(t, &s, i, api.ErrBitsForm)
		checkNext(t, &s, i, 0, false)
	}
	checkAll(t, &s)
}

func TestNewFromSeveralGoroutines(t *testing.T) {
	is := []int{3, 1, 2}
	answers := make(chan []int)
	for range 8 {
		go func() {
			s, _ := bits.New(4, is...)
			answers <- s.All()
		}()
	}
	for range 8 {
		if all := <-answers; !slices.Equal(all, []int{1, 2, 3}) {
			t.Errorf("R5: %d", all)
		}
	}
}
