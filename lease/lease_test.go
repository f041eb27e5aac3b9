package lease

import (
	"bytes"
	"math"
	"math/rand"
	"slices"
	"testing"

	"sallyport/api"
)

const (
	greatest = math.MaxInt
	least    = math.MinInt
)

func rangeOf(at, n int) api.Range { return api.Range{At: at, N: n} }

// counted are the bytes 0, 1, 2 and on.
func counted(n int) []byte {
	b := make([]byte, n)
	for i := range b {
		b[i] = byte(i)
	}
	return b
}

// wrongOf are ranges that do not lie within n bytes.
func wrongOf(n int) []api.Range {
	return []api.Range{
		rangeOf(-1, 0), rangeOf(-1, 1), rangeOf(0, -1), rangeOf(-1, -1), rangeOf(n, -1),
		rangeOf(0, n+1), rangeOf(n, 1), rangeOf(n+1, 0), rangeOf(n+1, -1), rangeOf(1, n),
		rangeOf(greatest, 0), rangeOf(0, greatest), rangeOf(greatest, 1), rangeOf(1, greatest),
		rangeOf(greatest, greatest), rangeOf(least, 0), rangeOf(0, least), rangeOf(least, least),
		rangeOf(least, greatest), rangeOf(greatest, least), rangeOf(greatest, n+2), rangeOf(n, greatest),
	}
}

// P2.1: every range near some bytes, against the words of the chapter in numbers that do not wrap.
func TestLendEveryRange(t *testing.T) {
	for n := range 7 {
		b := counted(n)
		for at := -2; at <= n+2; at++ {
			for count := -2; count <= n+2; count++ {
				w, e := Lend(b, rangeOf(at, count))
				if at < 0 || count < 0 || at+count > n {
					if w != nil || e != api.ErrOut {
						t.Errorf("of %d, %d %d: %v, %d", n, at, count, w, e)
					}
					continue
				}
				if e != api.OK || !bytes.Equal(w, b[at:at+count]) || cap(w) != count {
					t.Errorf("of %d, %d %d: %v with room %d, %d", n, at, count, w, cap(w), e)
				}
				if count > 0 && &w[0] != &b[at] {
					t.Errorf("of %d, %d %d: other memory", n, at, count)
				}
			}
		}
	}
}

func TestLendWrongRanges(t *testing.T) {
	for _, b := range [][]byte{counted(6), counted(1), make([]byte, 6, 600)} {
		before := slices.Clone(b)
		for _, r := range wrongOf(len(b)) {
			if w, e := Lend(b, r); w != nil || e != api.ErrOut {
				t.Errorf("of %d, %v: %v, %d", len(b), r, w, e)
			}
		}
		if !bytes.Equal(b, before) {
			t.Errorf("bytes %v", b)
		}
	}
}

// P2.1: the spare room behind bytes is not theirs.
func TestLendStopsAtTheLength(t *testing.T) {
	all := counted(10)
	b := all[2:6]
	if w, e := Lend(b, rangeOf(0, 5)); w != nil || e != api.ErrOut {
		t.Errorf("into the spare room: %v, %d", w, e)
	}
	w, e := Lend(b, rangeOf(0, 4))
	if e != api.OK || cap(w) != 4 {
		t.Fatalf("all: room %d, %d", cap(w), e)
	}
	_ = append(w, 77)
	if !bytes.Equal(all, counted(10)) {
		t.Errorf("bytes %v", all)
	}
}

func TestLendOfNothing(t *testing.T) {
	for _, b := range [][]byte{nil, {}} {
		if w, e := Lend(b, rangeOf(0, 0)); len(w) != 0 || cap(w) != 0 || e != api.OK {
			t.Errorf("none of none: %v, %d", w, e)
		}
		if w, e := Lend(b, rangeOf(0, 1)); w != nil || e != api.ErrOut {
			t.Errorf("one of none: %v, %d", w, e)
		}
		if w, e := Lend(b, rangeOf(1, 0)); w != nil || e != api.ErrOut {
			t.Errorf("none behind none: %v, %d", w, e)
		}
	}
}

// P2.1: what is written to either shows in the other.
func TestLendSharesMemory(t *testing.T) {
	b := counted(6)
	w, _ := Lend(b, rangeOf(2, 3))
	same, _ := Lend(b, rangeOf(3, 3))
	w[1] = 90
	b[4] = 91
	if !bytes.Equal(b, []byte{0, 1, 2, 90, 91, 5}) || !bytes.Equal(w, []byte{2, 90, 91}) || !bytes.Equal(same, []byte{90, 91, 5}) {
		t.Errorf("bytes %v, windows %v and %v", b, w, same)
	}
}

// The chapter's examples of Lend.
func TestLendExamples(t *testing.T) {
	b := counted(6)
	w, e := Lend(b, rangeOf(2, 3))
	if e != api.OK || !bytes.Equal(w, []byte{2, 3, 4}) || cap(w) != 3 {
		t.Fatalf("%v with room %d, %d", w, cap(w), e)
	}
	w[0] = 9
	append(w, 7)[0] = 8
	if !bytes.Equal(b, []byte{0, 1, 9, 3, 4, 5}) {
		t.Errorf("bytes %v", b)
	}
	if w, e := Lend(b, rangeOf(6, 0)); len(w) != 0 || e != api.OK {
		t.Errorf("at the very end: %v, %d", w, e)
	}
}

// step is a call of a book, and what it is to answer.
type step struct {
	lend bool
	r    api.Range
	id   int
	want api.Errno
}

func lends(at, n, id int, want api.Errno) step { return step{true, rangeOf(at, n), id, want} }
func backs(id int, want api.Errno) step        { return step{false, api.Range{}, id, want} }

func doSteps(t *testing.T, name string, k *Book, b []byte, steps ...step) {
	t.Helper()
	for i, s := range steps {
		if !s.lend {
			if e := k.Back(s.id); e != s.want {
				t.Errorf("%s, step %d: Back(%d): %d, not %d", name, i, s.id, e, s.want)
			}
			continue
		}
		w, id, e := k.Lend(s.r)
		if id != s.id || e != s.want {
			t.Errorf("%s, step %d: Lend(%v): %d, %d, not %d, %d", name, i, s.r, id, e, s.id, s.want)
		}
		if e != api.OK && w != nil {
			t.Errorf("%s, step %d: Lend(%v): a window %v beside an error", name, i, s.r, w)
		}
		if e == api.OK && (len(w) != s.r.N || cap(w) != s.r.N || s.r.N > 0 && &w[0] != &b[s.r.At]) {
			t.Errorf("%s, step %d: Lend(%v): %v with room %d", name, i, s.r, w, cap(w))
		}
	}
}

func wantOut(t *testing.T, name string, k *Book, want ...api.Range) {
	t.Helper()
	if got := k.Out(); !slices.Equal(got, want) {
		t.Errorf("%s: Out: %v, not %v", name, got, want)
	}
}

// The chapter's examples of a book.
func TestBookExamples(t *testing.T) {
	b := counted(6)
	k := New(b)
	doSteps(t, "lent", k, b, lends(0, 2, 0, api.OK), lends(1, 1, 0, api.ErrBusy), lends(1, 0, 1, api.OK), lends(2, 4, 2, api.OK))
	wantOut(t, "lent", k, rangeOf(0, 2), rangeOf(1, 0), rangeOf(2, 4))
	doSteps(t, "back", k, b, backs(0, api.OK), backs(0, api.ErrBack), lends(0, 2, 3, api.OK), backs(7, api.ErrBack))
	wantOut(t, "back", k, rangeOf(1, 0), rangeOf(2, 4), rangeOf(0, 2))
	if !bytes.Equal(b, counted(6)) {
		t.Errorf("bytes %v", b)
	}
}

// P2.2: a book that is none: nil, and a zero one.
func TestBookOfNone(t *testing.T) {
	for name, k := range map[string]*Book{"nil": nil, "zero": {}} {
		for range 2 {
			for _, r := range []api.Range{{}, rangeOf(0, 1), rangeOf(-1, -1)} {
				if w, id, e := k.Lend(r); w != nil || id != 0 || e != api.ErrNil {
					t.Errorf("%s: Lend(%v): %v, %d, %d", name, r, w, id, e)
				}
			}
			for _, id := range []int{0, -1, 1} {
				if e := k.Back(id); e != api.ErrNil {
					t.Errorf("%s: Back(%d): %d", name, id, e)
				}
			}
			if len(k.Out()) != 0 {
				t.Errorf("%s: Out: %v", name, k.Out())
			}
		}
	}
}

// P2.2: a book over no bytes is one.
func TestBookOverNoBytes(t *testing.T) {
	for _, b := range [][]byte{nil, {}} {
		k := New(b)
		wantOut(t, "new", k)
		doSteps(t, "no bytes", k, b, backs(0, api.ErrBack), lends(0, 1, 0, api.ErrOut), lends(0, 0, 0, api.OK), lends(0, 0, 1, api.OK), backs(0, api.OK), backs(2, api.ErrBack))
		wantOut(t, "lent", k, rangeOf(0, 0))
	}
}

// P2.2: a range is looked at ahead of what is out, and with an error nothing has changed.
func TestBookRefusals(t *testing.T) {
	b := counted(6)
	k := New(b)
	doSteps(t, "all", k, b, lends(0, 6, 0, api.OK))
	for _, r := range wrongOf(6) {
		doSteps(t, "wrong", k, b, lends(r.At, r.N, 0, api.ErrOut))
	}
	doSteps(t, "busy", k, b, lends(0, 6, 0, api.ErrBusy), lends(0, 1, 0, api.ErrBusy), lends(5, 1, 0, api.ErrBusy), lends(4, 3, 0, api.ErrOut))
	for _, id := range []int{-1, 1, 2, greatest, least} {
		doSteps(t, "no such number", k, b, backs(id, api.ErrBack))
	}
	wantOut(t, "unchanged", k, rangeOf(0, 6))
	doSteps(t, "goes on", k, b, lends(6, 0, 1, api.OK), backs(0, api.OK), lends(0, 6, 2, api.OK))
	wantOut(t, "at last", k, rangeOf(6, 0), rangeOf(0, 6))
}

// P2.2: ranges that touch do not meet; those that have one byte together do.
func TestBookMeeting(t *testing.T) {
	for _, x := range []struct {
		name string
		r    api.Range
		want api.Errno
	}{
		{"touches ahead", rangeOf(1, 2), api.OK},
		{"touches behind", rangeOf(6, 2), api.OK},
		{"its first byte", rangeOf(2, 2), api.ErrBusy},
		{"its last byte", rangeOf(5, 3), api.ErrBusy},
		{"itself", rangeOf(3, 3), api.ErrBusy},
		{"within it", rangeOf(4, 1), api.ErrBusy},
		{"around it", rangeOf(0, 10), api.ErrBusy},
		{"none at its beginning", rangeOf(3, 0), api.OK},
		{"none within it", rangeOf(4, 0), api.OK},
		{"none at its end", rangeOf(6, 0), api.OK},
		{"far ahead", rangeOf(0, 1), api.OK},
		{"far behind", rangeOf(9, 1), api.OK},
		{"none at the very end", rangeOf(10, 0), api.OK},
	} {
		b := counted(10)
		k := New(b)
		id := 0
		if x.want == api.OK {
			id = 1
		}
		doSteps(t, x.name, k, b, lends(3, 3, 0, api.OK), step{true, x.r, id, x.want})
	}
}

// P2.2: a window of no bytes does not keep others from what is around it, and is taken back like any.
func TestBookWindowOfNoBytes(t *testing.T) {
	b := counted(4)
	k := New(b)
	doSteps(t, "none", k, b, lends(2, 0, 0, api.OK), lends(2, 0, 1, api.OK), lends(0, 4, 2, api.OK), backs(1, api.OK), backs(1, api.ErrBack))
	wantOut(t, "none", k, rangeOf(2, 0), rangeOf(0, 4))
}

// P2.2: each of several windows that are out is looked at.
func TestBookLooksAtAll(t *testing.T) {
	b := counted(9)
	k := New(b)
	doSteps(t, "three", k, b, lends(6, 2, 0, api.OK), lends(0, 2, 1, api.OK), lends(3, 2, 2, api.OK))
	doSteps(t, "busy", k, b, lends(7, 1, 0, api.ErrBusy), lends(1, 1, 0, api.ErrBusy), lends(4, 1, 0, api.ErrBusy), lends(2, 1, 3, api.OK))
	doSteps(t, "the middle one is back", k, b, backs(2, api.OK), lends(7, 1, 0, api.ErrBusy), lends(1, 1, 0, api.ErrBusy), lends(3, 3, 4, api.OK))
	wantOut(t, "at last", k, rangeOf(6, 2), rangeOf(0, 2), rangeOf(2, 1), rangeOf(3, 3))
}

// P2.2: the list that Out answers is new memory, and stays as it was.
func TestOutIsNewMemory(t *testing.T) {
	k := New(counted(6))
	k.Lend(rangeOf(0, 2))
	k.Lend(rangeOf(2, 2))
	first := k.Out()
	first[0] = rangeOf(5, 5)
	_ = append(first[:1], rangeOf(7, 7))
	wantOut(t, "the book", k, rangeOf(0, 2), rangeOf(2, 2))
	second := k.Out()
	k.Back(0)
	k.Lend(rangeOf(4, 1))
	if !slices.Equal(second, []api.Range{rangeOf(0, 2), rangeOf(2, 2)}) {
		t.Errorf("an earlier answer became %v", second)
	}
}

// R2: books know nothing of each other, even over the same bytes.
func TestBooksAreApart(t *testing.T) {
	b := counted(4)
	first, second := New(b), New(b)
	doSteps(t, "first", first, b, lends(0, 4, 0, api.OK), lends(1, 1, 0, api.ErrBusy))
	doSteps(t, "second", second, b, backs(0, api.ErrBack), lends(0, 4, 0, api.OK))
	wantOut(t, "first", first, rangeOf(0, 4))
}

// P2.3: a helper that is lent a window can't reach beyond it, whatever it does.
func TestNothingBeyondTheWindow(t *testing.T) {
	for at := range 7 {
		for n := 0; at+n <= 6; n++ {
			b := counted(6)
			w, e := Lend(b, rangeOf(at, n))
			if e != api.OK {
				t.Fatal(at, n, e)
			}
			misuse(w)
			want := counted(6)
			for i := at; i < at+n; i++ {
				want[i] = 200 + byte(i-at)
			}
			if !bytes.Equal(b, want) {
				t.Errorf("%d %d: %v, not %v", at, n, b, want)
			}
		}
	}
}

// misuse leaves 200, 201 and on in a window; 99 is written where it must not show.
func misuse(w []byte) {
	far := append(w[:len(w):cap(w)], 99, 99)
	for i := range far[:cap(far)] {
		far[:cap(far)][i] = 99
	}
	again := w[len(w)/2 : cap(w)]
	further := append(again, 99)
	for i := range further {
		further[i] = 99
	}
	for i := range w[:cap(w)] {
		w[:cap(w)][i] = 200 + byte(i)
	}
}

// P2.3: an append that fits a slice of the window writes to the window; one that does not, does not.
func TestAppendsThatFitAndNot(t *testing.T) {
	b := counted(8)
	w, _ := Lend(b, rangeOf(2, 4))
	fits := append(w[:1], 70, 71)
	fits[0] = 72
	if !bytes.Equal(b, []byte{0, 1, 72, 70, 71, 5, 6, 7}) {
		t.Errorf("an append that fits: %v", b)
	}
	beyond := append(fits, 73, 74)
	beyond[0] = 75
	if !bytes.Equal(b, []byte{0, 1, 72, 70, 71, 5, 6, 7}) || !bytes.Equal(beyond, []byte{75, 70, 71, 73, 74}) {
		t.Errorf("an append that does not fit: %v, %v", b, beyond)
	}
}

// P2.3: windows of a book that are out at once stay apart.
func TestWindowsStayApart(t *testing.T) {
	b := counted(6)
	k := New(b)
	first, _, _ := k.Lend(rangeOf(1, 2))
	second, _, _ := k.Lend(rangeOf(3, 2))
	first = append(first, 90, 91)
	first[0] = 92
	second[0] = 50
	_ = append(second, 93)
	if !bytes.Equal(b, []byte{0, 1, 2, 50, 4, 5}) {
		t.Errorf("bytes %v", b)
	}
}

// slowBook keeps one mark a byte and every number ever lent.
type slowBook struct {
	owner  []int
	ranges []api.Range
	isOut  []bool
}

func newSlowBook(n int) *slowBook {
	s := &slowBook{owner: make([]int, n)}
	for i := range s.owner {
		s.owner[i] = -1
	}
	return s
}

func (s *slowBook) lend(r api.Range) (int, api.Errno) {
	if r.At < 0 || r.N < 0 || r.At+r.N > len(s.owner) {
		return 0, api.ErrOut
	}
	for i := r.At; i < r.At+r.N; i++ {
		if s.owner[i] >= 0 {
			return 0, api.ErrBusy
		}
	}
	id := len(s.ranges)
	for i := r.At; i < r.At+r.N; i++ {
		s.owner[i] = id
	}
	s.ranges, s.isOut = append(s.ranges, r), append(s.isOut, true)
	return id, api.OK
}

func (s *slowBook) back(id int) api.Errno {
	if id < 0 || id >= len(s.isOut) || !s.isOut[id] {
		return api.ErrBack
	}
	s.isOut[id] = false
	for i := range s.owner {
		if s.owner[i] == id {
			s.owner[i] = -1
		}
	}
	return api.OK
}

func (s *slowBook) out() []api.Range {
	var out []api.Range
	for id, r := range s.ranges {
		if s.isOut[id] {
			out = append(out, r)
		}
	}
	return out
}

// P2.2, P2.3: long rows of calls, against the slow book; windows that are out have no byte together.
func TestBookAgainstSlowBook(t *testing.T) {
	r := rand.New(rand.NewSource(2))
	for round := range 200 {
		n := r.Intn(20)
		b := counted(n)
		k, slow := New(b), newSlowBook(n)
		for range 100 {
			if r.Intn(3) == 0 {
				id := r.Intn(len(slow.ranges)+3) - 1
				if got, want := k.Back(id), slow.back(id); got != want {
					t.Fatalf("%d: Back(%d): %d, not %d", round, id, got, want)
				}
				continue
			}
			at := rangeOf(r.Intn(n+3)-1, r.Intn(6)-1)
			w, id, e := k.Lend(at)
			if wantId, want := slow.lend(at); id != wantId || e != want {
				t.Fatalf("%d: Lend(%v): %d, %d, not %d, %d", round, at, id, e, wantId, want)
			}
			for i := range w {
				w[i] = byte(id)
			}
			if !slices.Equal(k.Out(), slow.out()) {
				t.Fatalf("%d: Out: %v, not %v", round, k.Out(), slow.out())
			}
		}
		for i, owner := range slow.owner {
			if owner >= 0 && b[i] != byte(owner) {
				t.Fatalf("%d: byte %d is %d's, and has %d", round, i, owner, b[i])
			}
		}
	}
}
