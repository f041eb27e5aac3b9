package share

import (
	"bytes"
	"math"
	"math/rand"
	"testing"

	"sallyport/api"
	"sallyport/packet"
)

const (
	greatest = math.MaxInt
	least    = math.MinInt
)

// counted are the bytes 1, 2, 3 and on: none of the first ones is 0, as what comes in is.
func counted(n int) []byte {
	b := make([]byte, n)
	for i := range b {
		b[i] = byte(i + 1)
	}
	return b
}

func made(t *testing.T, b []byte) *Share {
	t.Helper()
	s, e := New(b)
	if s == nil || e != api.OK {
		t.Fatalf("New of %d bytes: %v, %d", len(b), s, e)
	}
	return s
}

func cloned(t *testing.T, s *Share) *Share {
	t.Helper()
	c, e := s.Clone()
	if c == nil || c == s || e != api.OK {
		t.Fatalf("Clone of %v: %v, %d", s, c, e)
	}
	return c
}

func owned(t *testing.T, s *Share) *packet.Packet {
	t.Helper()
	p, e := s.Own()
	if p == nil || e != api.OK {
		t.Fatalf("Own of %v: %v, %d", s, p, e)
	}
	return p
}

func wantErrno(t *testing.T, what string, got, want api.Errno) {
	t.Helper()
	if got != want {
		t.Errorf("%s: %d, not %d", what, got, want)
	}
}

// wantShare holds all that a handle shows against what it should.
func wantShare(t *testing.T, s *Share, count int, b []byte) {
	t.Helper()
	if s.Len() != len(b) || !bytes.Equal(s.Bytes(), b) {
		t.Errorf("%d bytes %v, not %v", s.Len(), s.Bytes(), b)
	}
	if s.Count() != count {
		t.Errorf("%d share, not %d", s.Count(), count)
	}
}

func wantPacket(t *testing.T, p *packet.Packet, b []byte, head, tail, moves int) {
	t.Helper()
	if !bytes.Equal(p.Bytes(), b) {
		t.Errorf("packet %v, not %v", p.Bytes(), b)
	}
	if h, l := p.Room(); h != head || l != tail || p.Moves() != moves {
		t.Errorf("room %d, %d and %d moves, not %d, %d and %d", h, l, p.Moves(), head, tail, moves)
	}
}

// The chapter's examples, one line after the other.
func TestExamples(t *testing.T) {
	a := made(t, []byte{1, 2})
	b := cloned(t, a)
	wantShare(t, a, 2, []byte{1, 2})
	wantErrno(t, "Store", b.Store(0, 1, 9), api.OK)
	wantShare(t, a, 1, []byte{1, 2})
	wantShare(t, b, 1, []byte{9, 2})

	c := cloned(t, a)
	if v, e := a.Load(0, 2); v != 0x0102 || e != api.OK {
		t.Errorf("Load: %x, %d", v, e)
	}
	wantShare(t, a, 2, []byte{1, 2})
	wantErrno(t, "Store", a.Store(1, 2, 0), api.ErrOut)
	wantShare(t, a, 2, []byte{1, 2})

	p := owned(t, c)
	wantErrno(t, "Tail", p.Tail(1), api.OK)
	wantErrno(t, "Store", p.Store(2, 1, 7), api.OK)
	wantShare(t, c, 1, []byte{1, 2, 7})
	wantShare(t, a, 1, []byte{1, 2})

	wantErrno(t, "Free", a.Free(), api.OK)
	wantErrno(t, "Free", a.Free(), api.ErrGone)
	wantShare(t, a, 0, nil)
	if d, e := a.Clone(); d != nil || e != api.ErrGone {
		t.Errorf("Clone: %v, %d", d, e)
	}
}

// P4.1: from no bytes to MaxPacket, with 64 bytes of room each way, shared with nobody.
func TestNewMakes(t *testing.T) {
	for _, n := range []int{0, 1, 2, 64, 65, api.MaxPacket - 1, api.MaxPacket} {
		s := made(t, counted(n))
		wantShare(t, s, 1, counted(n))
		wantPacket(t, owned(t, s), counted(n), 64, 64, 0)
	}
	wantShare(t, made(t, nil), 1, nil)
	wantShare(t, made(t, []byte{}), 1, nil)
}

func TestNewRefuses(t *testing.T) {
	for _, n := range []int{api.MaxPacket + 1, api.MaxPacket + 2, api.MaxPacket * 9} {
		if s, e := New(counted(n)); s != nil || e != api.ErrNoRoom {
			t.Errorf("New of %d bytes: %v, %d", n, s, e)
		}
	}
}

// P4.1: two handles that New made have nothing in common, even of the same bytes.
func TestNewSharesWithNobody(t *testing.T) {
	b := counted(4)
	s, q := made(t, b), made(t, b)
	wantErrno(t, "Store", s.Store(0, 4, 0), api.OK)
	wantShare(t, s, 1, make([]byte, 4))
	wantShare(t, q, 1, counted(4))
}

// wantRefused makes every call of a handle, with right arguments and with wrong ones: what is wrong with the handle is told ahead of all else.
func wantRefused(t *testing.T, s *Share, want api.Errno) {
	t.Helper()
	for _, at := range []int{0, 1, -1, 9999, least, greatest} {
		for _, size := range []int{1, 8, 0, 9, -1, least, greatest} {
			if v, e := s.Load(at, size); v != 0 || e != want {
				t.Errorf("Load %d, %d: %d, %d, not %d", at, size, v, e, want)
			}
			wantErrno(t, "Store", s.Store(at, size, 7), want)
		}
	}
	if c, e := s.Clone(); c != nil || e != want {
		t.Errorf("Clone: %v, %d, not %d", c, e, want)
	}
	if p, e := s.Own(); p != nil || e != want {
		t.Errorf("Own: %v, %d, not %d", p, e, want)
	}
	wantErrno(t, "Free", s.Free(), want)
	wantShare(t, s, 0, nil)
}

// P4.2 to P4.4 of a handle that is none: nil, or zero; it stays none whatever is called.
func TestNone(t *testing.T) {
	for _, s := range []*Share{nil, {}, new(Share)} {
		wantRefused(t, s, api.ErrNil)
		wantRefused(t, s, api.ErrNil)
	}
}

// P4.2 to P4.4 of a handle that was given up, alone or while others share its packet; they see no more of it than a lower Count.
func TestGivenUp(t *testing.T) {
	for _, n := range []int{0, 2, 9} {
		for _, others := range []int{0, 1, 5} {
			s := made(t, counted(n))
			var rest []*Share
			for range others {
				rest = append(rest, cloned(t, s))
			}
			wantErrno(t, "Free", s.Free(), api.OK)
			wantRefused(t, s, api.ErrGone)
			wantRefused(t, s, api.ErrGone)
			for _, r := range rest {
				wantShare(t, r, others, counted(n))
			}
		}
	}
}

// P4.2: handles share, whoever was cloned of whom, and giving one up lowers every Count by one, to the last.
func TestCount(t *testing.T) {
	s := made(t, counted(3))
	all := []*Share{s, cloned(t, s), cloned(t, s)}
	all = append(all, cloned(t, all[1]))
	all = append(all, cloned(t, all[3]))
	for _, gone := range []int{3, 0, 0, 1, 0} {
		for _, h := range all {
			wantShare(t, h, len(all), counted(3))
		}
		h := all[gone]
		all = append(append([]*Share{}, all[:gone]...), all[gone+1:]...)
		wantErrno(t, "Free", h.Free(), api.OK)
		wantRefused(t, h, api.ErrGone)
	}
}

// P4.2: a clone of one that is left shares with those that are left, and one that was given up is cut off for good.
func TestCloneBehindFree(t *testing.T) {
	a := made(t, counted(3))
	b := cloned(t, a)
	wantErrno(t, "Free", a.Free(), api.OK)
	c := cloned(t, b)
	wantShare(t, b, 2, counted(3))
	wantShare(t, c, 2, counted(3))
	wantErrno(t, "Free", a.Free(), api.ErrGone)
	wantShare(t, b, 2, counted(3))
}

// P4.2: what is done to Bytes never shows, nor the other way round.
func TestBytesIsNewMemory(t *testing.T) {
	a := made(t, counted(4))
	b := cloned(t, a)
	got := a.Bytes()
	clear(got)
	got = append(got, 9, 9)
	wantShare(t, a, 2, counted(4))
	wantShare(t, b, 2, counted(4))
	wantErrno(t, "Store", a.Store(0, 4, 0xffffffff), api.OK)
	if !bytes.Equal(got, []byte{0, 0, 0, 0, 9, 9}) {
		t.Errorf("copy became %v", got)
	}
}

// P4.3: one that shares with nobody keeps its packet, as it was moved; so does one whose clones were given up, or have parted.
func TestOwnOfOneAlone(t *testing.T) {
	s := made(t, counted(5))
	p := owned(t, s)
	wantErrno(t, "Head", p.Head(3), api.OK)
	wantErrno(t, "Tail", p.Tail(-1), api.OK)
	b := []byte{0, 0, 0, 1, 2, 3, 4}
	same := func(why string) {
		t.Helper()
		q := owned(t, s)
		if q != p {
			t.Errorf("another packet %s", why)
		}
		wantPacket(t, q, b, 61, 65, 2)
		wantShare(t, s, 1, b)
	}
	same("of one that was never cloned")
	wantErrno(t, "Free", cloned(t, s).Free(), api.OK)
	same("behind a clone that was given up")
	wantErrno(t, "Store", cloned(t, s).Store(0, 1, 9), api.OK)
	same("behind a clone that was written to")
	owned(t, cloned(t, s))
	same("behind a clone that was asked for its own")
	if _, e := s.Load(0, 1); e != api.OK {
		t.Errorf("Load: %d", e)
	}
	wantErrno(t, "Store", s.Store(0, 1, 0), api.OK)
	same("behind Load and Store")
}

// P4.3: one that shares gets a packet of its own, new and with 64 bytes of room each way; the others keep theirs, as it was moved.
func TestOwnOfOneThatShares(t *testing.T) {
	for _, others := range []int{1, 2, 7} {
		s := made(t, counted(5))
		p := owned(t, s)
		wantErrno(t, "Head", p.Head(-2), api.OK)
		b := []byte{3, 4, 5}
		var clones []*Share
		for range others {
			clones = append(clones, cloned(t, s))
		}
		for i, c := range clones {
			q := owned(t, c)
			if q == p {
				t.Errorf("the packet that others share")
			}
			wantPacket(t, q, b, 64, 64, 0)
			wantPacket(t, p, b, 66, 64, 1)
			wantShare(t, c, 1, b)
			wantShare(t, s, others-i, b)
		}
		if owned(t, s) != p {
			t.Errorf("the last one has not kept its packet")
		}
	}
}

// P4.3: a packet of no bytes, and one of MaxPacket that had fewer when it came, are parted as well.
func TestOwnAtTheEdges(t *testing.T) {
	for _, n := range []int{0, 1, api.MaxPacket} {
		s := made(t, counted(1))
		p := owned(t, s)
		wantErrno(t, "Tail", p.Tail(n-1), api.OK)
		want := append(counted(min(n, 1)), make([]byte, max(n-1, 0))...)
		c := cloned(t, s)
		wantPacket(t, owned(t, c), want, 64, 64, 0)
		wantErrno(t, "Head", owned(t, c).Head(-n), api.OK)
		wantShare(t, c, 1, nil)
		wantShare(t, s, 1, want)
	}
}

// P4.4: every field of a packet, read and written, of a handle alone and of one that shares: reading does not part it, writing does.
func TestLoadAndStore(t *testing.T) {
	const v = 0xf1e2d3c4b5a69788
	for _, others := range []int{0, 1, 3} {
		for size := 1; size <= 8; size++ {
			for at := 0; at+size <= 11; at++ {
				s := made(t, counted(11))
				var clones []*Share
				for range others {
					clones = append(clones, cloned(t, s))
				}
				b, sum, lowest := counted(11), uint64(0), uint64(v)
				for i := range size {
					sum = sum*256 + uint64(b[at+i])
				}
				if got, e := s.Load(at, size); got != sum || e != api.OK {
					t.Errorf("Load %d, %d: %x, %d, not %x", at, size, got, e, sum)
				}
				wantShare(t, s, others+1, b)
				for i := range size {
					b[at+size-1-i] = byte(lowest % 256)
					lowest /= 256
				}
				wantErrno(t, "Store", s.Store(at, size, v), api.OK)
				wantShare(t, s, 1, b)
				for _, c := range clones {
					wantShare(t, c, others, counted(11))
				}
			}
		}
	}
}

// P4.4: a Store parts even where it writes what stands there; the packet that it then has is as Own's.
func TestStoreParts(t *testing.T) {
	a := made(t, counted(4))
	p := owned(t, a)
	wantErrno(t, "Tail", p.Tail(-1), api.OK)
	b := cloned(t, a)
	wantErrno(t, "Store", b.Store(0, 1, 1), api.OK)
	wantShare(t, a, 1, counted(3))
	wantShare(t, b, 1, counted(3))
	wantPacket(t, owned(t, b), counted(3), 64, 64, 0)
	wantPacket(t, owned(t, a), counted(3), 64, 65, 1)
}

// P4.4: what is refused leaves all as it was, and parts nobody; a wrong size is told ahead of a wrong place.
func TestFieldsRefused(t *testing.T) {
	for _, n := range []int{0, 1, 7, 8, 9, api.MaxPacket} {
		for _, others := range []int{0, 1, 4} {
			s := made(t, counted(n))
			p := owned(t, s)
			var last *Share
			for range others {
				last = cloned(t, s)
			}
			refused := func(at, size int, want api.Errno) {
				t.Helper()
				if v, e := s.Load(at, size); v != 0 || e != want {
					t.Errorf("of %d, Load %d, %d: %x, %d, not %d", n, at, size, v, e, want)
				}
				if e := s.Store(at, size, math.MaxUint64); e != want {
					t.Errorf("of %d, Store %d, %d: %d, not %d", n, at, size, e, want)
				}
			}
			for _, at := range []int{0, 1, -1, n, n + 1, least, greatest} {
				for _, size := range []int{0, 9, -1, 16, n + 9, least, greatest} {
					refused(at, size, api.ErrArg)
				}
			}
			for size := 1; size <= 8; size++ {
				for _, at := range []int{-1, -size, least, n - size + 1, n, n + 1, greatest, greatest - size + 1} {
					if at < 0 || at+size < 0 || at+size > n {
						refused(at, size, api.ErrOut)
					}
				}
			}
			wantShare(t, s, others+1, counted(n))
			if last != nil {
				wantShare(t, last, others+1, counted(n))
			}
			wantPacket(t, p, counted(n), 64, 64, 0)
		}
	}
}

// P4.5: New only reads what it is handed, keeps none of it, and leaves its spare room alone.
func TestNewOnlyReads(t *testing.T) {
	all := counted(40)
	s := made(t, all[10:20])
	c := cloned(t, s)
	for _, h := range []*Share{s, c} {
		wantErrno(t, "Store", h.Store(0, 8, 0), api.OK)
		p := owned(t, h)
		wantErrno(t, "Head", p.Head(8), api.OK)
		wantErrno(t, "Tail", p.Tail(8), api.OK)
		for i, d := 0, p.Data(); i < len(d); i++ {
			d[i] = 0xee
		}
	}
	if !bytes.Equal(all, counted(40)) {
		t.Errorf("handed in became %v", all)
	}
	s = made(t, all)
	c = cloned(t, s)
	clear(all)
	wantShare(t, s, 2, counted(40))
	wantShare(t, c, 2, counted(40))
}

// P4.6: what is done through what Own tells, in every way, shows in its handle and in no other one, whichever of the two parted.
func TestOwnShowsInItsHandleAlone(t *testing.T) {
	for _, ofClone := range []bool{false, true} {
		a := made(t, counted(4))
		b := cloned(t, a)
		mine, other := a, b
		if ofClone {
			mine, other = b, a
		}
		p := owned(t, mine)
		d := p.Data()
		d[1] = 0xaa
		wantShare(t, mine, 1, []byte{1, 0xaa, 3, 4})
		wantErrno(t, "Store", p.Store(2, 2, 0xbbcc), api.OK)
		wantShare(t, mine, 1, []byte{1, 0xaa, 0xbb, 0xcc})
		wantErrno(t, "Head", p.Head(1), api.OK)
		wantErrno(t, "Tail", p.Tail(-2), api.OK)
		wantShare(t, mine, 1, []byte{0, 1, 0xaa})
		wantErrno(t, "Head", p.Head(100), api.OK)
		wantErrno(t, "Head", p.Head(-101), api.OK)
		wantErrno(t, "Store", p.Store(0, 1, 0xdd), api.OK)
		wantShare(t, mine, 1, []byte{0xdd, 0xaa})
		wantErrno(t, "Store", mine.Store(1, 1, 0xee), api.OK)
		wantPacket(t, p, []byte{0xdd, 0xee}, 165, 64, 4)
		wantShare(t, other, 1, counted(4))
		wantErrno(t, "Store", other.Store(0, 4, 0), api.OK)
		wantShare(t, mine, 1, []byte{0xdd, 0xee})
	}
}

// P4.6: a clone shows what its handle showed when it was made, also what was done through Own ahead of it.
func TestCloneShowsWhatItsHandleShowed(t *testing.T) {
	a := made(t, counted(2))
	want := [][]byte{}
	clones := []*Share{}
	for i := range 5 {
		p := owned(t, a)
		wantErrno(t, "Head", p.Head(1), api.OK)
		wantErrno(t, "Store", p.Store(0, 1, uint64(0x10+i)), api.OK)
		want = append(want, a.Bytes())
		clones = append(clones, cloned(t, a))
	}
	for i, c := range clones {
		if !bytes.Equal(c.Bytes(), want[i]) || c.Len() != 3+i || c.Bytes()[0] != byte(0x10+i) {
			t.Errorf("clone %d shows %v, not %v", i, c.Bytes(), want[i])
		}
	}
}

// P4.6: a packet that was told, and whose handle was given up since, shows nowhere.
func TestOwnOutlivesItsHandle(t *testing.T) {
	a := made(t, counted(3))
	b := cloned(t, a)
	p := owned(t, a)
	wantErrno(t, "Free", a.Free(), api.OK)
	wantErrno(t, "Store", p.Store(0, 3, 0), api.OK)
	wantRefused(t, a, api.ErrGone)
	wantShare(t, b, 1, counted(3))
}

// slow is a handle as the chapter tells it: bytes of its own from the first, and which group of handles it is of.
type slow struct {
	h     *Share
	b     []byte
	group int
	gone  bool
	told  *packet.Packet // what Own told last, if it was not cloned since
}

// rows is handles with their slow ones, and the next group that is new.
type rows struct {
	t    *testing.T
	r    *rand.Rand
	all  []*slow
	next int
}

func (w *rows) add(h *Share, b []byte, group int) {
	w.all = append(w.all, &slow{h: h, b: bytes.Clone(b), group: group})
}

func (w *rows) count(s *slow) int {
	n := 0
	for _, o := range w.all {
		if !o.gone && !s.gone && o.group == s.group {
			n++
		}
	}
	return n
}

func (w *rows) part(s *slow) {
	if w.count(s) > 1 {
		s.group = w.next
		w.next++
	}
}

func (w *rows) clone(s *slow) {
	c, e := s.h.Clone()
	if s.gone {
		wantErrno(w.t, "Clone", e, api.ErrGone)
		return
	}
	wantErrno(w.t, "Clone", e, api.OK)
	s.told = nil
	w.add(c, s.b, s.group)
}

func (w *rows) free(s *slow) {
	if s.gone {
		wantErrno(w.t, "Free", s.h.Free(), api.ErrGone)
		return
	}
	wantErrno(w.t, "Free", s.h.Free(), api.OK)
	s.gone, s.b = true, nil
}

func (w *rows) store(s *slow) {
	at, size, v := w.r.Intn(14)-2, w.r.Intn(10), w.r.Uint64()
	want := api.OK
	switch {
	case s.gone:
		want = api.ErrGone
	case size < 1 || size > 8:
		want = api.ErrArg
	case at < 0 || at+size > len(s.b):
		want = api.ErrOut
	default:
		w.part(s)
		for i := range size {
			s.b[at+i] = byte(v >> (8 * (size - 1 - i)))
		}
	}
	wantErrno(w.t, "Store", s.h.Store(at, size, v), want)
}

func (w *rows) own(s *slow) {
	p, e := s.h.Own()
	if s.gone {
		wantErrno(w.t, "Own", e, api.ErrGone)
		return
	}
	wantErrno(w.t, "Own", e, api.OK)
	w.part(s)
	s.told = p
}

// move does something with the packet that was told, also if its handle was given up since.
func (w *rows) move(s *slow) {
	if s.told == nil {
		return
	}
	n := w.r.Intn(120)
	switch d := s.told.Data(); {
	case w.r.Intn(2) == 0 && len(d) > 0:
		i, v := w.r.Intn(len(d)), byte(w.r.Intn(256))
		d[i] = v
		if !s.gone {
			s.b[i] = v
		}
	case s.told.Len() > 100:
		wantErrno(w.t, "Tail", s.told.Tail(-100), api.OK)
		s.b = s.b[:max(len(s.b)-100, 0)]
	case s.gone:
		wantErrno(w.t, "Head", s.told.Head(n), api.OK)
	default:
		wantErrno(w.t, "Head", s.told.Head(n), api.OK)
		s.b = append(make([]byte, n), s.b...)
	}
}

// P4.6 and all of the others: long rows of calls of handles that are cloned and given up; every handle is held against its slow one behind each call.
func TestAsTheSlowOnes(t *testing.T) {
	r := rand.New(rand.NewSource(4))
	for range 200 {
		w := &rows{t: t, r: r, next: 2}
		for group := range 2 {
			b := counted(r.Intn(12))
			w.add(made(t, b), b, group)
		}
		calls := []func(*slow){w.store, w.store, w.own, w.move, w.move, w.free, w.clone, w.clone}
		for range 80 {
			call := calls[r.Intn(len(calls))]
			call(w.all[r.Intn(len(w.all))])
			for _, s := range w.all {
				wantShare(t, s.h, w.count(s), s.b)
			}
			if t.Failed() {
				return
			}
		}
	}
}
