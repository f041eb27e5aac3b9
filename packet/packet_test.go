package packet

import (
	"bytes"
	"math"
	"math/rand"
	"testing"

	"sallyport/api"
)

const (
	greatest = math.MaxInt
	least    = math.MinInt
)

// counted are the bytes 1, 2, 3 and on: none of the first ones is 0, as what comes in is.
func counted(n int) []byte {
	b := make([]byte, n)
	for i := range b {
		b[i] = byte(i + 1)
	}
	return b
}

func made(t *testing.T, b []byte, head, tail int) *Packet {
	t.Helper()
	p, e := New(b, head, tail)
	if p == nil || e != api.OK {
		t.Fatalf("New of %d bytes, %d, %d: %v, %d", len(b), head, tail, p, e)
	}
	return p
}

func wantErrno(t *testing.T, what string, got, want api.Errno) {
	t.Helper()
	if got != want {
		t.Errorf("%s: %d, not %d", what, got, want)
	}
}

// wantPacket holds all that a packet shows against what it should.
func wantPacket(t *testing.T, p *Packet, b []byte, head, tail, moves int) {
	t.Helper()
	if p.Len() != len(b) || !bytes.Equal(p.Bytes(), b) || !bytes.Equal(p.Data(), b) {
		t.Errorf("%d bytes %v, own ones %v, not %v", p.Len(), p.Bytes(), p.Data(), b)
	}
	if h, l := p.Room(); h != head || l != tail {
		t.Errorf("room %d, %d, not %d, %d", h, l, head, tail)
	}
	if p.Moves() != moves {
		t.Errorf("%d moves, not %d", p.Moves(), moves)
	}
}

// The chapter's examples, one line after the other.
func TestExamples(t *testing.T) {
	p := made(t, []byte{1, 2, 3}, 1, 0)
	wantPacket(t, p, []byte{1, 2, 3}, 1, 0, 0)
	wantErrno(t, "Head", p.Head(1), api.OK)
	wantPacket(t, p, []byte{0, 1, 2, 3}, 0, 0, 1)
	wantErrno(t, "Head", p.Head(1), api.OK)
	wantPacket(t, p, []byte{0, 0, 1, 2, 3}, 64, 64, 2)

	wantErrno(t, "Store", p.Store(1, 2, 0xabcd), api.OK)
	for _, c := range []struct {
		at, size int
		v        uint64
		e        api.Errno
	}{
		{0, 3, 0x00abcd, api.OK}, {3, 2, 0x0203, api.OK}, {4, 2, 0, api.ErrOut}, {0, 9, 0, api.ErrArg},
	} {
		if v, e := p.Load(c.at, c.size); v != c.v || e != c.e {
			t.Errorf("Load %d, %d: %x, %d", c.at, c.size, v, e)
		}
	}
	wantPacket(t, p, []byte{0, 0xab, 0xcd, 2, 3}, 64, 64, 2)

	wantErrno(t, "Tail", p.Tail(-1), api.OK)
	wantPacket(t, p, []byte{0, 0xab, 0xcd, 2}, 64, 65, 3)
	wantErrno(t, "Tail", p.Tail(1), api.OK)
	wantPacket(t, p, []byte{0, 0xab, 0xcd, 2, 0}, 64, 64, 4)
	wantErrno(t, "Head", p.Head(-9), api.ErrShort)
	wantErrno(t, "Head", p.Head(0), api.OK)
	wantPacket(t, p, []byte{0, 0xab, 0xcd, 2, 0}, 64, 64, 5)
}

// P3.1: from no bytes to MaxPacket, and room from 0 to MaxRoom.
func TestNewMakes(t *testing.T) {
	for _, n := range []int{0, 1, 2, 14, api.MaxPacket - 1, api.MaxPacket} {
		for _, head := range []int{0, 1, 64, api.MaxRoom - 1, api.MaxRoom} {
			for _, tail := range []int{0, 1, 65, api.MaxRoom - 1, api.MaxRoom} {
				wantPacket(t, made(t, counted(n), head, tail), counted(n), head, tail, 0)
			}
		}
	}
	wantPacket(t, made(t, nil, 0, 0), nil, 0, 0, 0)
}

// P3.1: what is refused; the bytes are looked at first, then the room.
func TestNewRefuses(t *testing.T) {
	for _, c := range []struct {
		n, head, tail int
		e             api.Errno
	}{
		{api.MaxPacket + 1, 0, 0, api.ErrNoRoom},
		{api.MaxPacket * 9, 64, 64, api.ErrNoRoom},
		{api.MaxPacket + 1, -1, api.MaxRoom + 1, api.ErrNoRoom},
		{api.MaxPacket, api.MaxRoom + 1, 0, api.ErrArg},
		{0, api.MaxRoom + 1, 0, api.ErrArg},
		{0, 0, api.MaxRoom + 1, api.ErrArg},
		{3, -1, 0, api.ErrArg},
		{0, 0, -1, api.ErrArg},
		{3, least, 0, api.ErrArg},
		{3, 0, least, api.ErrArg},
		{3, greatest, 0, api.ErrArg},
		{3, 0, greatest, api.ErrArg},
		{3, greatest, greatest, api.ErrArg},
		{3, least, greatest, api.ErrArg},
	} {
		if p, e := New(counted(c.n), c.head, c.tail); p != nil || e != c.e {
			t.Errorf("New of %d bytes, %d, %d: %v, %d", c.n, c.head, c.tail, p, e)
		}
	}
}

// P3.2 to P3.5 of a packet that is none: nil, or zero; it stays none whatever is called.
func TestNone(t *testing.T) {
	for _, p := range []*Packet{nil, {}, new(Packet)} {
		for _, n := range []int{0, 1, -1, api.MaxPacket + 1, least, greatest} {
			wantErrno(t, "Head", p.Head(n), api.ErrNil)
			wantErrno(t, "Tail", p.Tail(n), api.ErrNil)
			if v, e := p.Load(n, n); v != 0 || e != api.ErrNil {
				t.Errorf("Load: %d, %d", v, e)
			}
			wantErrno(t, "Store", p.Store(n, n, 7), api.ErrNil)
		}
		wantPacket(t, p, nil, 0, 0, 0)
	}
}

// P3.2: each of the two that is done is a move, also with 0; nothing else is.
func TestMovesCountsWhatIsDone(t *testing.T) {
	p := made(t, counted(4), 2, 2)
	calls := []struct {
		done bool
		call func() api.Errno
	}{
		{true, func() api.Errno { return p.Head(0) }},
		{true, func() api.Errno { return p.Tail(0) }},
		{true, func() api.Errno { return p.Head(1) }},
		{true, func() api.Errno { return p.Tail(99) }},
		{true, func() api.Errno { return p.Head(99) }},
		{true, func() api.Errno { return p.Head(-3) }},
		{true, func() api.Errno { return p.Tail(-3) }},
		{false, func() api.Errno { return p.Head(-9999) }},
		{false, func() api.Errno { return p.Tail(-9999) }},
		{false, func() api.Errno { return p.Head(9999) }},
		{false, func() api.Errno { return p.Tail(9999) }},
		{false, func() api.Errno { return p.Store(0, 4, 5) }},
		{false, func() api.Errno { _, e := p.Load(0, 4); return e }},
		{false, func() api.Errno { p.Bytes(); p.Data(); p.Len(); return api.OK }},
	}
	moves := 0
	for i, c := range calls {
		e := c.call()
		if c.done {
			moves++
			wantErrno(t, "a move", e, api.OK)
		}
		if p.Moves() != moves {
			t.Errorf("behind call %d: %d moves, not %d", i, p.Moves(), moves)
		}
	}
}

// P3.3: out of the room, if it just reaches; laid anew, if it is one too little.
func TestRoomThatReaches(t *testing.T) {
	for _, room := range []int{0, 1, 5, 64, 65, api.MaxRoom} {
		p := made(t, []byte{7, 8}, room, 3)
		wantErrno(t, "Head", p.Head(room), api.OK)
		wantPacket(t, p, append(make([]byte, room), 7, 8), 0, 3, 1)

		p = made(t, []byte{7, 8}, 3, room)
		wantErrno(t, "Tail", p.Tail(room), api.OK)
		wantPacket(t, p, append([]byte{7, 8}, make([]byte, room)...), 3, 0, 1)
	}
}

func TestRoomThatIsOneTooLittle(t *testing.T) {
	for _, room := range []int{0, 1, 5, 64, 65, api.MaxRoom} {
		p := made(t, []byte{7, 8}, room, 3)
		wantErrno(t, "Head", p.Head(room+1), api.OK)
		wantPacket(t, p, append(make([]byte, room+1), 7, 8), 64, 64, 1)

		p = made(t, []byte{7, 8}, 3, room)
		wantErrno(t, "Tail", p.Tail(room+1), api.OK)
		wantPacket(t, p, append([]byte{7, 8}, make([]byte, room+1)...), 64, 64, 1)
	}
}

// P3.3: the room at the other side does not help.
func TestRoomOfTheOtherSide(t *testing.T) {
	p := made(t, []byte{7}, 0, api.MaxRoom)
	wantErrno(t, "Head", p.Head(1), api.OK)
	wantPacket(t, p, []byte{0, 7}, 64, 64, 1)
	p = made(t, []byte{7}, api.MaxRoom, 0)
	wantErrno(t, "Tail", p.Tail(1), api.OK)
	wantPacket(t, p, []byte{7, 0}, 64, 64, 1)
}

// P3.3: up to MaxPacket bytes, and not one more, whatever room there is.
func TestLongest(t *testing.T) {
	for _, room := range []int{0, 1, api.MaxRoom} {
		p := made(t, counted(api.MaxPacket), room, room)
		for _, n := range []int{1, 2, api.MaxRoom, api.MaxPacket, greatest - api.MaxPacket + 1, greatest} {
			wantErrno(t, "Head", p.Head(n), api.ErrNoRoom)
			wantErrno(t, "Tail", p.Tail(n), api.ErrNoRoom)
		}
		wantPacket(t, p, counted(api.MaxPacket), room, room, 0)
		wantErrno(t, "Head", p.Head(0), api.OK)
		wantErrno(t, "Tail", p.Tail(0), api.OK)
		wantPacket(t, p, counted(api.MaxPacket), room, room, 2)
	}
	ahead, behind := made(t, []byte{9}, 0, 0), made(t, []byte{9}, 0, 0)
	wantErrno(t, "Head", ahead.Head(api.MaxPacket), api.ErrNoRoom)
	wantErrno(t, "Head", ahead.Head(api.MaxPacket-1), api.OK)
	wantPacket(t, ahead, append(make([]byte, api.MaxPacket-1), 9), 64, 64, 1)
	wantErrno(t, "Tail", behind.Tail(api.MaxPacket), api.ErrNoRoom)
	wantErrno(t, "Tail", behind.Tail(api.MaxPacket-1), api.OK)
	wantPacket(t, behind, append([]byte{9}, make([]byte, api.MaxPacket-1)...), 64, 64, 1)
}

// P3.3: bytes that go become room; all of them may go, one more may not.
func TestShortest(t *testing.T) {
	for _, n := range []int{0, 1, 2, 64, api.MaxPacket} {
		for taken := 0; taken <= n; taken += max(1, n/4) {
			p := made(t, counted(n), 5, 6)
			wantErrno(t, "Head", p.Head(-taken), api.OK)
			wantPacket(t, p, counted(n)[taken:], 5+taken, 6, 1)

			p = made(t, counted(n), 5, 6)
			wantErrno(t, "Tail", p.Tail(-taken), api.OK)
			wantPacket(t, p, counted(n)[:n-taken], 5, 6+taken, 1)
		}
		p := made(t, counted(n), 5, 6)
		for _, more := range []int{n + 1, n + 2, 2*n + 9, greatest} {
			wantErrno(t, "Head", p.Head(-more), api.ErrShort)
			wantErrno(t, "Tail", p.Tail(-more), api.ErrShort)
		}
		wantErrno(t, "Head", p.Head(least), api.ErrShort)
		wantErrno(t, "Tail", p.Tail(least), api.ErrShort)
		wantPacket(t, p, counted(n), 5, 6, 0)
	}
}

// P3.3: all bytes taken off from either side, and others put on again.
func TestEmptiedAndFilled(t *testing.T) {
	p := made(t, counted(10), 0, 0)
	wantErrno(t, "Head", p.Head(-4), api.OK)
	wantErrno(t, "Tail", p.Tail(-6), api.OK)
	wantPacket(t, p, nil, 4, 6, 2)
	wantErrno(t, "Tail", p.Tail(6), api.OK)
	wantPacket(t, p, make([]byte, 6), 4, 0, 3)
	wantErrno(t, "Head", p.Head(4), api.OK)
	wantPacket(t, p, make([]byte, 10), 0, 0, 4)
}

// P3.4: every field of some packets, read and written, against the number put together by hand.
func TestLoadAndStoreEveryField(t *testing.T) {
	const v = 0xf1e2d3c4b5a69788
	for _, room := range []int{0, 3} {
		for size := 1; size <= 8; size++ {
			for at := 0; at+size <= 11; at++ {
				p := made(t, counted(11), room, room)
				b := counted(11)
				sum := uint64(0)
				for i := range size {
					sum = sum*256 + uint64(b[at+i])
				}
				if got, e := p.Load(at, size); got != sum || e != api.OK {
					t.Errorf("Load %d, %d: %x, %d, not %x", at, size, got, e, sum)
				}
				wantErrno(t, "Store", p.Store(at, size, v), api.OK)
				lowest := uint64(v)
				for i := range size {
					b[at+size-1-i] = byte(lowest % 256)
					lowest /= 256
				}
				wantPacket(t, p, b, room, room, 0)
				if got, e := p.Load(at, size); e != api.OK || got != v&(math.MaxUint64>>(64-8*size)) {
					t.Errorf("Load behind Store %d, %d: %x, %d", at, size, got, e)
				}
			}
		}
	}
}

// P3.4: what is refused leaves all as it was; a wrong size is told ahead of a wrong place.
func TestFieldsRefused(t *testing.T) {
	for _, n := range []int{0, 1, 7, 8, 9, api.MaxPacket} {
		p := made(t, counted(n), 16, 16)
		refused := func(at, size int, want api.Errno) {
			t.Helper()
			if v, e := p.Load(at, size); v != 0 || e != want {
				t.Errorf("of %d, Load %d, %d: %x, %d, not %d", n, at, size, v, e, want)
			}
			if e := p.Store(at, size, math.MaxUint64); e != want {
				t.Errorf("of %d, Store %d, %d: %d, not %d", n, at, size, e, want)
			}
		}
		for _, at := range []int{0, 1, -1, n, n + 1, least, greatest} {
			for _, size := range []int{0, 9, -1, 16, n + 9, least, greatest} {
				refused(at, size, api.ErrArg)
			}
		}
		for size := 1; size <= 8; size++ {
			for _, at := range []int{-1, -2, -size, -8, least, least + 1, n - size + 1, n, n + 1, greatest, greatest - size, greatest - size + 1} {
				if at < 0 || at+size < 0 || at+size > n {
					refused(at, size, api.ErrOut)
				}
			}
		}
		wantPacket(t, p, counted(n), 16, 16, 0)
	}
}

// P3.5: what is written to one is written to the other, both ways.
func TestDataIsThePacketsOwn(t *testing.T) {
	for _, room := range []int{0, 9} {
		p := made(t, counted(5), room, room)
		d := p.Data()
		d[0], d[4] = 0xaa, 0xbb
		wantPacket(t, p, []byte{0xaa, 2, 3, 4, 0xbb}, room, room, 0)
		p.Store(1, 2, 0xccdd)
		if !bytes.Equal(d, []byte{0xaa, 0xcc, 0xdd, 4, 0xbb}) {
			t.Errorf("own bytes %v", d)
		}
		p.Head(1)
		p.Tail(-1)
		d = p.Data()
		d[0], d[4] = 5, 6
		p.Store(2, 1, 7)
		if !bytes.Equal(d, []byte{5, 0xaa, 7, 0xdd, 6}) || !bytes.Equal(p.Bytes(), d) {
			t.Errorf("own bytes %v, packet %v", d, p.Bytes())
		}
	}
}

// P3.5: their room ends with them, however much room the packet has behind.
func TestDataEndsWithItsBytes(t *testing.T) {
	for _, n := range []int{0, 3} {
		for _, tail := range []int{0, 1, api.MaxRoom} {
			p := made(t, counted(n), 2, tail)
			d := p.Data()
			if len(d) != n || cap(d) != n {
				t.Errorf("%d own bytes with room for %d", len(d), cap(d))
			}
			more := append(d, 9, 9)
			for i := range more {
				more[i] = 8
			}
			wantPacket(t, p, counted(n), 2, tail, 0)
			p.Tail(2)
			if want := append(counted(n), 0, 0); !bytes.Equal(p.Bytes(), want) {
				t.Errorf("behind append: %v", p.Bytes())
			}
		}
	}
	p := made(t, counted(9), 2, 2)
	p.Tail(-4)
	if cap(p.Data()) != 5 {
		t.Errorf("room for %d behind Tail", cap(p.Data()))
	}
}

// P3.6: New only reads what it is handed, keeps none of it, and leaves its spare room alone.
func TestNewOnlyReads(t *testing.T) {
	all := counted(40)
	for _, room := range []int{0, 8} {
		p := made(t, all[10:20], room, room)
		for range 2 {
			p.Store(0, 8, 0)
			p.Head(8)
			p.Tail(8)
			for i, d := 0, p.Data(); i < len(d); i++ {
				d[i] = 0xee
			}
		}
		if !bytes.Equal(all, counted(40)) {
			t.Errorf("handed in became %v", all)
		}
	}
	b := counted(4)
	p := made(t, b, 3, 3)
	clear(b)
	wantPacket(t, p, counted(4), 3, 3, 0)
}

// P3.6: what is done to Bytes never shows, nor the other way round.
func TestBytesIsNewMemory(t *testing.T) {
	p := made(t, counted(4), 3, 3)
	b := p.Bytes()
	clear(b)
	b = append(b, 9, 9, 9)
	wantPacket(t, p, counted(4), 3, 3, 0)
	p.Store(0, 4, 0xffffffff)
	if !bytes.Equal(b, []byte{0, 0, 0, 0, 9, 9, 9}) {
		t.Errorf("copy became %v", b)
	}
	p.Tail(3)
	if !bytes.Equal(p.Bytes(), []byte{255, 255, 255, 255, 0, 0, 0}) {
		t.Errorf("behind the copy %v", p.Bytes())
	}
}

// P3.7: bytes that come in are 0, whatever stood there.
func TestWhatComesInIsNought(t *testing.T) {
	full := bytes.Repeat([]byte{0xff}, 20)
	p := made(t, full, 0, 0)
	for n := range 21 {
		p.Head(-n)
		wantErrno(t, "Head", p.Head(n), api.OK)
		if want := append(make([]byte, n), full[n:]...); !bytes.Equal(p.Bytes(), want) {
			t.Errorf("Head by %d and back: %v", n, p.Bytes())
		}
	}
	p = made(t, full, 0, 0)
	for n := range 21 {
		p.Tail(-n)
		wantErrno(t, "Tail", p.Tail(n), api.OK)
		if want := append(bytes.Clone(full[n:]), make([]byte, n)...); !bytes.Equal(p.Bytes(), want) {
			t.Errorf("Tail by %d and back: %v", n, p.Bytes())
		}
	}
	p = made(t, full, 0, 0)
	p.Head(-20)
	p.Tail(5)
	p.Head(20)
	wantPacket(t, p, make([]byte, 25), 64-20, 64, 3)
}

// P3.7: Head there and back leaves the bytes as they were, so does Tail, whether it was laid anew or not.
func TestThereAndBack(t *testing.T) {
	for _, room := range []int{0, 1, 30, api.MaxRoom} {
		for _, n := range []int{0, 1, 29, 30, 31, 300, api.MaxPacket - 50} {
			p := made(t, counted(50), room, room)
			for range 3 {
				wantErrno(t, "Head", p.Head(n), api.OK)
				wantErrno(t, "Head", p.Head(-n), api.OK)
				wantErrno(t, "Tail", p.Tail(n), api.OK)
				wantErrno(t, "Tail", p.Tail(-n), api.OK)
				if !bytes.Equal(p.Bytes(), counted(50)) || p.Len() != 50 {
					t.Errorf("room %d, %d there and back: %v", room, n, p.Bytes())
				}
			}
		}
	}
}

// P3.7: two packets of the same bytes share nothing, nor do their rooms.
func TestPacketsShareNothing(t *testing.T) {
	b := counted(12)
	p, q := made(t, b[:6], 4, 4), made(t, b[6:], 4, 4)
	r := made(t, p.Data(), 0, 0)
	p.Head(4)
	p.Tail(4)
	for i, d := 0, p.Data(); i < len(d); i++ {
		d[i] = 0xee
	}
	wantPacket(t, q, b[6:], 4, 4, 0)
	wantPacket(t, r, b[:6], 0, 0, 0)
}

// slow is a packet as the chapter tells it: a byte string, and its room as two numbers.
type slow struct {
	b          []byte
	head, tail int
	moves      int
}

func (s *slow) grow(n int, room *int, put func(come []byte) []byte, cut func(gone int) []byte) api.Errno {
	switch {
	case n > 0 && len(s.b)+n > api.MaxPacket:
		return api.ErrNoRoom
	case n < 0 && len(s.b) < -n:
		return api.ErrShort
	case n > *room:
		s.b = put(make([]byte, n))
		s.head, s.tail = 64, 64
	case n > 0:
		s.b = put(make([]byte, n))
		*room -= n
	default:
		s.b = cut(-n)
		*room += -n
	}
	s.moves++
	return api.OK
}

func (s *slow) ahead(n int) api.Errno {
	return s.grow(n, &s.head,
		func(come []byte) []byte { return append(come, s.b...) },
		func(gone int) []byte { return bytes.Clone(s.b[gone:]) })
}

func (s *slow) behind(n int) api.Errno {
	return s.grow(n, &s.tail,
		func(come []byte) []byte { return append(bytes.Clone(s.b), come...) },
		func(gone int) []byte { return bytes.Clone(s.b[:len(s.b)-gone]) })
}

func (s *slow) store(at, size int, v uint64) api.Errno {
	if size < 1 || size > 8 {
		return api.ErrArg
	}
	if at < 0 || at+size > len(s.b) {
		return api.ErrOut
	}
	for i := range size {
		s.b[at+i] = byte(v >> (8 * (size - 1 - i)))
	}
	return api.OK
}

// P3.3, P3.4, P3.7: long rows of calls, the same to packets of different room and to slow ones: bytes and errors are alike in all.
func TestAsTheSlowOne(t *testing.T) {
	r := rand.New(rand.NewSource(3))
	for range 300 {
		b := counted(r.Intn(40))
		var packets []*Packet
		var slows []*slow
		for _, room := range [][2]int{{0, 0}, {api.MaxRoom, api.MaxRoom}, {r.Intn(20), r.Intn(20)}} {
			packets = append(packets, made(t, b, room[0], room[1]))
			slows = append(slows, &slow{b: bytes.Clone(b), head: room[0], tail: room[1]})
		}
		span := []int{4, 40, 400}[r.Intn(3)]
		for range 60 {
			kind, n, size, v := r.Intn(3), r.Intn(2*span+1)-span, r.Intn(11)-1, r.Uint64()
			for i, p := range packets {
				var got, want api.Errno
				switch kind {
				case 0:
					got, want = p.Head(n), slows[i].ahead(n)
				case 1:
					got, want = p.Tail(n), slows[i].behind(n)
				case 2:
					got, want = p.Store(n, size, v), slows[i].store(n, size, v)
				}
				wantErrno(t, "call", got, want)
				wantPacket(t, p, slows[i].b, slows[i].head, slows[i].tail, slows[i].moves)
				if !bytes.Equal(p.Bytes(), packets[0].Bytes()) {
					t.Errorf("room is seen: %v, %v", p.Bytes(), packets[0].Bytes())
				}
			}
			if t.Failed() {
				return
			}
		}
	}
}
