package seg

import (
	"bytes"
	"math/rand"
	"testing"

	"sallyport/api"
)

// example is the chapter's header, exampleBytes its bytes ahead of the payload 01.
var example = api.Seg{SrcPort: 80, DstPort: 1024, Seq: 1, Flags: 2, Window: 512}

func exampleBytes() []byte {
	return []byte{0, 0x50, 4, 0, 0, 0, 0, 1, 0, 0, 0, 0, 0x50, 2, 2, 0, 0xa8, 0xac, 0, 0}
}

// counted are the bytes 1, 2, 3 and on.
func counted(n int) []byte {
	b := make([]byte, n)
	for i := range b {
		b[i] = byte(i + 1)
	}
	return b
}

// payloads are of all kinds of bytes, with as many as are asked for.
func payloads(n int) [][]byte {
	ones := bytes.Repeat([]byte{0xff}, n)
	return [][]byte{counted(n), make([]byte, n), ones, counted(n + 9)[:n]}
}

// slowField is the field of a header and the payload behind it, by the words of the chapters alone: counted, and brought back one 65535 at a time.
func slowField(p []byte) int {
	sum := 0
	for i, v := range p {
		switch {
		case i == 16 || i == 17:
		case i%2 == 0:
			sum += int(v) * 256
		default:
			sum += int(v)
		}
		for sum > 65535 {
			sum -= 65535
		}
	}
	return 65535 - sum
}

// refield gives a packet's header the field that it should have.
func refield(p []byte) []byte {
	f := slowField(p)
	p[16], p[17] = byte(f/256), byte(f%256)
	return p
}

// slowPacket is the chapter's table, line by line, with the payload behind it; the whole may be longer than a packet.
func slowPacket(h api.Seg, payload []byte) []byte {
	quarter := func(v uint32, n int) byte {
		for range n {
			v /= 256
		}
		return byte(v % 256)
	}
	head := []byte{
		byte(h.SrcPort / 256), byte(h.SrcPort % 256),
		byte(h.DstPort / 256), byte(h.DstPort % 256),
		quarter(h.Seq, 3), quarter(h.Seq, 2), quarter(h.Seq, 1), quarter(h.Seq, 0),
		quarter(h.Ack, 3), quarter(h.Ack, 2), quarter(h.Ack, 1), quarter(h.Ack, 0),
		5 * 16, h.Flags,
		byte(h.Window / 256), byte(h.Window % 256),
		0, 0,
		0, 0,
	}
	return refield(append(head, payload...))
}

func slowBytes(h api.Seg, payload []byte) []byte {
	return slowPacket(h, payload)[:20]
}

// someHeader is the same in every run; some bytes are those at which a shift that is wrong shows.
func someHeader(r *rand.Rand) api.Seg {
	some := func() uint16 {
		part := func() uint16 { return []uint16{0, 0xff, 0x80, uint16(r.Intn(256))}[r.Intn(4)] }
		return part()*256 + part()
	}
	return api.Seg{
		SrcPort: some(), DstPort: some(), Window: some(), Flags: uint8(r.Intn(64)),
		Seq: uint32(some())*65536 + uint32(some()), Ack: uint32(some())*65536 + uint32(some()),
	}
}

// headers are those at the edges of each field, and some others; all of them may be.
func headers() []api.Seg {
	const all = 0xffffffff
	hs := []api.Seg{
		{},
		example,
		{SrcPort: 0xffff}, {DstPort: 0xffff}, {Window: 0xffff}, {Seq: all}, {Ack: all}, {Flags: 63},
		{SrcPort: 0xffff, DstPort: 0xffff, Window: 0xffff, Seq: all, Ack: all, Flags: 63},
		{SrcPort: 1, DstPort: 2}, {SrcPort: 2, DstPort: 1}, {Seq: 1, Ack: 2}, {Seq: 2, Ack: 1},
	}
	for flags := range 64 {
		hs = append(hs, api.Seg{Flags: uint8(flags)})
	}
	for bit := range 32 {
		hs = append(hs, api.Seg{Seq: 1 << bit}, api.Seg{Ack: 1 << bit}, api.Seg{Seq: all - 1<<bit}, api.Seg{Ack: all - 1<<bit})
	}
	for bit := range 16 {
		hs = append(hs, api.Seg{SrcPort: 1 << bit}, api.Seg{DstPort: 1 << bit}, api.Seg{Window: 1 << bit})
	}
	r := rand.New(rand.NewSource(9))
	for range 100 {
		hs = append(hs, someHeader(r))
	}
	return hs
}

// wrongHeaders have Flags of 64 and more.
func wrongHeaders() []api.Seg {
	var hs []api.Seg
	for flags := 64; flags < 256; flags++ {
		wrong := example
		wrong.Flags = uint8(flags)
		hs = append(hs, wrong, api.Seg{Flags: uint8(flags)})
	}
	return hs
}

func wantBytes(t *testing.T, h api.Seg, payload, want []byte) {
	t.Helper()
	if b, e := Bytes(h, payload); !bytes.Equal(b, want) || e != api.OK {
		t.Errorf("Bytes of %v ahead of %d bytes: %x, %d, not %x", h, len(payload), b, e, want)
	}
}

func wantNoBytes(t *testing.T, h api.Seg, payload []byte, want api.Errno) {
	t.Helper()
	if b, e := Bytes(h, payload); len(b) != 0 || e != want {
		t.Errorf("Bytes of %v ahead of %d bytes: %x, %d, not %d", h, len(payload), b, e, want)
	}
}

func wantRead(t *testing.T, p []byte, want api.Seg) {
	t.Helper()
	if h, e := Read(p); h != want || e != api.OK {
		t.Errorf("Read of %d bytes, %x: %v, %d, not %v", len(p), p[:20], h, e, want)
	}
}

func wantNoRead(t *testing.T, p []byte, want api.Errno) {
	t.Helper()
	if h, e := Read(p); h != (api.Seg{}) || e != want {
		t.Errorf("Read of %d bytes, %x: %v, %d, not %d", len(p), p[:min(20, len(p))], h, e, want)
	}
}

// The chapter's examples, one line after the other.
func TestExamples(t *testing.T) {
	wantBytes(t, example, []byte{1}, exampleBytes())
	wantRead(t, append(exampleBytes(), 1), example)
	wantNoRead(t, exampleBytes()[:19], api.ErrShort)
	if Size() != 20 {
		t.Errorf("Size: %d", Size())
	}
	wantBytes(t, example, counted(2028), slowBytes(example, counted(2028)))
	wantNoBytes(t, example, counted(2029), api.ErrNoRoom)
	if e := Check(api.Seg{Flags: 64}); e != api.ErrSeg {
		t.Errorf("Check: %d", e)
	}
}

// P9.1: a header may be if its Flags are below 64, whatever the rest; each has as many bytes.
func TestCheckAndSize(t *testing.T) {
	for _, h := range headers() {
		if e := Check(h); e != api.OK {
			t.Errorf("Check of %v: %d", h, e)
		}
		if b, _ := Bytes(h, nil); len(b) != 20 || Size() != 20 {
			t.Errorf("Bytes of %v: %d, Size %d", h, len(b), Size())
		}
	}
	for _, h := range wrongHeaders() {
		if e := Check(h); e != api.ErrSeg {
			t.Errorf("Check of %v: %d", h, e)
		}
	}
}

// P9.2: each field stands in its place, the highest byte of a number first; the fields were worked out by hand.
func TestBytesHasEachField(t *testing.T) {
	for _, c := range []struct {
		h    api.Seg
		want []byte
	}{
		{api.Seg{}, []byte{0, 0, 0, 0, 0, 0, 0, 0, 0, 0, 0, 0, 0x50, 0, 0, 0, 0xaf, 0xff, 0, 0}},
		{api.Seg{SrcPort: 0x0102}, []byte{1, 2, 0, 0, 0, 0, 0, 0, 0, 0, 0, 0, 0x50, 0, 0, 0, 0xae, 0xfd, 0, 0}},
		{api.Seg{DstPort: 0x0102}, []byte{0, 0, 1, 2, 0, 0, 0, 0, 0, 0, 0, 0, 0x50, 0, 0, 0, 0xae, 0xfd, 0, 0}},
		{api.Seg{Seq: 0x01020304}, []byte{0, 0, 0, 0, 1, 2, 3, 4, 0, 0, 0, 0, 0x50, 0, 0, 0, 0xab, 0xf9, 0, 0}},
		{api.Seg{Ack: 0x01020304}, []byte{0, 0, 0, 0, 0, 0, 0, 0, 1, 2, 3, 4, 0x50, 0, 0, 0, 0xab, 0xf9, 0, 0}},
		{api.Seg{Flags: 63}, []byte{0, 0, 0, 0, 0, 0, 0, 0, 0, 0, 0, 0, 0x50, 0x3f, 0, 0, 0xaf, 0xc0, 0, 0}},
		{api.Seg{Window: 0x0102}, []byte{0, 0, 0, 0, 0, 0, 0, 0, 0, 0, 0, 0, 0x50, 0, 1, 2, 0xae, 0xfd, 0, 0}},
	} {
		wantBytes(t, c.h, nil, c.want)
		wantRead(t, c.want, c.h)
	}
	for _, h := range headers() {
		for _, n := range []int{0, 1, 2, 33} {
			wantBytes(t, h, counted(n), slowBytes(h, counted(n)))
		}
	}
}

// P9.2: a sum that is all ones has the field 0, one that goes beyond sixteen bits is brought back, and a payload can do either.
func TestFieldAtItsEdges(t *testing.T) {
	for _, c := range []struct {
		h       api.Seg
		payload []byte
		field   [2]byte
	}{
		{api.Seg{Window: 0xafff}, nil, [2]byte{0, 0}},
		{api.Seg{Window: 0xb000}, nil, [2]byte{0xff, 0xfe}},
		{api.Seg{}, []byte{0xaf, 0xff}, [2]byte{0, 0}},
		{api.Seg{}, []byte{0xb0, 0}, [2]byte{0xff, 0xfe}},
		{api.Seg{}, []byte{0xb0}, [2]byte{0xff, 0xfe}},
		{api.Seg{}, []byte{0xff, 0xff}, [2]byte{0xaf, 0xff}},
		{api.Seg{Window: 0xafff}, []byte{0xff, 0xff}, [2]byte{0, 0}},
		{api.Seg{Flags: 1}, []byte{0xaf, 0xff}, [2]byte{0xff, 0xfe}},
	} {
		b, e := Bytes(c.h, c.payload)
		if e != api.OK || [2]byte(b[16:18]) != c.field {
			t.Errorf("Bytes of %v ahead of %x: %x, %d, not the field %x", c.h, c.payload, b, e, c.field)
		}
		wantRead(t, append(b, c.payload...), c.h)
	}
	// A field of all ones has the same sum as one of 0, but is not the field.
	b, _ := Bytes(api.Seg{Window: 0xafff}, nil)
	b[16], b[17] = 0xff, 0xff
	wantNoRead(t, b, api.ErrSum)
}

// P9.2: header and payload are together at most MaxPacket bytes; all the payload counts for the field, its spare room does not.
func TestBytesAheadOfPayloads(t *testing.T) {
	for _, n := range []int{0, 1, 2, 3, 19, 20, 21, 255, 256, 257, 2026, 2027, 2028} {
		for _, payload := range payloads(n) {
			wantBytes(t, example, payload, slowBytes(example, payload))
			wantBytes(t, api.Seg{}, payload, slowBytes(api.Seg{}, payload))
		}
	}
	wantBytes(t, example, nil, slowBytes(example, nil))
	wantBytes(t, example, []byte{}, slowBytes(example, nil))
	for _, n := range []int{2029, 2030, 2047, 2048, 2049, 2068, 65516, 1 << 16, 1 << 20} {
		wantNoBytes(t, api.Seg{}, counted(n), api.ErrNoRoom)
		wantNoBytes(t, example, counted(n), api.ErrNoRoom)
	}
}

// P9.2: a header that may not be has no bytes, which is told ahead of a payload that is too long.
func TestBytesOfWrongHeaders(t *testing.T) {
	for _, h := range wrongHeaders() {
		for _, n := range []int{0, 1, 2028, 2029, 5000} {
			wantNoBytes(t, h, make([]byte, n), api.ErrSeg)
		}
	}
}

// P9.3: fewer than 20 bytes are no header, whatever they are and whatever room stands behind them.
func TestReadOfTooFew(t *testing.T) {
	wantNoRead(t, nil, api.ErrShort)
	for n := range 20 {
		for _, p := range [][]byte{counted(n), make([]byte, n), slowPacket(example, counted(8))[:n]} {
			wantNoRead(t, p, api.ErrShort)
		}
	}
}

// P9.3: twenty bytes are enough, and what is longer than a packet is read, too, however long.
func TestReadOfEnough(t *testing.T) {
	for _, n := range []int{20, 21, 28, 255, 256, api.MaxPacket - 1, api.MaxPacket, api.MaxPacket + 1, 5000, 65535, 65536, 65537, 1 << 17, 1<<20 + 1} {
		for _, payload := range payloads(n - 20) {
			wantRead(t, slowPacket(example, payload), example)
			wantRead(t, slowPacket(api.Seg{}, payload), api.Seg{})
		}
	}
}

// P9.3: the bytes 12, 13 are 5 * 4096 and a number below 64, no other number, the field being right.
func TestReadOfTheFlags(t *testing.T) {
	for v := range 1 << 16 {
		p := slowPacket(example, counted(3))
		p[12], p[13] = byte(v>>8), byte(v)
		refield(p)
		if v >= 5*4096 && v < 5*4096+64 {
			want := example
			want.Flags = uint8(v - 5*4096)
			wantRead(t, p, want)
		} else {
			wantNoRead(t, p, api.ErrSeg)
		}
	}
}

// P9.3: the bytes 18, 19 are 0, no other number, the field being right.
func TestReadOfTheBytesOfZero(t *testing.T) {
	for v := 1; v < 1<<16; v++ {
		p := slowPacket(example, counted(3))
		p[18], p[19] = byte(v>>8), byte(v)
		wantNoRead(t, refield(p), api.ErrSeg)
	}
}

// P9.3: of all fields one is right.
func TestReadOfTheField(t *testing.T) {
	for _, h := range []api.Seg{{}, example, {Window: 0xafff}} {
		for _, payload := range [][]byte{nil, {7}, counted(8), {0xff, 0xff, 0}} {
			p := slowPacket(h, payload)
			right := slowField(p)
			for v := range 1 << 16 {
				p[16], p[17] = byte(v>>8), byte(v)
				if v == right {
					wantRead(t, p, h)
				} else {
					wantNoRead(t, p, api.ErrSum)
				}
			}
		}
	}
}

// P9.3: the field is that of all the payload: without its end, or with more behind it, it is another one, unless what goes or comes is 0.
func TestReadOfOtherPayloads(t *testing.T) {
	whole := slowPacket(example, counted(60))
	for n := 20; n < 80; n++ {
		wantNoRead(t, whole[:n], api.ErrSum)
	}
	wantRead(t, whole, example)
	wantNoRead(t, append(bytes.Clone(whole), 1), api.ErrSum)
	wantRead(t, append(bytes.Clone(whole), 0), example)
	wantRead(t, append(bytes.Clone(whole), 0, 0, 0), example)
}

// P9.3: too few bytes are told ahead of what they are, and what they are ahead of a field that is wrong.
func TestReadTellsInOrder(t *testing.T) {
	for _, at := range []int{12, 13, 18, 19} {
		p := slowPacket(example, counted(8))
		p[at] ^= 0x40
		wantNoRead(t, p, api.ErrSeg)
		wantNoRead(t, refield(p), api.ErrSeg)
		p[16] ^= 1
		wantNoRead(t, p, api.ErrSeg)
		wantNoRead(t, p[:20], api.ErrSeg)
		wantNoRead(t, p[:19], api.ErrShort)
	}
	for _, at := range []int{16, 17} {
		p := slowPacket(example, counted(8))
		p[at] ^= 1
		wantNoRead(t, p, api.ErrSum)
		wantNoRead(t, p[:19], api.ErrShort)
	}
}

// P9.4: what is handed in is only read, its spare room too, done or refused.
func TestOnlyReads(t *testing.T) {
	for _, n := range []int{0, 1, 19, 20, 21, 2028, 2029, api.MaxPacket + 1} {
		all := counted(n + 40)
		Bytes(example, all[20:20+n])
		Bytes(api.Seg{Flags: 64}, all[20:20+n])
		Read(all[20 : 20+n])
		if !bytes.Equal(all, counted(n+40)) {
			t.Errorf("%d bytes that were handed in have changed", n)
		}
	}
	for _, turned := range []int{-1, 0, 12, 13, 16, 17, 18, 19, 30} {
		p := slowPacket(example, counted(41))
		if turned >= 0 {
			p[turned] ^= 3
		}
		was := bytes.Clone(p)
		Read(p)
		Read(p[:20])
		if !bytes.Equal(p, was) {
			t.Errorf("with the byte %d turned, the packet became %x", turned, p)
		}
	}
}

// P9.4: what is answered is new memory: neither what was handed in nor another answer shows in it.
func TestAnswersNewMemory(t *testing.T) {
	payload := []byte{1}
	first, _ := Bytes(example, payload)
	second, _ := Bytes(example, payload)
	clear(first)
	_ = append(first, 9, 9)
	if !bytes.Equal(second, exampleBytes()) || payload[0] != 1 {
		t.Errorf("another answer became %x, the payload %x", second, payload)
	}
	clear(payload)
	if !bytes.Equal(second, exampleBytes()) {
		t.Errorf("behind the payload's change: %x", second)
	}
	wantBytes(t, example, []byte{1}, exampleBytes())

	p := slowPacket(example, counted(8))
	h, _ := Read(p)
	clear(p)
	if h != example {
		t.Errorf("behind the packet's change: %v", h)
	}
}

// P9.5, W6: a header is read again from its bytes with its payload behind them.
func TestThereAndBack(t *testing.T) {
	for _, h := range headers() {
		for _, n := range []int{0, 1, 20, 101, 2027, 2028} {
			for _, payload := range payloads(n) {
				b, e := Bytes(h, payload)
				if e != api.OK {
					t.Errorf("Bytes of %v: %d", h, e)
				}
				wantRead(t, append(b, payload...), h)
			}
		}
	}
}

// P9.5, W6: Bytes of what was read, and of what stands behind it, are the bytes that stand there, up to MaxPacket.
func TestBackAndThere(t *testing.T) {
	r := rand.New(rand.NewSource(99))
	for i := range 600 {
		n := 20 + r.Intn(60)
		if i%10 < 2 {
			n = api.MaxPacket - i%10
		}
		p := make([]byte, n)
		r.Read(p)
		p[12], p[13], p[18], p[19] = 0x50, p[13]%64, 0, 0
		refield(p)
		h, e := Read(p)
		if e != api.OK {
			t.Errorf("Read of %x: %d", p[:20], e)
		}
		wantBytes(t, h, p[20:], p[:20])
	}
	long := slowPacket(example, counted(2029))
	wantRead(t, long, example)
	wantNoBytes(t, example, long[20:], api.ErrNoRoom)
}

// P9.5: with any one byte of the header or of the payload turned into any other it is not read.
func TestOneByteTurned(t *testing.T) {
	for _, h := range []api.Seg{{}, example, {Window: 0xafff}, someHeader(rand.New(rand.NewSource(10)))} {
		for _, payload := range [][]byte{nil, {1}, {0, 0, 0}, {0xff, 0xff}, counted(9)} {
			whole := slowPacket(h, payload)
			for at := range whole {
				for by := 1; by < 256; by++ {
					p := bytes.Clone(whole)
					p[at] ^= byte(by)
					wantNoRead(t, p, turnedError(at, p[at]))
				}
			}
		}
	}
}

// turnedError is what is told of a byte that was turned: Flags that are still below 64 are told by the sum alone.
func turnedError(at int, now byte) api.Errno {
	switch {
	case at == 12, at == 13 && now >= 64, at == 18, at == 19:
		return api.ErrSeg
	}
	return api.ErrSum
}
