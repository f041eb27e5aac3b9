package dgram

import (
	"bytes"
	"math/rand"
	"testing"

	"sallyport/api"
)

// example is the chapter's header, exampleBytes its bytes ahead of the payload ff ff.
var example = api.Dgram{SrcPort: 53, DstPort: 1024}

func exampleBytes() []byte { return []byte{0, 0x35, 4, 0, 0, 0x0a, 0xfb, 0xc0} }

// full is a header whose sum is 65535 ahead of no payload, so that its field would be 0.
var full = api.Dgram{SrcPort: 0xfff7}

// counted are the bytes 1, 2, 3 and on.
func counted(n int) []byte {
	b := make([]byte, n)
	for i := range b {
		b[i] = byte(i + 1)
	}
	return b
}

// payloads are of all kinds of bytes, with as many as are asked for.
func payloads(n int) [][]byte {
	ones := bytes.Repeat([]byte{0xff}, n)
	return [][]byte{counted(n), make([]byte, n), ones, counted(n + 9)[:n]}
}

// slowField is the field of a header and the payload behind it, by the words of the chapters alone: counted, and brought back one 65535 at a time.
func slowField(p []byte) int {
	sum := 0
	for i, v := range p {
		switch {
		case i == 6 || i == 7:
		case i%2 == 0:
			sum += int(v) * 256
		default:
			sum += int(v)
		}
		for sum > 65535 {
			sum -= 65535
		}
	}
	if sum == 65535 {
		return 65535
	}
	return 65535 - sum
}

// refield gives a packet's header the field that it should have.
func refield(p []byte) []byte {
	f := slowField(p)
	p[6], p[7] = byte(f/256), byte(f%256)
	return p
}

// slowPacket is the chapter's table, line by line, with the payload behind it; the whole may be longer than a packet, and beyond 65535 bytes its length is cut.
func slowPacket(h api.Dgram, payload []byte) []byte {
	n := 8 + len(payload)
	head := []byte{
		byte(h.SrcPort / 256), byte(h.SrcPort % 256),
		byte(h.DstPort / 256), byte(h.DstPort % 256),
		byte(n / 256 % 256), byte(n % 256),
		0, 0,
	}
	return refield(append(head, payload...))
}

func slowBytes(h api.Dgram, payload []byte) []byte {
	return slowPacket(h, payload)[:8]
}

// someHeader is the same in every run; some bytes are those at which a shift that is wrong shows.
func someHeader(r *rand.Rand) api.Dgram {
	some := func() uint16 {
		part := func() uint16 { return []uint16{0, 0xff, 0x80, uint16(r.Intn(256))}[r.Intn(4)] }
		return part()*256 + part()
	}
	return api.Dgram{SrcPort: some(), DstPort: some()}
}

// headers are those at the edges of each field, and some others.
func headers() []api.Dgram {
	hs := []api.Dgram{
		{}, example, full,
		{SrcPort: 0xffff}, {DstPort: 0xffff}, {SrcPort: 0xffff, DstPort: 0xffff},
		{SrcPort: 1, DstPort: 2}, {SrcPort: 2, DstPort: 1},
		{SrcPort: 0xfff6}, {SrcPort: 0xfff8}, {DstPort: 0xfff7}, {SrcPort: 0x7fff, DstPort: 0x7ff8},
	}
	for bit := range 16 {
		hs = append(hs, api.Dgram{SrcPort: 1 << bit}, api.Dgram{DstPort: 1 << bit})
		hs = append(hs, api.Dgram{SrcPort: 0xffff - 1<<bit}, api.Dgram{DstPort: 0xffff - 1<<bit})
	}
	r := rand.New(rand.NewSource(10))
	for range 100 {
		hs = append(hs, someHeader(r))
	}
	return hs
}

func wantBytes(t *testing.T, h api.Dgram, payload, want []byte) {
	t.Helper()
	if b, e := Bytes(h, payload); !bytes.Equal(b, want) || e != api.OK {
		t.Errorf("Bytes of %v ahead of %d bytes: %x, %d, not %x", h, len(payload), b, e, want)
	}
}

func wantNoBytes(t *testing.T, h api.Dgram, payload []byte) {
	t.Helper()
	if b, e := Bytes(h, payload); len(b) != 0 || e != api.ErrNoRoom {
		t.Errorf("Bytes of %v ahead of %d bytes: %x, %d, not %d", h, len(payload), b, e, api.ErrNoRoom)
	}
}

func wantRead(t *testing.T, p []byte, want api.Dgram) {
	t.Helper()
	if h, e := Read(p); h != want || e != api.OK {
		t.Errorf("Read of %d bytes, %x: %v, %d, not %v", len(p), p[:8], h, e, want)
	}
}

func wantNoRead(t *testing.T, p []byte, want api.Errno) {
	t.Helper()
	if h, e := Read(p); h != (api.Dgram{}) || e != want {
		t.Errorf("Read of %d bytes, %x: %v, %d, not %d", len(p), p[:min(8, len(p))], h, e, want)
	}
}

// The chapter's examples, one line after the other.
func TestExamples(t *testing.T) {
	wantBytes(t, example, []byte{0xff, 0xff}, exampleBytes())
	wantRead(t, append(exampleBytes(), 0xff, 0xff), example)
	wantNoRead(t, exampleBytes()[:7], api.ErrShort)
	if Size() != 8 {
		t.Errorf("Size: %d", Size())
	}
	wantBytes(t, example, counted(2040), slowBytes(example, counted(2040)))
	wantNoBytes(t, example, counted(2041))
}

// P10.1: any header may be; each has as many bytes.
func TestCheckAndSize(t *testing.T) {
	for _, h := range headers() {
		if e := Check(h); e != api.OK {
			t.Errorf("Check of %v: %d", h, e)
		}
		if b, _ := Bytes(h, nil); len(b) != 8 || Size() != 8 {
			t.Errorf("Bytes of %v: %d, Size %d", h, len(b), Size())
		}
	}
	for v := range 1 << 16 {
		h := api.Dgram{SrcPort: uint16(v), DstPort: ^uint16(v)}
		if e := Check(h); e != api.OK {
			t.Errorf("Check of %v: %d", h, e)
		}
	}
}

// P10.2: each field stands in its place, the highest byte of a number first; the fields were worked out by hand.
func TestBytesHasEachField(t *testing.T) {
	for _, c := range []struct {
		h       api.Dgram
		payload []byte
		want    []byte
	}{
		{api.Dgram{}, nil, []byte{0, 0, 0, 0, 0, 8, 0xff, 0xf7}},
		{api.Dgram{SrcPort: 0x0102}, nil, []byte{1, 2, 0, 0, 0, 8, 0xfe, 0xf5}},
		{api.Dgram{DstPort: 0x0102}, nil, []byte{0, 0, 1, 2, 0, 8, 0xfe, 0xf5}},
		{api.Dgram{}, []byte{1}, []byte{0, 0, 0, 0, 0, 9, 0xfe, 0xf6}},
		{api.Dgram{}, []byte{0, 1}, []byte{0, 0, 0, 0, 0, 10, 0xff, 0xf4}},
		{api.Dgram{}, []byte{1, 2, 3}, []byte{0, 0, 0, 0, 0, 11, 0xfb, 0xf2}},
		{api.Dgram{}, make([]byte, 248), []byte{0, 0, 0, 0, 1, 0, 0xfe, 0xff}},
		{api.Dgram{}, make([]byte, 2040), []byte{0, 0, 0, 0, 8, 0, 0xf7, 0xff}},
	} {
		wantBytes(t, c.h, c.payload, c.want)
		wantRead(t, append(c.want, c.payload...), c.h)
	}
	for _, h := range headers() {
		for _, n := range []int{0, 1, 2, 33} {
			wantBytes(t, h, counted(n), slowBytes(h, counted(n)))
		}
	}
}

// P10.2: a sum that is all ones has the field 65535, one that goes beyond sixteen bits is brought back, and a payload can do either.
func TestFieldAtItsEdges(t *testing.T) {
	for _, c := range []struct {
		h       api.Dgram
		payload []byte
		field   [2]byte
	}{
		{full, nil, [2]byte{0xff, 0xff}},
		{api.Dgram{SrcPort: 0xfff6}, nil, [2]byte{0, 1}},
		{api.Dgram{SrcPort: 0xfff8}, nil, [2]byte{0xff, 0xfe}},
		{api.Dgram{DstPort: 0xfff7}, nil, [2]byte{0xff, 0xff}},
		{api.Dgram{SrcPort: 0x7fff, DstPort: 0x7ff8}, nil, [2]byte{0xff, 0xff}},
		{api.Dgram{SrcPort: 0xffff, DstPort: 0xfff7}, nil, [2]byte{0xff, 0xff}},
		{api.Dgram{SrcPort: 0xffff, DstPort: 0xffff}, nil, [2]byte{0xff, 0xf7}},
		{api.Dgram{}, []byte{0xff, 0xf5}, [2]byte{0xff, 0xff}},
		{api.Dgram{}, []byte{0xff, 0xf4}, [2]byte{0, 1}},
		{api.Dgram{}, []byte{0xff, 0xf6}, [2]byte{0xff, 0xfe}},
		{api.Dgram{DstPort: 0xf6}, []byte{0xff}, [2]byte{0xff, 0xff}},
		{api.Dgram{DstPort: 0xf4}, []byte{0xff, 0, 0}, [2]byte{0xff, 0xff}},
		{api.Dgram{SrcPort: 0xfff3}, []byte{0xff, 0xff, 0, 0}, [2]byte{0xff, 0xff}},
	} {
		b, e := Bytes(c.h, c.payload)
		if e != api.OK || [2]byte(b[6:8]) != c.field {
			t.Errorf("Bytes of %v ahead of %x: %x, %d, not the field %x", c.h, c.payload, b, e, c.field)
		}
		wantRead(t, append(b, c.payload...), c.h)
	}
}

// P10.2: whatever the sum is, the field is never 0.
func TestFieldIsNeverZero(t *testing.T) {
	for v := range 1 << 16 {
		h := api.Dgram{SrcPort: uint16(v)}
		b, e := Bytes(h, nil)
		if e != api.OK || b[6] == 0 && b[7] == 0 || !bytes.Equal(b, slowBytes(h, nil)) {
			t.Errorf("Bytes of %v: %x, %d", h, b, e)
		}
	}
}

// P10.2: header and payload are together at most MaxPacket bytes; all the payload counts for the length and the field, its spare room does not.
func TestBytesAheadOfPayloads(t *testing.T) {
	for _, n := range []int{0, 1, 2, 3, 7, 8, 9, 247, 248, 249, 255, 256, 257, 2038, 2039, 2040} {
		for _, payload := range payloads(n) {
			wantBytes(t, example, payload, slowBytes(example, payload))
			wantBytes(t, api.Dgram{}, payload, slowBytes(api.Dgram{}, payload))
		}
	}
	wantBytes(t, example, nil, slowBytes(example, nil))
	wantBytes(t, example, []byte{}, slowBytes(example, nil))
	for _, n := range []int{2041, 2042, 2047, 2048, 2049, 2056, 65527, 65528, 65535, 1 << 16, 1<<16 + 1, 1 << 20} {
		wantNoBytes(t, api.Dgram{}, counted(n))
		wantNoBytes(t, example, counted(n))
	}
}

// P10.3: fewer than 8 bytes are no header, whatever they are and whatever room stands behind them.
func TestReadOfTooFew(t *testing.T) {
	wantNoRead(t, nil, api.ErrShort)
	for n := range 8 {
		told := slowPacket(example, counted(8))[:n]
		if n > 5 {
			told[5] = byte(n)
		}
		for _, p := range [][]byte{counted(n), make([]byte, n), told} {
			wantNoRead(t, p, api.ErrShort)
		}
	}
}

// P10.3: eight bytes are enough, and what is longer than a packet is read, too, as long as the length can be told.
func TestReadOfEnough(t *testing.T) {
	for _, n := range []int{8, 9, 10, 255, 256, 257, api.MaxPacket - 1, api.MaxPacket, api.MaxPacket + 1, 5000, 32768, 65534, 65535} {
		for _, payload := range payloads(n - 8) {
			wantRead(t, slowPacket(example, payload), example)
			wantRead(t, slowPacket(api.Dgram{}, payload), api.Dgram{})
		}
	}
}

// P10.3: beyond 65535 bytes no length is right, not even the one that is left of it in sixteen bits.
func TestReadOfTooMany(t *testing.T) {
	for _, n := range []int{65536, 65537, 65536 + 8, 65536 + 9, 1 << 17, 1<<17 - 1, 1<<17 + 8, 1<<20 + 8} {
		p := slowPacket(example, counted(n-8))
		wantNoRead(t, p, api.ErrDgram)
		p[4], p[5] = 0xff, 0xff
		wantNoRead(t, refield(p), api.ErrDgram)
	}
}

// P10.3: of all lengths one is right, the field being that of the bytes as they are.
func TestReadOfTheLength(t *testing.T) {
	for _, n := range []int{0, 1, 8, 248, 249} {
		for v := range 1 << 16 {
			p := slowPacket(example, counted(n))
			p[4], p[5] = byte(v>>8), byte(v)
			refield(p)
			if v == 8+n {
				wantRead(t, p, example)
			} else {
				wantNoRead(t, p, api.ErrDgram)
			}
		}
	}
}

// P10.3: of all fields one is right: 0 never is, where the sum is all ones neither.
func TestReadOfTheField(t *testing.T) {
	for _, h := range []api.Dgram{{}, example, full, {SrcPort: 0xfff6}} {
		for _, payload := range [][]byte{nil, {7}, counted(8), {0xff, 0xff, 0, 0}, {0xff, 0xf5}} {
			p := slowPacket(h, payload)
			right := slowField(p)
			for v := range 1 << 16 {
				p[6], p[7] = byte(v>>8), byte(v)
				if v == right {
					wantRead(t, p, h)
				} else {
					wantNoRead(t, p, api.ErrSum)
				}
			}
		}
	}
}

// P10.3: a field of 0 does not stand for one that was left out.
func TestReadOfNoField(t *testing.T) {
	for _, h := range headers() {
		for _, n := range []int{0, 1, 2, 33, 2040, 2041} {
			p := slowPacket(h, counted(n))
			p[6], p[7] = 0, 0
			wantNoRead(t, p, api.ErrSum)
		}
	}
}

// P10.3: the length is that of all the payload: without its end, or with more behind it, it is another one, even if what goes or comes is 0.
func TestReadOfOtherPayloads(t *testing.T) {
	for _, whole := range [][]byte{slowPacket(example, counted(60)), slowPacket(example, make([]byte, 60))} {
		for n := 8; n < 68; n++ {
			wantNoRead(t, whole[:n], api.ErrDgram)
		}
		wantRead(t, whole, example)
		for _, more := range [][]byte{{0}, {1}, {0, 0}, {0, 0, 0}, counted(20)} {
			wantNoRead(t, append(bytes.Clone(whole), more...), api.ErrDgram)
		}
	}
}

// P10.3: too few bytes are told ahead of a length that is wrong, and that ahead of a field that is wrong.
func TestReadTellsInOrder(t *testing.T) {
	for _, at := range []int{4, 5} {
		p := slowPacket(example, counted(8))
		p[at] ^= 1
		wantNoRead(t, p, api.ErrDgram)
		wantNoRead(t, refield(p), api.ErrDgram)
		p[6] ^= 1
		wantNoRead(t, p, api.ErrDgram)
		p[6], p[7] = 0, 0
		wantNoRead(t, p, api.ErrDgram)
		wantNoRead(t, p[:8], api.ErrDgram)
		wantNoRead(t, p[:7], api.ErrShort)
	}
	for _, at := range []int{6, 7} {
		p := slowPacket(example, counted(8))
		p[at] ^= 1
		wantNoRead(t, p, api.ErrSum)
		wantNoRead(t, p[:8], api.ErrDgram)
		wantNoRead(t, p[:7], api.ErrShort)
	}
}

// P10.4: what is handed in is only read, its spare room too, done or refused.
func TestOnlyReads(t *testing.T) {
	for _, n := range []int{0, 1, 7, 8, 9, 2040, 2041, api.MaxPacket + 1} {
		all := counted(n + 40)
		Bytes(example, all[20:20+n])
		Bytes(full, all[20:20+n])
		Read(all[20 : 20+n])
		if !bytes.Equal(all, counted(n+40)) {
			t.Errorf("%d bytes that were handed in have changed", n)
		}
	}
	for _, turned := range []int{-1, 0, 4, 5, 6, 7, 8, 30} {
		p := slowPacket(example, counted(41))
		if turned >= 0 {
			p[turned] ^= 3
		}
		was := bytes.Clone(p)
		Read(p)
		Read(p[:8])
		if !bytes.Equal(p, was) {
			t.Errorf("with the byte %d turned, the packet became %x", turned, p)
		}
	}
}

// P10.4: what is answered is new memory: neither what was handed in nor another answer shows in it.
func TestAnswersNewMemory(t *testing.T) {
	payload := []byte{0xff, 0xff}
	first, _ := Bytes(example, payload)
	second, _ := Bytes(example, payload)
	clear(first)
	_ = append(first, 9, 9)
	if !bytes.Equal(second, exampleBytes()) || !bytes.Equal(payload, []byte{0xff, 0xff}) {
		t.Errorf("another answer became %x, the payload %x", second, payload)
	}
	clear(payload)
	if !bytes.Equal(second, exampleBytes()) {
		t.Errorf("behind the payload's change: %x", second)
	}
	wantBytes(t, example, []byte{0xff, 0xff}, exampleBytes())

	p := slowPacket(example, counted(8))
	h, _ := Read(p)
	clear(p)
	if h != example {
		t.Errorf("behind the packet's change: %v", h)
	}
}

// P10.5, W6: a header is read again from its bytes with its payload behind them.
func TestThereAndBack(t *testing.T) {
	for _, h := range headers() {
		for _, n := range []int{0, 1, 8, 101, 2039, 2040} {
			for _, payload := range payloads(n) {
				b, e := Bytes(h, payload)
				if e != api.OK {
					t.Errorf("Bytes of %v: %d", h, e)
				}
				wantRead(t, append(b, payload...), h)
			}
		}
	}
}

// P10.5, W6: Bytes of what was read, and of what stands behind it, are the bytes that stand there, up to MaxPacket.
func TestBackAndThere(t *testing.T) {
	r := rand.New(rand.NewSource(100))
	for i := range 600 {
		n := 8 + r.Intn(60)
		if i%10 < 2 {
			n = api.MaxPacket - i%10
		}
		p := make([]byte, n)
		r.Read(p)
		p[4], p[5] = byte(n/256), byte(n%256)
		refield(p)
		h, e := Read(p)
		if e != api.OK {
			t.Errorf("Read of %x: %d", p[:8], e)
		}
		wantBytes(t, h, p[8:], p[:8])
	}
	long := slowPacket(example, counted(2041))
	wantRead(t, long, example)
	wantNoBytes(t, example, long[8:])
}

// P10.5: with any one byte of the header or of the payload turned into any other it is not read.
func TestOneByteTurned(t *testing.T) {
	for _, h := range []api.Dgram{{}, example, full, someHeader(rand.New(rand.NewSource(11)))} {
		for _, payload := range [][]byte{nil, {1}, {0, 0, 0}, {0xff, 0xff}, {0xff, 0xf5}, counted(9)} {
			whole := slowPacket(h, payload)
			for at := range whole {
				for by := 1; by < 256; by++ {
					p := bytes.Clone(whole)
					p[at] ^= byte(by)
					wantNoRead(t, p, turnedError(at))
				}
			}
		}
	}
}

// turnedError is what is told of a byte that was turned: the length stands on its own, all else is told by the sum.
func turnedError(at int) api.Errno {
	if at == 4 || at == 5 {
		return api.ErrDgram
	}
	return api.ErrSum
}
