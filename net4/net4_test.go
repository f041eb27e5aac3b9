package net4

import (
	"bytes"
	"math/rand"
	"testing"

	"sallyport/api"
)

// example is the chapter's header, exampleBytes its bytes ahead of a payload of 8.
var example = api.Net4{Id: 1, Ttl: 64, Proto: 17, Src: [4]byte{10, 0, 0, 1}, Dst: [4]byte{10, 0, 0, 2}}

func exampleBytes() []byte {
	return []byte{0x45, 0, 0, 0x1c, 0, 1, 0, 0, 0x40, 0x11, 0x66, 0xce, 0x0a, 0, 0, 1, 0x0a, 0, 0, 2}
}

// counted are the bytes 1, 2, 3 and on.
func counted(n int) []byte {
	b := make([]byte, n)
	for i := range b {
		b[i] = byte(i + 1)
	}
	return b
}

// slowField is the field of the first 20 bytes, by the words of the chapters alone: counted, and brought back one 65535 at a time.
func slowField(p []byte) int {
	sum := 0
	for i := 0; i < 20; i += 2 {
		if i != 10 {
			sum += int(p[i])*256 + int(p[i+1])
		}
		for sum > 65535 {
			sum -= 65535
		}
	}
	return 65535 - sum
}

// refield gives a header the field that it should have.
func refield(p []byte) []byte {
	f := slowField(p)
	p[10], p[11] = byte(f/256), byte(f%256)
	return p
}

// slowBytes is the chapter's table, line by line.
func slowBytes(h api.Net4, payload int) []byte {
	n := 20 + payload
	return refield([]byte{
		0x45, h.Tos,
		byte(n / 256), byte(n % 256),
		byte(h.Id / 256), byte(h.Id % 256),
		0, 0,
		h.Ttl, h.Proto,
		0, 0,
		h.Src[0], h.Src[1], h.Src[2], h.Src[3],
		h.Dst[0], h.Dst[1], h.Dst[2], h.Dst[3],
	})
}

// slowPacket is a header with a payload behind it; the whole may be longer than a packet.
func slowPacket(h api.Net4, payload int) []byte {
	return append(slowBytes(h, payload), counted(payload)...)
}

// someHeader is the same in every run; some bytes are those at which a shift that is wrong shows.
func someHeader(r *rand.Rand) api.Net4 {
	some := func() byte { return []byte{0, 0xff, 0x80, byte(r.Intn(256))}[r.Intn(4)] }
	return api.Net4{
		Tos: some(), Ttl: some(), Proto: some(), Id: uint16(some())*256 + uint16(some()),
		Src: [4]byte{some(), some(), some(), some()}, Dst: [4]byte{some(), some(), some(), some()},
	}
}

// headers are those at the edges of each field, and some others.
func headers() []api.Net4 {
	all := [4]byte{0xff, 0xff, 0xff, 0xff}
	hs := []api.Net4{
		{},
		example,
		{Tos: 0xff}, {Ttl: 0xff}, {Proto: 0xff}, {Id: 0xffff}, {Src: all}, {Dst: all},
		{Tos: 0xff, Ttl: 0xff, Proto: 0xff, Id: 0xffff, Src: all, Dst: all},
		{Src: [4]byte{1, 2, 3, 4}, Dst: [4]byte{5, 6, 7, 8}},
		{Src: [4]byte{5, 6, 7, 8}, Dst: [4]byte{1, 2, 3, 4}},
		{Ttl: 1, Proto: 6}, {Ttl: 6, Proto: 1},
	}
	for _, id := range []uint16{1, 0x7f, 0x80, 0xff, 0x100, 0x101, 0x7fff, 0x8000, 0xff00, 0xfffe} {
		hs = append(hs, api.Net4{Id: id}, api.Net4{Id: id, Ttl: 64, Proto: 6, Src: example.Src, Dst: example.Dst})
	}
	r := rand.New(rand.NewSource(7))
	for range 200 {
		hs = append(hs, someHeader(r))
	}
	return hs
}

func wantBytes(t *testing.T, h api.Net4, payload, want []byte) {
	t.Helper()
	if b, e := Bytes(h, payload); !bytes.Equal(b, want) || e != api.OK {
		t.Errorf("Bytes of %v ahead of %d bytes: %x, %d, not %x", h, len(payload), b, e, want)
	}
}

func wantNoBytes(t *testing.T, h api.Net4, payload []byte, want api.Errno) {
	t.Helper()
	if b, e := Bytes(h, payload); len(b) != 0 || e != want {
		t.Errorf("Bytes of %v ahead of %d bytes: %x, %d, not %d", h, len(payload), b, e, want)
	}
}

func wantRead(t *testing.T, p []byte, want api.Net4) {
	t.Helper()
	if h, e := Read(p); h != want || e != api.OK {
		t.Errorf("Read of %d bytes, %x: %v, %d, not %v", len(p), p[:20], h, e, want)
	}
}

func wantNoRead(t *testing.T, p []byte, want api.Errno) {
	t.Helper()
	if h, e := Read(p); h != (api.Net4{}) || e != want {
		t.Errorf("Read of %d bytes, %x: %v, %d, not %d", len(p), p[:min(20, len(p))], h, e, want)
	}
}

// The chapter's examples, one line after the other.
func TestExamples(t *testing.T) {
	wantBytes(t, example, make([]byte, 8), exampleBytes())
	wantRead(t, append(exampleBytes(), make([]byte, 8)...), example)
	wantRead(t, append(exampleBytes(), counted(8)...), example)
	wantNoRead(t, exampleBytes()[:19], api.ErrShort)
	if Size() != 20 {
		t.Errorf("Size: %d", Size())
	}
	wantBytes(t, example, counted(2028), slowBytes(example, 2028))
	wantNoBytes(t, example, counted(2029), api.ErrNoRoom)
}

// P7.1: any header may be, and each has as many bytes.
func TestCheckAndSize(t *testing.T) {
	for _, h := range headers() {
		if e := Check(h); e != api.OK {
			t.Errorf("Check of %v: %d", h, e)
		}
		if b, _ := Bytes(h, nil); len(b) != 20 || Size() != 20 {
			t.Errorf("Bytes of %v: %d, Size %d", h, len(b), Size())
		}
	}
}

// P7.2: each field stands in its place, the highest byte of a number first; the fields were worked out by hand.
func TestBytesHasEachField(t *testing.T) {
	for _, c := range []struct {
		h    api.Net4
		want []byte
	}{
		{api.Net4{}, []byte{0x45, 0, 0, 0x14, 0, 0, 0, 0, 0, 0, 0xba, 0xeb, 0, 0, 0, 0, 0, 0, 0, 0}},
		{api.Net4{Tos: 1}, []byte{0x45, 1, 0, 0x14, 0, 0, 0, 0, 0, 0, 0xba, 0xea, 0, 0, 0, 0, 0, 0, 0, 0}},
		{api.Net4{Id: 0x1203}, []byte{0x45, 0, 0, 0x14, 0x12, 3, 0, 0, 0, 0, 0xa8, 0xe8, 0, 0, 0, 0, 0, 0, 0, 0}},
		{api.Net4{Ttl: 2}, []byte{0x45, 0, 0, 0x14, 0, 0, 0, 0, 2, 0, 0xb8, 0xeb, 0, 0, 0, 0, 0, 0, 0, 0}},
		{api.Net4{Proto: 3}, []byte{0x45, 0, 0, 0x14, 0, 0, 0, 0, 0, 3, 0xba, 0xe8, 0, 0, 0, 0, 0, 0, 0, 0}},
		{api.Net4{Src: [4]byte{1, 2, 3, 4}}, []byte{0x45, 0, 0, 0x14, 0, 0, 0, 0, 0, 0, 0xb6, 0xe5, 1, 2, 3, 4, 0, 0, 0, 0}},
		{api.Net4{Dst: [4]byte{1, 2, 3, 4}}, []byte{0x45, 0, 0, 0x14, 0, 0, 0, 0, 0, 0, 0xb6, 0xe5, 0, 0, 0, 0, 1, 2, 3, 4}},
	} {
		wantBytes(t, c.h, nil, c.want)
		wantRead(t, c.want, c.h)
	}
	for _, h := range headers() {
		wantBytes(t, h, nil, slowBytes(h, 0))
		wantBytes(t, h, counted(300), slowBytes(h, 300))
	}
}

// P7.2: a sum that is all ones has the field 0, and one that goes beyond sixteen bits is brought back.
func TestFieldAtItsEdges(t *testing.T) {
	zero := api.Net4{Id: 0xbaeb}
	wantBytes(t, zero, nil, []byte{0x45, 0, 0, 0x14, 0xba, 0xeb, 0, 0, 0, 0, 0, 0, 0, 0, 0, 0, 0, 0, 0, 0})
	one := api.Net4{Id: 0xbaec}
	wantBytes(t, one, nil, []byte{0x45, 0, 0, 0x14, 0xba, 0xec, 0, 0, 0, 0, 0xff, 0xfe, 0, 0, 0, 0, 0, 0, 0, 0})
	for _, h := range []api.Net4{zero, one} {
		b, _ := Bytes(h, nil)
		wantRead(t, b, h)
	}
	// A field of all ones has the same sum as one of 0, but is not the field.
	b, _ := Bytes(zero, nil)
	b[10], b[11] = 0xff, 0xff
	wantNoRead(t, b, api.ErrSum)
}

// P7.2: header and payload are together at most MaxPacket bytes; of the payload only how long it is matters, not its spare room.
func TestBytesAheadOfPayloads(t *testing.T) {
	for _, n := range []int{0, 1, 19, 20, 21, 235, 236, 237, 2027, 2028} {
		for _, payload := range [][]byte{counted(n), make([]byte, n), counted(5000)[:n]} {
			wantBytes(t, example, payload, slowBytes(example, n))
		}
	}
	wantBytes(t, example, nil, slowBytes(example, 0))
	wantBytes(t, example, []byte{}, slowBytes(example, 0))
	for _, n := range []int{2029, 2030, 2047, 2048, 2049, 2068, 65516, 1 << 16, 1 << 20} {
		wantNoBytes(t, api.Net4{}, counted(n), api.ErrNoRoom)
		wantNoBytes(t, example, counted(n), api.ErrNoRoom)
	}
}

// P7.3: fewer than 20 bytes are no header, whatever they are and whatever room stands behind them.
func TestReadOfTooFew(t *testing.T) {
	wantNoRead(t, nil, api.ErrShort)
	for n := range 20 {
		told := slowBytes(example, 0)
		told[3] = byte(n)
		refield(told)
		for _, p := range [][]byte{counted(n), make([]byte, n), slowPacket(example, 8)[:n], told[:n]} {
			wantNoRead(t, p, api.ErrShort)
		}
	}
}

// P7.3: twenty bytes are enough, and what is longer than a packet is read, too, as far as two bytes can tell.
func TestReadOfEnough(t *testing.T) {
	for _, n := range []int{20, 21, 28, 64, 255, 256, 257, api.MaxPacket - 1, api.MaxPacket, api.MaxPacket + 1, 5000, 65534, 65535} {
		wantRead(t, slowPacket(example, n-20), example)
		wantRead(t, slowPacket(api.Net4{}, n-20), api.Net4{})
	}
	for _, n := range []int{65536, 65536 + 20, 65536 + 28, 1 << 17} {
		wantNoRead(t, slowPacket(example, n-20), api.ErrNet4)
	}
}

// P7.3: any other byte 0 is refused, its field being right.
func TestReadOfTheFirstByte(t *testing.T) {
	for v := range 256 {
		p := slowPacket(example, 8)
		p[0] = byte(v)
		if refield(p); v == 0x45 {
			wantRead(t, p, example)
		} else {
			wantNoRead(t, p, api.ErrNet4)
		}
	}
}

// P7.3: any bit of the bytes 6, 7 is refused, its field being right.
func TestReadOfTheBytesOfZero(t *testing.T) {
	for bit := range 16 {
		p := slowPacket(example, 8)
		p[6+bit/8] = 1 << (bit % 8)
		wantNoRead(t, refield(p), api.ErrNet4)
	}
	p := slowPacket(example, 8)
	p[6], p[7] = 0xff, 0xff
	wantNoRead(t, refield(p), api.ErrNet4)
}

// P7.3: the bytes 2, 3 are how many bytes there are, no other number, its field being right.
func TestReadOfTheLength(t *testing.T) {
	for told := range 1 << 16 {
		p := slowPacket(example, 280)
		p[2], p[3] = byte(told>>8), byte(told)
		if refield(p); told == 300 {
			wantRead(t, p, example)
		} else {
			wantNoRead(t, p, api.ErrNet4)
		}
	}
	whole := slowPacket(example, 60)
	for n := 20; n < 80; n++ {
		wantNoRead(t, whole[:n], api.ErrNet4)
	}
	wantRead(t, whole, example)
	wantNoRead(t, append(whole, 0), api.ErrNet4)
}

// P7.3: of all fields one is right.
func TestReadOfTheField(t *testing.T) {
	for _, h := range []api.Net4{{}, example, {Id: 0xbaeb}} {
		p := slowPacket(h, 0)
		right := slowField(p)
		for v := range 1 << 16 {
			p[10], p[11] = byte(v>>8), byte(v)
			if v == right {
				wantRead(t, p, h)
			} else {
				wantNoRead(t, p, api.ErrSum)
			}
		}
	}
}

// P7.3: too few bytes are told ahead of what they are, and what they are ahead of a field that is wrong.
func TestReadTellsInOrder(t *testing.T) {
	for _, at := range []int{0, 2, 3, 6, 7} {
		p := slowPacket(example, 8)
		p[at] ^= 0x40
		wantNoRead(t, p, api.ErrNet4)
		p[10] ^= 1
		wantNoRead(t, p, api.ErrNet4)
		wantNoRead(t, p[:19], api.ErrShort)
	}
	p := slowPacket(example, 8)
	p[11] ^= 1
	wantNoRead(t, p, api.ErrSum)
	wantNoRead(t, p[:19], api.ErrShort)
	wantNoRead(t, p[:20], api.ErrNet4)
}

// P7.4: what is handed in is only read, its spare room too, done or refused.
func TestOnlyReads(t *testing.T) {
	for _, n := range []int{0, 1, 19, 20, 21, 2028, 2029, api.MaxPacket + 1} {
		all := counted(n + 40)
		Bytes(example, all[20:20+n])
		Read(all[20 : 20+n])
		if !bytes.Equal(all, counted(n+40)) {
			t.Errorf("%d bytes that were handed in have changed", n)
		}
	}
	for _, turned := range []int{-1, 0, 6, 10, 11, 15} {
		p := slowPacket(example, 40)
		if turned >= 0 {
			p[turned] ^= 3
		}
		was := bytes.Clone(p)
		Read(p)
		Read(p[:20])
		if !bytes.Equal(p, was) {
			t.Errorf("with the byte %d turned, the packet became %x", turned, p)
		}
	}
}

// P7.4: what is answered is new memory: neither what was handed in nor another answer shows in it.
func TestAnswersNewMemory(t *testing.T) {
	payload := counted(8)
	first, _ := Bytes(example, payload)
	second, _ := Bytes(example, payload)
	clear(first)
	_ = append(first, 9, 9)
	if !bytes.Equal(second, exampleBytes()) || !bytes.Equal(payload, counted(8)) {
		t.Errorf("another answer became %x, the payload %x", second, payload)
	}
	clear(payload)
	if !bytes.Equal(second, exampleBytes()) {
		t.Errorf("behind the payload's change: %x", second)
	}
	wantBytes(t, example, payload, exampleBytes())

	p := slowPacket(example, 8)
	h, _ := Read(p)
	clear(p)
	if h != example {
		t.Errorf("behind the packet's change: %v", h)
	}
}

// P7.5, W6: a header is read again from its bytes, whatever the payload behind them.
func TestThereAndBack(t *testing.T) {
	for _, h := range headers() {
		for _, n := range []int{0, 1, 20, 100, 2028} {
			b, e := Bytes(h, counted(n))
			if e != api.OK {
				t.Errorf("Bytes of %v: %d", h, e)
			}
			wantRead(t, append(bytes.Clone(b), counted(n)...), h)
			wantRead(t, append(b, make([]byte, n)...), h)
		}
	}
}

// P7.5, W6: Bytes of what was read, and of what stands behind it, are the bytes that stand there, up to MaxPacket.
func TestBackAndThere(t *testing.T) {
	r := rand.New(rand.NewSource(77))
	for i := range 600 {
		n := 20 + r.Intn(60)
		if i%10 < 2 {
			n = api.MaxPacket - i%10
		}
		p := make([]byte, n)
		r.Read(p)
		p[0], p[2], p[3], p[6], p[7] = 0x45, byte(n>>8), byte(n), 0, 0
		refield(p)
		h, e := Read(p)
		if e != api.OK {
			t.Errorf("Read of %x: %d", p[:20], e)
		}
		wantBytes(t, h, p[20:], p[:20])
	}
	long := slowPacket(example, 2029)
	wantRead(t, long, example)
	wantNoBytes(t, example, long[20:], api.ErrNoRoom)
}

// P7.5: with any one byte of the header turned into any other it is not read; what stands behind it does not matter.
func TestOneByteTurned(t *testing.T) {
	for _, h := range []api.Net4{{}, example, {Id: 0xbaeb}, someHeader(rand.New(rand.NewSource(8)))} {
		for at := range 28 {
			for by := 1; by < 256; by++ {
				p := slowPacket(h, 8)
				p[at] ^= byte(by)
				switch at {
				case 0, 2, 3, 6, 7:
					wantNoRead(t, p, api.ErrNet4)
				case 20, 21, 22, 23, 24, 25, 26, 27:
					wantRead(t, p, h)
				default:
					wantNoRead(t, p, api.ErrSum)
				}
			}
		}
	}
}
