package link

import (
	"bytes"
	"math/rand"
	"testing"

	"sallyport/api"
)

// example is the chapter's header, exampleBytes its bytes.
var example = api.Link{
	Dst:  [6]byte{0x01, 0x02, 0x03, 0x04, 0x05, 0x06},
	Src:  [6]byte{0x11, 0x12, 0x13, 0x14, 0x15, 0x16},
	Type: 0x0800,
}

func exampleBytes() []byte {
	return []byte{0x01, 0x02, 0x03, 0x04, 0x05, 0x06, 0x11, 0x12, 0x13, 0x14, 0x15, 0x16, 0x08, 0x00}
}

// counted are the bytes 1, 2, 3 and on, so that no two of a header's are alike.
func counted(n int) []byte {
	b := make([]byte, n)
	for i := range b {
		b[i] = byte(i + 1)
	}
	return b
}

// someBytes are the same in every run; some are those at which a shift that is wrong shows.
func someBytes(r *rand.Rand, n int) []byte {
	b := make([]byte, n)
	for i := range b {
		b[i] = []byte{0, 0xff, 0x80, byte(r.Intn(256))}[r.Intn(4)]
	}
	return b
}

// slowRead is a header byte by byte, as the chapter's table goes.
func slowRead(p []byte) api.Link {
	return api.Link{
		Dst:  [6]byte{p[0], p[1], p[2], p[3], p[4], p[5]},
		Src:  [6]byte{p[6], p[7], p[8], p[9], p[10], p[11]},
		Type: uint16(int(p[12])*256 + int(p[13])),
	}
}

// headers are those at the edges of each field, and some others.
func headers() []api.Link {
	all := [6]byte{0xff, 0xff, 0xff, 0xff, 0xff, 0xff}
	hs := []api.Link{
		{},
		example,
		{Dst: all},
		{Src: all},
		{Dst: all, Src: all, Type: 0xffff},
		{Dst: [6]byte{1}, Src: [6]byte{5: 1}},
		{Dst: [6]byte{5: 1}, Src: [6]byte{1}},
		{Dst: example.Src, Src: example.Dst, Type: 0x86dd},
	}
	for _, typ := range []uint16{1, 2, 0x7f, 0x80, 0xff, 0x100, 0x101, 0x7fff, 0x8000, 0x8001, 0x8100, 0xff00, 0xfffe, 0xffff} {
		hs = append(hs, api.Link{Type: typ}, api.Link{Dst: example.Dst, Src: example.Src, Type: typ})
	}
	r := rand.New(rand.NewSource(5))
	for range 200 {
		hs = append(hs, slowRead(someBytes(r, 14)))
	}
	return hs
}

func wantBytes(t *testing.T, h api.Link, payload, want []byte) {
	t.Helper()
	if b, e := Bytes(h, payload); !bytes.Equal(b, want) || e != api.OK {
		t.Errorf("Bytes of %x ahead of %d bytes: %x, %d, not %x", h, len(payload), b, e, want)
	}
}

func wantRead(t *testing.T, p []byte, want api.Link) {
	t.Helper()
	if h, e := Read(p); h != want || e != api.OK {
		t.Errorf("Read of %d bytes: %x, %d, not %x", len(p), h, e, want)
	}
}

// The chapter's examples, one line after the other.
func TestExamples(t *testing.T) {
	wantBytes(t, example, nil, exampleBytes())
	wantRead(t, append(exampleBytes(), 7, 8, 9), example)
	if h, e := Read(counted(13)); h != (api.Link{}) || e != api.ErrShort {
		t.Errorf("Read of 13 bytes: %x, %d", h, e)
	}
	if Size() != 14 {
		t.Errorf("Size: %d", Size())
	}
	wantBytes(t, example, counted(2034), exampleBytes())
	if b, e := Bytes(example, counted(2035)); len(b) != 0 || e != api.ErrNoRoom {
		t.Errorf("Bytes ahead of 2035: %x, %d", b, e)
	}
}

// P5.1: any header may be, and each has as many bytes.
func TestCheckAndSize(t *testing.T) {
	for _, h := range headers() {
		if e := Check(h); e != api.OK {
			t.Errorf("Check of %x: %d", h, e)
		}
		if b, _ := Bytes(h, nil); len(b) != 14 || Size() != 14 {
			t.Errorf("Bytes of %x: %d, Size %d", h, len(b), Size())
		}
	}
}

// P5.2: each field stands in its place, the highest byte of the number first.
func TestBytesHasEachField(t *testing.T) {
	wantBytes(t, api.Link{}, nil, make([]byte, 14))
	wantBytes(t, slowRead(counted(14)), nil, counted(14))
	for i := range 14 {
		one := make([]byte, 14)
		one[i] = 0x9a
		h := api.Link{}
		switch {
		case i < 6:
			h.Dst[i] = 0x9a
		case i < 12:
			h.Src[i-6] = 0x9a
		case i == 12:
			h.Type = 0x9a00
		default:
			h.Type = 0x009a
		}
		wantBytes(t, h, nil, one)
		wantRead(t, one, h)
	}
	wantBytes(t, api.Link{Type: 0x86dd}, nil, append(make([]byte, 12), 0x86, 0xdd))
}

// P5.2: header and payload are together at most MaxPacket bytes; what the payload's bytes are does not matter, nor its spare room.
func TestBytesAheadOfPayloads(t *testing.T) {
	for _, n := range []int{0, 1, 13, 14, 15, 2033, 2034} {
		for _, payload := range [][]byte{counted(n), make([]byte, n), counted(5000)[:n]} {
			wantBytes(t, example, payload, exampleBytes())
		}
	}
	wantBytes(t, example, []byte{}, exampleBytes())
	for _, n := range []int{2035, 2036, 2047, 2048, 2049, 2062, 1 << 16, 1 << 20} {
		for _, h := range []api.Link{{}, example} {
			if b, e := Bytes(h, counted(n)); len(b) != 0 || e != api.ErrNoRoom {
				t.Errorf("Bytes ahead of %d: %x, %d", n, b, e)
			}
		}
	}
}

// P5.3: fewer than 14 bytes are no header, whatever room stands behind them.
func TestReadOfTooFew(t *testing.T) {
	for n := range 14 {
		for _, p := range [][]byte{counted(n), counted(40)[:n]} {
			if h, e := Read(p); h != (api.Link{}) || e != api.ErrShort {
				t.Errorf("Read of %d bytes: %x, %d", n, h, e)
			}
		}
	}
	if h, e := Read(nil); h != (api.Link{}) || e != api.ErrShort {
		t.Errorf("Read of nil: %x, %d", h, e)
	}
}

// P5.3: any 14 bytes are one, also at the beginning of what is longer than a packet.
func TestReadOfEnough(t *testing.T) {
	for _, n := range []int{14, 15, 28, 64, api.MaxPacket - 1, api.MaxPacket, api.MaxPacket + 1, 1 << 16} {
		wantRead(t, counted(n), slowRead(counted(14)))
		wantRead(t, make([]byte, n), api.Link{})
		wantRead(t, bytes.Repeat([]byte{0xff}, n), slowRead(bytes.Repeat([]byte{0xff}, 14)))
	}
}

// P5.4: what is handed in is only read, its spare room too, done or refused.
func TestOnlyReads(t *testing.T) {
	for _, n := range []int{0, 1, 13, 14, 15, 2034, 2035, api.MaxPacket + 1} {
		all := counted(n + 40)
		Bytes(example, all[20:20+n])
		Read(all[20 : 20+n])
		if !bytes.Equal(all, counted(n+40)) {
			t.Errorf("%d bytes that were handed in have changed", n)
		}
	}
}

// P5.4: what is answered is new memory: neither what was handed in nor another answer shows in it.
func TestAnswersNewMemory(t *testing.T) {
	payload := counted(20)
	first, _ := Bytes(example, payload)
	second, _ := Bytes(example, payload)
	clear(first)
	_ = append(first, 9, 9)
	if !bytes.Equal(second, exampleBytes()) || !bytes.Equal(payload, counted(20)) {
		t.Errorf("another answer became %x, the payload %x", second, payload)
	}
	clear(payload)
	if !bytes.Equal(second, exampleBytes()) {
		t.Errorf("behind the payload's change: %x", second)
	}
	wantBytes(t, example, nil, exampleBytes())

	p := exampleBytes()
	h, _ := Read(p)
	clear(p)
	if h != example {
		t.Errorf("behind the packet's change: %x", h)
	}
}

// P5.5, W6: a header is read again from its bytes, whatever the payload behind them.
func TestThereAndBack(t *testing.T) {
	for _, h := range headers() {
		for _, n := range []int{0, 1, 14, 100, 2034} {
			b, e := Bytes(h, counted(n))
			if e != api.OK {
				t.Errorf("Bytes of %x: %d", h, e)
			}
			wantRead(t, append(b, counted(n)...), h)
		}
	}
}

// P5.5, W6: Bytes of what was read, and of what stands behind it, are the bytes that stand there, up to MaxPacket.
func TestBackAndThere(t *testing.T) {
	r := rand.New(rand.NewSource(55))
	for i := range 600 {
		n := 14 + r.Intn(60)
		if i%10 < 2 {
			n = api.MaxPacket - i%10
		}
		p := someBytes(r, n)
		h, e := Read(p)
		if e != api.OK {
			t.Errorf("Read of %d bytes: %d", n, e)
		}
		wantBytes(t, h, p[14:], p[:14])
	}
	long := counted(api.MaxPacket + 1)
	h, e := Read(long)
	if b, no := Bytes(h, long[14:]); e != api.OK || len(b) != 0 || no != api.ErrNoRoom {
		t.Errorf("of one more than a packet: %d; %x, %d", e, b, no)
	}
}

// P5.5: what is read hangs on each of the first 14 bytes, and on no other.
func TestReadHangsOnTheHeaderAlone(t *testing.T) {
	for i := range 40 {
		p := counted(40)
		p[i] ^= 0x55
		h, e := Read(p)
		if e != api.OK || (h != slowRead(counted(14))) != (i < 14) {
			t.Errorf("byte %d changed: %x, %d", i, h, e)
		}
	}
	for n := 14; n < 30; n++ {
		wantRead(t, counted(n), slowRead(counted(14)))
	}
}
