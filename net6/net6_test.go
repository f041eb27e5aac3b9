package net6

import (
	"bytes"
	"math/rand"
	"testing"

	"sallyport/api"
)

// example is the chapter's header, exampleBytes its bytes ahead of a payload of 3.
var example = api.Net6{Class: 0x12, Flow: 0x34567, Next: 6, Hops: 64, Src: sixteen(1), Dst: sixteen(2)}

func exampleBytes() []byte {
	return []byte{
		0x61, 0x23, 0x45, 0x67, 0, 3, 6, 0x40,
		1, 1, 1, 1, 1, 1, 1, 1, 1, 1, 1, 1, 1, 1, 1, 1,
		2, 2, 2, 2, 2, 2, 2, 2, 2, 2, 2, 2, 2, 2, 2, 2,
	}
}

// sixteen is an address of one byte over and over, rising one whose bytes are all different.
func sixteen(v byte) [16]byte {
	return [16]byte{v, v, v, v, v, v, v, v, v, v, v, v, v, v, v, v}
}

func rising(from byte) [16]byte {
	a := [16]byte{}
	for i := range a {
		a[i] = from + byte(i)
	}
	return a
}

// counted are the bytes 1, 2, 3 and on.
func counted(n int) []byte {
	b := make([]byte, n)
	for i := range b {
		b[i] = byte(i + 1)
	}
	return b
}

// slowBytes is the chapter's table, line by line, by counting alone.
func slowBytes(h api.Net6, payload int) []byte {
	first := 6*(1<<28) + int(h.Class)*(1<<20) + int(h.Flow)
	b := []byte{
		byte(first / 16777216), byte(first / 65536 % 256), byte(first / 256 % 256), byte(first % 256),
		byte(payload / 256), byte(payload % 256),
		h.Next, h.Hops,
	}
	for _, v := range h.Src {
		b = append(b, v)
	}
	for _, v := range h.Dst {
		b = append(b, v)
	}
	return b
}

// slowPacket is a header with a payload behind it; the whole may be longer than a packet.
func slowPacket(h api.Net6, payload int) []byte {
	return append(slowBytes(h, payload), counted(payload)...)
}

// slowRead is what bytes are, by the chapter's words and by counting alone.
func slowRead(p []byte) (api.Net6, api.Errno) {
	if len(p) < 40 {
		return api.Net6{}, api.ErrShort
	}
	if p[0]/16 != 6 || int(p[4])*256+int(p[5])+40 != len(p) {
		return api.Net6{}, api.ErrNet6
	}
	h := api.Net6{
		Class: p[0]%16*16 + p[1]/16,
		Flow:  uint32(int(p[1]%16)*65536 + int(p[2])*256 + int(p[3])),
		Next:  p[6], Hops: p[7],
	}
	for i := range 16 {
		h.Src[i], h.Dst[i] = p[8+i], p[24+i]
	}
	return h, api.OK
}

// someHeader is the same in every run; some bytes are those at which a shift that is wrong shows.
func someHeader(r *rand.Rand) api.Net6 {
	some := func() byte { return []byte{0, 0xff, 0x80, 0x0f, byte(r.Intn(256))}[r.Intn(5)] }
	h := api.Net6{Class: some(), Next: some(), Hops: some()}
	h.Flow = uint32(some()%16)*65536 + uint32(some())*256 + uint32(some())
	for i := range 16 {
		h.Src[i], h.Dst[i] = some(), some()
	}
	return h
}

// headers are those at the edges of each field, and some others: all of them may be.
func headers() []api.Net6 {
	all := sixteen(0xff)
	hs := []api.Net6{
		{},
		example,
		{Class: 0xff}, {Flow: 1<<20 - 1}, {Next: 0xff}, {Hops: 0xff}, {Src: all}, {Dst: all},
		{Class: 0xff, Flow: 1<<20 - 1, Next: 0xff, Hops: 0xff, Src: all, Dst: all},
		{Src: rising(1), Dst: rising(101)}, {Src: rising(101), Dst: rising(1)},
		{Next: 1, Hops: 6}, {Next: 6, Hops: 1},
	}
	for bit := range 20 {
		hs = append(hs, api.Net6{Flow: 1 << bit}, api.Net6{Class: 0xa5, Flow: 1<<20 - 1 - 1<<bit, Next: 17})
	}
	for class := range 256 {
		hs = append(hs, api.Net6{Class: uint8(class)}, api.Net6{Class: uint8(class), Flow: 1<<20 - 1})
	}
	r := rand.New(rand.NewSource(8))
	for range 200 {
		hs = append(hs, someHeader(r))
	}
	return hs
}

// wrongHeaders can't be, by their Flow.
func wrongHeaders() []api.Net6 {
	hs := []api.Net6{}
	for bit := 20; bit < 32; bit++ {
		hs = append(hs, api.Net6{Flow: 1 << bit}, api.Net6{Class: 0xff, Flow: 1<<bit + 0x34567, Next: 6, Hops: 64})
	}
	for _, flow := range []uint32{1<<20 + 1, 1<<21 - 1, 0x12345678, 1<<31 - 1, 1<<32 - 1} {
		h := example
		h.Flow = flow
		hs = append(hs, h)
	}
	return hs
}

func wantBytes(t *testing.T, h api.Net6, payload, want []byte) {
	t.Helper()
	if b, e := Bytes(h, payload); !bytes.Equal(b, want) || e != api.OK {
		t.Errorf("Bytes of %v ahead of %d bytes: %x, %d, not %x", h, len(payload), b, e, want)
	}
}

func wantNoBytes(t *testing.T, h api.Net6, payload []byte, want api.Errno) {
	t.Helper()
	if b, e := Bytes(h, payload); len(b) != 0 || e != want {
		t.Errorf("Bytes of %v ahead of %d bytes: %x, %d, not %d", h, len(payload), b, e, want)
	}
}

func wantRead(t *testing.T, p []byte, want api.Net6) {
	t.Helper()
	if h, e := Read(p); h != want || e != api.OK {
		t.Errorf("Read of %d bytes, %x: %v, %d, not %v", len(p), p[:min(40, len(p))], h, e, want)
	}
}

func wantNoRead(t *testing.T, p []byte, want api.Errno) {
	t.Helper()
	if h, e := Read(p); h != (api.Net6{}) || e != want {
		t.Errorf("Read of %d bytes, %x: %v, %d, not %d", len(p), p[:min(40, len(p))], h, e, want)
	}
}

// The chapter's examples, one line after the other.
func TestExamples(t *testing.T) {
	wantBytes(t, example, make([]byte, 3), exampleBytes())
	wantRead(t, append(exampleBytes(), make([]byte, 3)...), example)
	wantRead(t, append(exampleBytes(), 7, 8, 9), example)
	wantNoRead(t, exampleBytes()[:39], api.ErrShort)
	if Size() != 40 {
		t.Errorf("Size: %d", Size())
	}
	wantBytes(t, example, counted(2008), slowBytes(example, 2008))
	wantNoBytes(t, example, counted(2009), api.ErrNoRoom)
	if e := Check(api.Net6{Flow: 1 << 20}); e != api.ErrNet6 {
		t.Errorf("Check of a Flow of 2^20: %d", e)
	}
}

// P8.1: a header may be by its Flow alone, and each has as many bytes.
func TestCheckAndSize(t *testing.T) {
	for _, h := range headers() {
		if e := Check(h); e != api.OK {
			t.Errorf("Check of %v: %d", h, e)
		}
		if b, _ := Bytes(h, nil); len(b) != 40 || Size() != 40 {
			t.Errorf("Bytes of %v: %d, Size %d", h, len(b), Size())
		}
	}
	for _, h := range wrongHeaders() {
		if e := Check(h); e != api.ErrNet6 {
			t.Errorf("Check of %v: %d", h, e)
		}
	}
}

// P8.1: all Flows around the edge, whatever else the header has.
func TestCheckAroundTheEdge(t *testing.T) {
	for flow := uint32(1<<20 - 300); flow < 1<<20+300; flow++ {
		want := api.OK
		if flow >= 1<<20 {
			want = api.ErrNet6
		}
		full := api.Net6{Class: 0xff, Flow: flow, Next: 0xff, Hops: 0xff, Src: sixteen(0xff), Dst: sixteen(0xff)}
		for _, h := range []api.Net6{{Flow: flow}, full} {
			if e := Check(h); e != want {
				t.Errorf("Check of a Flow of %d: %d, not %d", flow, e, want)
			}
		}
	}
}

// P8.2: each field stands in its place, the highest byte of a number first.
func TestBytesHasEachField(t *testing.T) {
	for _, c := range []struct {
		h    api.Net6
		want []byte
	}{
		{api.Net6{}, []byte{0x60, 0, 0, 0, 0, 0, 0, 0}},
		{api.Net6{Class: 1}, []byte{0x60, 0x10, 0, 0, 0, 0, 0, 0}},
		{api.Net6{Class: 0x80}, []byte{0x68, 0, 0, 0, 0, 0, 0, 0}},
		{api.Net6{Class: 0xff}, []byte{0x6f, 0xf0, 0, 0, 0, 0, 0, 0}},
		{api.Net6{Flow: 1}, []byte{0x60, 0, 0, 1, 0, 0, 0, 0}},
		{api.Net6{Flow: 0x12345}, []byte{0x60, 1, 0x23, 0x45, 0, 0, 0, 0}},
		{api.Net6{Flow: 1<<20 - 1}, []byte{0x60, 0x0f, 0xff, 0xff, 0, 0, 0, 0}},
		{api.Net6{Class: 0xff, Flow: 1<<20 - 1}, []byte{0x6f, 0xff, 0xff, 0xff, 0, 0, 0, 0}},
		{api.Net6{Next: 2}, []byte{0x60, 0, 0, 0, 0, 0, 2, 0}},
		{api.Net6{Hops: 3}, []byte{0x60, 0, 0, 0, 0, 0, 0, 3}},
	} {
		want := append(c.want, make([]byte, 32)...)
		wantBytes(t, c.h, nil, want)
		wantRead(t, want, c.h)
	}
	for i := range 32 {
		want := append([]byte{0x60}, make([]byte, 39)...)
		want[8+i] = 0x9a
		h := api.Net6{}
		if i < 16 {
			h.Src[i] = 0x9a
		} else {
			h.Dst[i-16] = 0x9a
		}
		wantBytes(t, h, nil, want)
		wantRead(t, want, h)
	}
	for _, h := range headers() {
		wantBytes(t, h, nil, slowBytes(h, 0))
		wantBytes(t, h, counted(300), slowBytes(h, 300))
	}
}

// P8.2: header and payload are together at most MaxPacket bytes; of the payload only how long it is matters, not its spare room.
func TestBytesAheadOfPayloads(t *testing.T) {
	for n := range 2009 {
		for _, payload := range [][]byte{counted(n), make([]byte, n), counted(5000)[:n]} {
			wantBytes(t, example, payload, slowBytes(example, n))
		}
	}
	wantBytes(t, example, nil, slowBytes(example, 0))
	wantBytes(t, example, []byte{}, slowBytes(example, 0))
	for _, n := range []int{2009, 2010, 2047, 2048, 2049, 2088, 65535, 1 << 16, 1<<16 + 1, 1 << 20} {
		wantNoBytes(t, api.Net6{}, counted(n), api.ErrNoRoom)
		wantNoBytes(t, example, counted(n), api.ErrNoRoom)
	}
}

// P8.2: a header that can't be is told ahead of a payload that is too long.
func TestBytesOfWrongHeaders(t *testing.T) {
	for _, h := range wrongHeaders() {
		wantNoBytes(t, h, nil, api.ErrNet6)
		for _, n := range []int{0, 40, 2008, 2009, 1 << 16} {
			wantNoBytes(t, h, counted(n), api.ErrNet6)
		}
	}
}

// P8.3: fewer than 40 bytes are no header, whatever they are and whatever room stands behind them.
func TestReadOfTooFew(t *testing.T) {
	wantNoRead(t, nil, api.ErrShort)
	for n := range 40 {
		wrong := bytes.Repeat([]byte{0xff}, n)
		for _, p := range [][]byte{counted(n), make([]byte, n), wrong, slowPacket(example, 3)[:n], slowPacket(example, 0)[:n]} {
			wantNoRead(t, p, api.ErrShort)
		}
	}
}

// P8.3: forty bytes are enough, and what is longer than a packet is read, too, as far as two bytes can tell.
func TestReadOfEnough(t *testing.T) {
	for _, n := range []int{40, 41, 43, 64, 295, 296, 297, api.MaxPacket - 1, api.MaxPacket, api.MaxPacket + 1, 5000, 65535, 65536, 65574, 65575} {
		wantRead(t, slowPacket(example, n-40), example)
		wantRead(t, slowPacket(api.Net6{}, n-40), api.Net6{})
	}
	for _, n := range []int{65576, 65577, 65536 + 80, 1 << 17, 1<<17 + 40} {
		wantNoRead(t, slowPacket(example, n-40), api.ErrNet6)
	}
}

// P8.3: the highest four bits of the byte 0 are 6; the others are the Class's.
func TestReadOfTheFirstByte(t *testing.T) {
	for v := range 256 {
		p := slowPacket(example, 3)
		p[0] = byte(v)
		if v/16 == 6 {
			want := example
			want.Class = byte(v%16*16 + 2)
			wantRead(t, p, want)
		} else {
			wantNoRead(t, p, api.ErrNet6)
		}
	}
}

// P8.3: the bytes 4, 5 are how many bytes stand behind the header, no other number.
func TestReadOfTheLength(t *testing.T) {
	p := slowPacket(example, 300)
	for told := range 1 << 16 {
		p[4], p[5] = byte(told>>8), byte(told)
		if told == 300 {
			wantRead(t, p, example)
		} else {
			wantNoRead(t, p, api.ErrNet6)
		}
	}
	whole := slowPacket(example, 60)
	for n := 40; n < 100; n++ {
		wantNoRead(t, whole[:n], api.ErrNet6)
	}
	wantRead(t, whole, example)
	wantNoRead(t, append(whole, 0), api.ErrNet6)
}

// P8.3: too few bytes are told ahead of what they are; any bit of the version or of the length is, alone, refused.
func TestReadTellsInOrder(t *testing.T) {
	for _, at := range []int{0, 4, 5} {
		for bit := range 8 {
			if at == 0 && bit < 4 {
				continue
			}
			p := slowPacket(example, 3)
			p[at] ^= 1 << bit
			wantNoRead(t, p, api.ErrNet6)
			wantNoRead(t, p[:40], api.ErrNet6)
			wantNoRead(t, p[:39], api.ErrShort)
		}
	}
	p := slowPacket(example, 3)
	p[0], p[5] = 0x41, 4
	wantNoRead(t, p, api.ErrNet6)
}

// P8.4: what is handed in is only read, its spare room too, done or refused.
func TestOnlyReads(t *testing.T) {
	for _, n := range []int{0, 1, 39, 40, 41, 2008, 2009, api.MaxPacket + 1} {
		all := counted(n + 80)
		for _, h := range []api.Net6{example, {Flow: 1 << 20}} {
			Bytes(h, all[40:40+n])
		}
		Read(all[40 : 40+n])
		if !bytes.Equal(all, counted(n+80)) {
			t.Errorf("%d bytes that were handed in have changed", n)
		}
	}
	for _, turned := range []int{-1, 0, 1, 4, 5, 8, 24, 39} {
		p := slowPacket(example, 60)
		if turned >= 0 {
			p[turned] ^= 0x30
		}
		was := bytes.Clone(p)
		Read(p)
		Read(p[:40])
		Read(p[:39])
		if !bytes.Equal(p, was) {
			t.Errorf("with the byte %d turned, the packet became %x", turned, p)
		}
	}
}

// P8.4: what is answered is new memory: neither what was handed in nor another answer shows in it.
func TestAnswersNewMemory(t *testing.T) {
	payload := counted(100)[:3]
	first, _ := Bytes(example, payload)
	second, _ := Bytes(example, payload)
	clear(first)
	_ = append(first, 9, 9)
	if !bytes.Equal(second, exampleBytes()) || !bytes.Equal(payload[:100], counted(100)) {
		t.Errorf("another answer became %x, the payload %x", second, payload[:100])
	}
	clear(payload[:100])
	if !bytes.Equal(second, exampleBytes()) {
		t.Errorf("behind the payload's change: %x", second)
	}
	wantBytes(t, example, payload, exampleBytes())

	p := slowPacket(example, 3)
	h, _ := Read(p)
	clear(p)
	if h != example {
		t.Errorf("behind the packet's change: %v", h)
	}
	h.Src[0] = 9
	if again, _ := Read(slowPacket(example, 3)); again != example {
		t.Errorf("behind another answer's change: %v", again)
	}
}

// P8.5, W6: a header is read again from its bytes, whatever the payload behind them.
func TestThereAndBack(t *testing.T) {
	for _, h := range headers() {
		for _, n := range []int{0, 1, 40, 255, 256, 2007, 2008} {
			b, e := Bytes(h, counted(n))
			if e != api.OK {
				t.Errorf("Bytes of %v: %d", h, e)
			}
			wantRead(t, append(bytes.Clone(b), counted(n)...), h)
			wantRead(t, append(b, make([]byte, n)...), h)
		}
	}
}

// P8.5, W6: Bytes of what was read, and of what stands behind it, are the bytes that stand there, up to MaxPacket.
func TestBackAndThere(t *testing.T) {
	r := rand.New(rand.NewSource(88))
	for i := range 600 {
		n := 40 + r.Intn(60)
		if i%10 < 2 {
			n = api.MaxPacket - i%10
		}
		p := make([]byte, n)
		r.Read(p)
		p[0], p[4], p[5] = 0x60+p[0]%16, byte((n-40)/256), byte((n-40)%256)
		h, e := Read(p)
		if want, _ := slowRead(p); h != want || e != api.OK {
			t.Errorf("Read of %x: %v, %d", p[:40], h, e)
		}
		if Check(h) != api.OK {
			t.Errorf("Check of what was read: %v", h)
		}
		wantBytes(t, h, p[40:], p[:40])
	}
	long := slowPacket(example, 2009)
	wantRead(t, long, example)
	wantNoBytes(t, example, long[40:], api.ErrNoRoom)
}

// P8.5: what is read hangs on each bit of the first 40 bytes, and on no other byte.
func TestReadHangsOnTheHeaderAlone(t *testing.T) {
	for _, h := range []api.Net6{{}, example, {Class: 0xff, Flow: 1<<20 - 1, Src: rising(1), Dst: rising(101)}} {
		for bit := range 80 * 8 {
			p := slowPacket(h, 40)
			p[bit/8] ^= 0x80 >> (bit % 8)
			want, no := slowRead(p)
			got, e := Read(p)
			if got != want || e != no || (got != h || e != api.OK) != (bit < 320) {
				t.Errorf("bit %d of %v changed: %v, %d", bit, h, got, e)
			}
		}
	}
}

// P8.5: how many bytes there are is all that matters of those behind the header, and of their room nothing does.
func TestReadHangsOnHowMany(t *testing.T) {
	for n := range 300 {
		for _, payload := range [][]byte{make([]byte, n), counted(n), bytes.Repeat([]byte{0xff}, n)} {
			p := append(slowBytes(example, n), payload...)
			wantRead(t, p, example)
			wantRead(t, append(p, counted(50)...)[:40+n], example)
			wantNoRead(t, append(p, 0), api.ErrNet6)
		}
	}
}
