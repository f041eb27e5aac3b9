package tag

import (
	"bytes"
	"math/rand"
	"testing"

	"sallyport/api"
)

// example is the chapter's header, exampleBytes its bytes.
var example = api.Tag{Prio: 5, Id: 291, Type: 0x86dd}

func exampleBytes() []byte { return []byte{0xa1, 0x23, 0x86, 0xdd} }

// counted are the bytes 1, 2, 3 and on, so that no two of a header's are alike; as a header they may be.
func counted(n int) []byte {
	b := make([]byte, n)
	for i := range b {
		b[i] = byte(i + 1)
	}
	return b
}

// someBytes are the same in every run; some are those at which a shift that is wrong shows.
func someBytes(r *rand.Rand, n int) []byte {
	b := make([]byte, n)
	for i := range b {
		b[i] = []byte{0, 0xff, 0x80, 0x10, byte(r.Intn(256)), byte(r.Intn(256))}[r.Intn(6)]
	}
	return b
}

// mayBe and slowBytes are the chapter's words, by counting alone.
func mayBe(h api.Tag) bool { return int(h.Prio) <= 7 && int(h.Id) <= 4095 }

func slowBytes(h api.Tag) []byte {
	first, second := int(h.Prio)*8192+int(h.Id), int(h.Type)
	return []byte{byte(first / 256), byte(first % 256), byte(second / 256), byte(second % 256)}
}

// slowRead is what four bytes are: a header, unless the bit 4096 is there.
func slowRead(p []byte) (api.Tag, api.Errno) {
	first, second := int(p[0])*256+int(p[1]), int(p[2])*256+int(p[3])
	if first/4096%2 == 1 {
		return api.Tag{}, api.ErrTag
	}
	return api.Tag{Prio: uint8(first / 8192), Id: uint16(first % 4096), Type: uint16(second)}, api.OK
}

// headers are those at the edges of each field, and some others: all of them may be.
func headers() []api.Tag {
	hs := []api.Tag{{}, example, {Prio: 7, Id: 4095, Type: 0xffff}, {Prio: 7}, {Id: 4095}, {Type: 0xffff}}
	for prio := range uint8(8) {
		for _, id := range []uint16{0, 1, 0x7f, 0x80, 0xff, 0x100, 0x101, 0x7ff, 0x800, 0xf00, 4094, 4095} {
			for _, typ := range []uint16{0, 1, 0xff, 0x100, 0x0800, 0x8000, 0x8001, 0xfffe, 0xffff} {
				hs = append(hs, api.Tag{Prio: prio, Id: id, Type: typ})
			}
		}
	}
	r := rand.New(rand.NewSource(6))
	for range 200 {
		hs = append(hs, api.Tag{Prio: uint8(r.Intn(8)), Id: uint16(r.Intn(4096)), Type: uint16(r.Intn(1 << 16))})
	}
	return hs
}

// wrongHeaders can't be: by their Prio, by their Id, by both.
func wrongHeaders() []api.Tag {
	hs := []api.Tag{}
	for _, prio := range []uint8{8, 9, 15, 16, 64, 128, 255} {
		for _, id := range []uint16{0, 1, 291, 4095, 4096, 65535} {
			hs = append(hs, api.Tag{Prio: prio, Id: id}, api.Tag{Prio: prio, Id: id, Type: 0x86dd})
		}
	}
	for _, id := range []uint16{4096, 4097, 4387, 8191, 8192, 32768, 61440, 65535} {
		for _, prio := range []uint8{0, 1, 5, 7} {
			hs = append(hs, api.Tag{Prio: prio, Id: id}, api.Tag{Prio: prio, Id: id, Type: 0x0800})
		}
	}
	return hs
}

func wantBytes(t *testing.T, h api.Tag, payload, want []byte) {
	t.Helper()
	if b, e := Bytes(h, payload); !bytes.Equal(b, want) || e != api.OK {
		t.Errorf("Bytes of %v ahead of %d bytes: %x, %d, not %x", h, len(payload), b, e, want)
	}
}

func wantNoBytes(t *testing.T, h api.Tag, payload []byte, want api.Errno) {
	t.Helper()
	if b, e := Bytes(h, payload); len(b) != 0 || e != want {
		t.Errorf("Bytes of %v ahead of %d bytes: %x, %d, not %d", h, len(payload), b, e, want)
	}
}

func wantRead(t *testing.T, p []byte, want api.Tag) {
	t.Helper()
	if h, e := Read(p); h != want || e != api.OK {
		t.Errorf("Read of %d bytes: %v, %d, not %v", len(p), h, e, want)
	}
}

func wantNoRead(t *testing.T, p []byte, want api.Errno) {
	t.Helper()
	if h, e := Read(p); h != (api.Tag{}) || e != want {
		t.Errorf("Read of %d bytes: %v, %d, not %d", len(p), h, e, want)
	}
}

// The chapter's examples, one line after the other.
func TestExamples(t *testing.T) {
	wantBytes(t, example, nil, exampleBytes())
	wantRead(t, append(exampleBytes(), 7, 8, 9), example)
	wantNoRead(t, counted(3), api.ErrShort)
	if Size() != 4 {
		t.Errorf("Size: %d", Size())
	}
	wantBytes(t, example, counted(2044), exampleBytes())
	wantNoBytes(t, example, counted(2045), api.ErrNoRoom)
	if e := Check(api.Tag{Prio: 8}); e != api.ErrTag {
		t.Errorf("Check of Prio 8: %d", e)
	}
}

// P6.1: a header may be by its Prio and its Id alone, and each has as many bytes.
func TestCheckAndSize(t *testing.T) {
	for _, h := range headers() {
		if e := Check(h); e != api.OK {
			t.Errorf("Check of %v: %d", h, e)
		}
		if b, _ := Bytes(h, nil); len(b) != 4 || Size() != 4 {
			t.Errorf("Bytes of %v: %d, Size %d", h, len(b), Size())
		}
	}
	for _, h := range wrongHeaders() {
		if e := Check(h); e != api.ErrTag {
			t.Errorf("Check of %v: %d", h, e)
		}
	}
}

// P6.1: every Prio with every Id's edge, and every Id.
func TestCheckOfAll(t *testing.T) {
	want := func(h api.Tag) {
		if e := Check(h); (e == api.OK) != mayBe(h) || (e == api.ErrTag) == mayBe(h) {
			t.Errorf("Check of %v: %d", h, e)
		}
	}
	for prio := range 256 {
		for _, id := range []uint16{0, 4095, 4096} {
			want(api.Tag{Prio: uint8(prio), Id: id})
		}
	}
	for id := range 1 << 16 {
		want(api.Tag{Id: uint16(id), Type: 1})
	}
}

// P6.2: each field stands in its place, the highest byte of a number first.
func TestBytesHasEachField(t *testing.T) {
	wantBytes(t, api.Tag{}, nil, []byte{0, 0, 0, 0})
	wantBytes(t, api.Tag{Prio: 1}, nil, []byte{0x20, 0, 0, 0})
	wantBytes(t, api.Tag{Prio: 7}, nil, []byte{0xe0, 0, 0, 0})
	wantBytes(t, api.Tag{Id: 1}, nil, []byte{0, 1, 0, 0})
	wantBytes(t, api.Tag{Id: 4095}, nil, []byte{0x0f, 0xff, 0, 0})
	wantBytes(t, api.Tag{Type: 0x1234}, nil, []byte{0, 0, 0x12, 0x34})
	wantBytes(t, api.Tag{Prio: 7, Id: 4095, Type: 0xffff}, nil, []byte{0xef, 0xff, 0xff, 0xff})
	for _, h := range headers() {
		wantBytes(t, h, nil, slowBytes(h))
	}
}

// P6.2: header and payload are together at most MaxPacket bytes; what the payload's bytes are does not matter, nor its spare room.
func TestBytesAheadOfPayloads(t *testing.T) {
	for _, n := range []int{0, 1, 3, 4, 5, 2043, 2044} {
		for _, payload := range [][]byte{counted(n), make([]byte, n), counted(5000)[:n]} {
			wantBytes(t, example, payload, exampleBytes())
		}
	}
	wantBytes(t, example, []byte{}, exampleBytes())
	for _, n := range []int{2045, 2046, 2047, 2048, 2049, 2052, 1 << 16, 1 << 20} {
		wantNoBytes(t, api.Tag{}, counted(n), api.ErrNoRoom)
		wantNoBytes(t, example, counted(n), api.ErrNoRoom)
	}
}

// P6.2: a header that can't be is told ahead of a payload that is too long.
func TestBytesOfWrongHeaders(t *testing.T) {
	for _, h := range wrongHeaders() {
		for _, n := range []int{0, 4, 2044, 2045, 1 << 16} {
			wantNoBytes(t, h, counted(n), api.ErrTag)
		}
	}
}

// P6.3: fewer than 4 bytes are no header, whatever they are and whatever room stands behind them.
func TestReadOfTooFew(t *testing.T) {
	wantNoRead(t, nil, api.ErrShort)
	for n := range 4 {
		wantNoRead(t, counted(n), api.ErrShort)
		wantNoRead(t, counted(40)[:n], api.ErrShort)
		wantNoRead(t, bytes.Repeat([]byte{0xff}, n), api.ErrShort)
	}
}

// P6.3: the bit 4096 of the first number is no header's, wherever else bits stand, in as many bytes as there may be.
func TestReadOfTheOddBit(t *testing.T) {
	for _, p := range [][]byte{{0x10, 0, 0, 0}, {0x1f, 0xff, 0, 0}, {0xff, 0xff, 0xff, 0xff}, {0x30, 0, 0x81, 0}, {0xf0, 0, 0, 0}} {
		for _, n := range []int{0, 1, 60, api.MaxPacket - 4, api.MaxPacket - 3, 1 << 16} {
			wantNoRead(t, append(bytes.Clone(p), counted(n)...), api.ErrTag)
		}
	}
	wantRead(t, []byte{0, 0x10, 0x10, 0x10, 0x10}, api.Tag{Id: 16, Type: 0x1010})
	wantRead(t, []byte{0xef, 0xff, 0xff, 0xff}, api.Tag{Prio: 7, Id: 4095, Type: 0xffff})
}

// P6.3: every first number, and the second one beside it.
func TestReadOfAllNumbers(t *testing.T) {
	for v := range 1 << 16 {
		p := []byte{byte(v >> 8), byte(v), byte(v >> 7), byte(v * 3)}
		want, no := slowRead(p)
		if h, e := Read(p); h != want || e != no {
			t.Fatalf("Read of %x: %v, %d", p, h, e)
		}
		wantRead(t, []byte{0xa1, 0x23, p[0], p[1]}, api.Tag{Prio: 5, Id: 291, Type: uint16(v)})
	}
}

// P6.3: four bytes are enough, and what is longer than a packet is read, too.
func TestReadOfEnough(t *testing.T) {
	want, _ := slowRead(counted(4))
	for _, n := range []int{4, 5, 8, 64, api.MaxPacket - 1, api.MaxPacket, api.MaxPacket + 1, 1 << 16} {
		wantRead(t, counted(n), want)
		wantRead(t, make([]byte, n), api.Tag{})
	}
}

// P6.4: what is handed in is only read, its spare room too, done or refused.
func TestOnlyReads(t *testing.T) {
	for _, n := range []int{0, 1, 3, 4, 5, 2044, 2045, api.MaxPacket + 1} {
		all := counted(n + 40)
		for _, h := range []api.Tag{example, {Prio: 8}} {
			Bytes(h, all[20:20+n])
		}
		for at := range 20 {
			Read(all[at : at+n])
		}
		if !bytes.Equal(all, counted(n+40)) {
			t.Errorf("%d bytes that were handed in have changed", n)
		}
	}
}

// P6.4: what is answered is new memory: neither what was handed in nor another answer shows in it.
func TestAnswersNewMemory(t *testing.T) {
	payload := counted(20)
	first, _ := Bytes(example, payload)
	second, _ := Bytes(example, payload)
	clear(first)
	_ = append(first, 9, 9)
	if !bytes.Equal(second, exampleBytes()) || !bytes.Equal(payload, counted(20)) {
		t.Errorf("another answer became %x, the payload %x", second, payload)
	}
	clear(payload)
	if !bytes.Equal(second, exampleBytes()) {
		t.Errorf("behind the payload's change: %x", second)
	}
	wantBytes(t, example, nil, exampleBytes())
}

// P6.5, W6: a header is read again from its bytes, whatever the payload behind them.
func TestThereAndBack(t *testing.T) {
	for _, h := range headers() {
		for _, n := range []int{0, 1, 4, 100, 2044} {
			b, e := Bytes(h, counted(n))
			if e != api.OK {
				t.Errorf("Bytes of %v: %d", h, e)
			}
			wantRead(t, append(b, counted(n)...), h)
		}
	}
}

// P6.5, W6: Bytes of what was read, and of what stands behind it, are the bytes that stand there, up to MaxPacket.
func TestBackAndThere(t *testing.T) {
	r := rand.New(rand.NewSource(66))
	read := 0
	for i := range 1000 {
		n := 4 + r.Intn(60)
		if i%10 < 2 {
			n = api.MaxPacket - i%10
		}
		p := someBytes(r, n)
		h, e := Read(p)
		if want, no := slowRead(p); h != want || e != no {
			t.Errorf("Read of %x: %v, %d", p[:4], h, e)
		}
		if e == api.OK {
			read++
			wantBytes(t, h, p[4:], p[:4])
		}
	}
	if read < 300 {
		t.Errorf("only %d were headers", read)
	}
	long := counted(api.MaxPacket + 1)
	h, e := Read(long)
	if e != api.OK {
		t.Errorf("Read of one more than a packet: %d", e)
	}
	wantNoBytes(t, h, long[4:], api.ErrNoRoom)
}

// P6.5: what is read hangs on each bit of the first 4 bytes, and on no other.
func TestReadHangsOnTheHeaderAlone(t *testing.T) {
	plain, _ := slowRead(counted(4))
	for bit := range 40 * 8 {
		p := counted(40)
		p[bit/8] ^= 0x80 >> (bit % 8)
		want, no := slowRead(p)
		h, e := Read(p)
		if h != want || e != no || (h != plain) != (bit < 32) {
			t.Errorf("bit %d changed: %v, %d", bit, h, e)
		}
	}
	for n := 4; n < 30; n++ {
		wantRead(t, counted(n), plain)
	}
}
