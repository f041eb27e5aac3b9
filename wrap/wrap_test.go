package wrap

import (
	"bytes"
	"math/rand"
	"reflect"
	"slices"
	"testing"

	"sallyport/api"
	"sallyport/dgram"
	"sallyport/link"
	"sallyport/net4"
	"sallyport/net6"
	"sallyport/packet"
	"sallyport/seg"
	"sallyport/tag"
)

// sizes are the chapters' sizes of the kinds' headers, by the kinds' numbers.
var sizes = [7]int{0, 14, 4, 20, 40, 20, 8}

func linkOf(v uint16) api.Head {
	return api.Head{Kind: api.HeadLink, Link: api.Link{Dst: [6]byte{1, 2, 3, 4, 5, 6}, Src: [6]byte{17, 18, 19, 20, 21, 22}, Type: v}}
}

func tagOf(v uint16) api.Head {
	return api.Head{Kind: api.HeadTag, Tag: api.Tag{Prio: 5, Id: 291, Type: v}}
}

func net4Of(v uint8) api.Head {
	return api.Head{Kind: api.HeadNet4, Net4: api.Net4{Tos: 3, Ttl: 64, Proto: v, Id: 1, Src: [4]byte{10, 0, 0, 1}, Dst: [4]byte{10, 0, 0, 2}}}
}

func net6Of(v uint8) api.Head {
	return api.Head{Kind: api.HeadNet6, Net6: api.Net6{Class: 0x12, Flow: 0x34567, Next: v, Hops: 64, Src: [16]byte{1, 2}, Dst: [16]byte{3, 4}}}
}

func segOf() api.Head {
	return api.Head{Kind: api.HeadSeg, Seg: api.Seg{SrcPort: 80, DstPort: 1024, Seq: 1, Ack: 2, Flags: 2, Window: 512}}
}

func dgramOf() api.Head {
	return api.Head{Kind: api.HeadDgram, Dgram: api.Dgram{SrcPort: 53, DstPort: 1024}}
}

// each is headers of all six kinds, with and without something in them.
func each() []api.Head {
	l := []api.Head{linkOf(0x0800), tagOf(0x86dd), net4Of(17), net6Of(6), segOf(), dgramOf()}
	for kind := api.HeadLink; kind <= api.HeadDgram; kind++ {
		l = append(l, api.Head{Kind: kind})
	}
	return append(l,
		api.Head{Kind: api.HeadTag, Tag: api.Tag{Prio: 7, Id: 4095, Type: 65535}},
		api.Head{Kind: api.HeadNet6, Net6: api.Net6{Flow: 1<<20 - 1}},
		api.Head{Kind: api.HeadSeg, Seg: api.Seg{Flags: 63}},
	)
}

// refused is a header that may not be, and what is said of it.
type refused struct {
	head api.Head
	want api.Errno
}

// wrongs are headers of their own kind alone that may not be.
func wrongs() []refused {
	return []refused{
		{api.Head{Kind: api.HeadTag, Tag: api.Tag{Prio: 8}}, api.ErrTag},
		{api.Head{Kind: api.HeadTag, Tag: api.Tag{Prio: 255, Id: 1}}, api.ErrTag},
		{api.Head{Kind: api.HeadTag, Tag: api.Tag{Id: 4096}}, api.ErrTag},
		{api.Head{Kind: api.HeadTag, Tag: api.Tag{Id: 65535}}, api.ErrTag},
		{api.Head{Kind: api.HeadNet6, Net6: api.Net6{Flow: 1 << 20}}, api.ErrNet6},
		{api.Head{Kind: api.HeadNet6, Net6: api.Net6{Flow: 1<<32 - 1}}, api.ErrNet6},
		{api.Head{Kind: api.HeadSeg, Seg: api.Seg{Flags: 64}}, api.ErrSeg},
		{api.Head{Kind: api.HeadSeg, Seg: api.Seg{Flags: 255}}, api.ErrSeg},
	}
}

// numbers calls f with each number within a value, whatever structs and arrays it stands in.
func numbers(v reflect.Value, f func(n reflect.Value)) {
	switch v.Kind() {
	case reflect.Struct:
		for i := range v.NumField() {
			numbers(v.Field(i), f)
		}
	case reflect.Array:
		for i := range v.Len() {
			numbers(v.Index(i), f)
		}
	default:
		f(v)
	}
}

// mixed are the headers that a header becomes by one number of another kind that is not zero: each of these numbers, the lowest and the highest bit of it.
func mixed(h api.Head) []api.Head {
	var l []api.Head
	v := reflect.ValueOf(&h).Elem()
	for i := 1; i < v.NumField(); i++ {
		if i == int(h.Kind) {
			continue
		}
		numbers(v.Field(i), func(n reflect.Value) {
			for _, bit := range []uint64{1, 1 << (n.Type().Bits() - 1)} {
				n.SetUint(bit)
				l = append(l, h)
			}
			n.SetUint(0)
		})
	}
	return l
}

// counted are the bytes 1, 2, 3 and on.
func counted(n int) []byte {
	b := make([]byte, n)
	for i := range b {
		b[i] = byte(i + 1)
	}
	return b
}

// turned is bytes with some bits of one of them turned.
func turned(p []byte, at int, by byte) []byte {
	q := bytes.Clone(p)
	q[at] ^= by
	return q
}

// kindsBytes is what the header's own package says its bytes are, ahead of a payload.
func kindsBytes(h api.Head, payload []byte) ([]byte, api.Errno) {
	switch h.Kind {
	case api.HeadLink:
		return link.Bytes(h.Link, payload)
	case api.HeadTag:
		return tag.Bytes(h.Tag, payload)
	case api.HeadNet4:
		return net4.Bytes(h.Net4, payload)
	case api.HeadNet6:
		return net6.Bytes(h.Net6, payload)
	case api.HeadSeg:
		return seg.Bytes(h.Seg, payload)
	case api.HeadDgram:
		return dgram.Bytes(h.Dgram, payload)
	}
	return nil, api.ErrHead
}

// kindsRead is what the kind's own package reads.
func kindsRead(p []byte, kind uint8) (api.Head, api.Errno) {
	h, e := api.Head{Kind: kind}, api.ErrHead
	switch kind {
	case api.HeadLink:
		h.Link, e = link.Read(p)
	case api.HeadTag:
		h.Tag, e = tag.Read(p)
	case api.HeadNet4:
		h.Net4, e = net4.Read(p)
	case api.HeadNet6:
		h.Net6, e = net6.Read(p)
	case api.HeadSeg:
		h.Seg, e = seg.Read(p)
	case api.HeadDgram:
		h.Dgram, e = dgram.Read(p)
	}
	if e != api.OK {
		return api.Head{}, e
	}
	return h, e
}

// put is headers ahead of a payload, the last one put there first.
func put(t *testing.T, payload []byte, l ...api.Head) []byte {
	t.Helper()
	p := bytes.Clone(payload)
	for _, h := range slices.Backward(l) {
		b, e := kindsBytes(h, p)
		if e != api.OK {
			t.Fatalf("the bytes of %v ahead of %d: %d", h, len(p), e)
		}
		p = append(bytes.Clone(b), p...)
	}
	return p
}

// rooms are packets of the same bytes, with all manners of room.
func rooms(t *testing.T, b []byte) []*packet.Packet {
	t.Helper()
	var l []*packet.Packet
	for _, head := range []int{0, 1, 3, 4, 7, 8, 13, 14, 19, 20, 39, 40, 41, 256} {
		for _, tail := range []int{0, 5} {
			l = append(l, packetOf(t, b, head, tail))
		}
	}
	return l
}

func packetOf(t *testing.T, b []byte, head, tail int) *packet.Packet {
	t.Helper()
	p, e := packet.New(b, head, tail)
	if e != api.OK {
		t.Fatalf("New of %d, %d, %d: %d", len(b), head, tail, e)
	}
	return p
}

func wantCheck(t *testing.T, h api.Head, want api.Errno) {
	t.Helper()
	if e := Check(h); e != want {
		t.Errorf("Check of %v: %d, not %d", h, e, want)
	}
}

func wantSize(t *testing.T, kind uint8, n int, want api.Errno) {
	t.Helper()
	if m, e := Size(kind); m != n || e != want {
		t.Errorf("Size of %d: %d, %d, not %d, %d", kind, m, e, n, want)
	}
}

func wantPush(t *testing.T, p []byte, h api.Head, want []byte) {
	t.Helper()
	if b, e := Push(p, h); !bytes.Equal(b, want) || e != api.OK {
		t.Errorf("Push of %v on %d bytes: %x, %d, not %x", h, len(p), b, e, want)
	}
}

func wantNoPush(t *testing.T, p []byte, h api.Head, want api.Errno) {
	t.Helper()
	if b, e := Push(p, h); len(b) != 0 || e != want {
		t.Errorf("Push of %v on %d bytes: %x, %d, not %d", h, len(p), b, e, want)
	}
}

func wantPop(t *testing.T, p []byte, h api.Head, rest []byte) {
	t.Helper()
	if g, b, e := Pop(p, h.Kind); g != h || !bytes.Equal(b, rest) || e != api.OK {
		t.Errorf("Pop of %d off %x: %v, %x, %d, not %v, %x", h.Kind, p, g, b, e, h, rest)
	}
}

func wantNoPop(t *testing.T, p []byte, kind uint8, want api.Errno) {
	t.Helper()
	if h, b, e := Pop(p, kind); h != (api.Head{}) || len(b) != 0 || e != want {
		t.Errorf("Pop of %d off %x: %v, %x, %d, not %d", kind, p, h, b, e, want)
	}
}

func wantStack(t *testing.T, p []byte, want []byte, l ...api.Head) {
	t.Helper()
	if b, e := Stack(p, l...); !bytes.Equal(b, want) || e != api.OK {
		t.Errorf("Stack of %v on %d bytes: %x, %d, not %x", l, len(p), b, e, want)
	}
}

func wantNoStack(t *testing.T, p []byte, want api.Errno, l ...api.Head) {
	t.Helper()
	if b, e := Stack(p, l...); len(b) != 0 || e != want {
		t.Errorf("Stack of %v on %d bytes: %x, %d, not %d", l, len(p), b, e, want)
	}
}

// wantPacket holds of a packet's bytes and moves.
func wantPacket(t *testing.T, p *packet.Packet, b []byte, moves int) {
	t.Helper()
	if !bytes.Equal(p.Bytes(), b) || p.Moves() != moves {
		t.Errorf("the packet has %x, %d moves, not %x, %d", p.Bytes(), p.Moves(), b, moves)
	}
}

func wantOn(t *testing.T, p *packet.Packet, h api.Head, want []byte) {
	t.Helper()
	moves := p.Moves()
	if e := On(p, h); e != api.OK {
		t.Errorf("On of %v: %d", h, e)
	}
	wantPacket(t, p, want, moves+1)
}

// wantNoOn holds that the packet is as it was, its room too.
func wantNoOn(t *testing.T, p *packet.Packet, h api.Head, want api.Errno) {
	t.Helper()
	was, moves := p.Bytes(), p.Moves()
	head, tail := p.Room()
	if e := On(p, h); e != want {
		t.Errorf("On of %v: %d, not %d", h, e, want)
	}
	wantPacket(t, p, was, moves)
	if a, b := p.Room(); a != head || b != tail {
		t.Errorf("On of %v: room %d, %d, not %d, %d", h, a, b, head, tail)
	}
}

func wantOff(t *testing.T, p *packet.Packet, h api.Head, rest []byte) {
	t.Helper()
	moves := p.Moves()
	if g, e := Off(p, h.Kind); g != h || e != api.OK {
		t.Errorf("Off of %d: %v, %d, not %v", h.Kind, g, e, h)
	}
	wantPacket(t, p, rest, moves+1)
}

func wantNoOff(t *testing.T, p *packet.Packet, kind uint8, want api.Errno) {
	t.Helper()
	was, moves := p.Bytes(), p.Moves()
	head, tail := p.Room()
	if h, e := Off(p, kind); h != (api.Head{}) || e != want {
		t.Errorf("Off of %d: %v, %d, not %d", kind, h, e, want)
	}
	wantPacket(t, p, was, moves)
	if a, b := p.Room(); a != head || b != tail {
		t.Errorf("Off of %d: room %d, %d, not %d, %d", kind, a, b, head, tail)
	}
}

// The chapter's examples, one line after the other.
func TestExamples(t *testing.T) {
	with := []byte{0xa1, 0x23, 0x86, 0xdd, 1, 2}
	wantPush(t, []byte{1, 2}, tagOf(0x86dd), with)
	wantPop(t, with, tagOf(0x86dd), []byte{1, 2})

	wantCheck(t, api.Head{Kind: 0}, api.ErrHead)
	wantCheck(t, api.Head{Kind: 7}, api.ErrHead)
	wantCheck(t, api.Head{Kind: 2, Link: api.Link{Type: 1}}, api.ErrHead)
	wantCheck(t, api.Head{Kind: 2, Tag: api.Tag{Prio: 8}}, api.ErrTag)
	wantSize(t, 4, 40, api.OK)
	wantSize(t, 0, 0, api.ErrHead)

	if b, e := Stack(nil, linkOf(0x0800), net4Of(0)); len(b) != 34 || e != api.OK {
		t.Errorf("Stack of a Link and a Net4: %x, %d", b, e)
	}
	wantNoStack(t, nil, api.ErrMany, slices.Repeat([]api.Head{tagOf(0)}, 9)...)
	wantNoPush(t, make([]byte, 2045), tagOf(0x86dd), api.ErrNoRoom)

	p := packetOf(t, []byte{1, 2}, 0, 0)
	wantOn(t, p, tagOf(0x86dd), with)
	wantOff(t, p, tagOf(0x86dd), []byte{1, 2})
	wantPacket(t, p, []byte{1, 2}, 2)
}

// P12.1: each of the six kinds has its size, and what is none of them has none.
func TestSizeOfEachKind(t *testing.T) {
	for kind := range 256 {
		if kind >= 1 && kind <= 6 {
			wantSize(t, uint8(kind), sizes[kind], api.OK)
		} else {
			wantSize(t, uint8(kind), 0, api.ErrHead)
		}
	}
}

// P12.1: headers of each kind may be; of no kind none may be, whatever is in it.
func TestCheckOfEachKind(t *testing.T) {
	for _, h := range each() {
		wantCheck(t, h, api.OK)
		for kind := range 256 {
			if kind < 1 || kind > 6 {
				other := h
				other.Kind = uint8(kind)
				wantCheck(t, other, api.ErrHead)
			}
		}
	}
	for _, w := range wrongs() {
		wantCheck(t, w.head, w.want)
	}
}

// P12.1: each number of each other kind must be zero, and that is told ahead of what is wrong with its own.
func TestCheckOfOtherKindsFields(t *testing.T) {
	for _, h := range each() {
		for _, m := range mixed(h) {
			wantCheck(t, m, api.ErrHead)
		}
	}
	for _, w := range wrongs() {
		for _, m := range mixed(w.head) {
			wantCheck(t, m, api.ErrHead)
		}
	}
}

// P12.1: the fields of one kind under the number of another are that other's, or must be zero.
func TestCheckOfOneKindAsAnother(t *testing.T) {
	for _, h := range each() {
		blank := h == api.Head{Kind: h.Kind}
		for kind := api.HeadLink; kind <= api.HeadDgram; kind++ {
			other := h
			other.Kind = kind
			if kind == h.Kind || blank {
				wantCheck(t, other, api.OK)
			} else {
				wantCheck(t, other, api.ErrHead)
			}
		}
	}
}

// P12.2: the bytes of each kind's header, as its chapter has them, ahead of a payload.
func TestPushOfEachKindAsWritten(t *testing.T) {
	wantPush(t, []byte{9}, linkOf(0x0800), []byte{1, 2, 3, 4, 5, 6, 17, 18, 19, 20, 21, 22, 8, 0, 9})
	wantPush(t, []byte{9}, tagOf(0x0800), []byte{0xa1, 0x23, 8, 0, 9})
	wantPush(t, []byte{9}, net4Of(17), []byte{0x45, 3, 0, 21, 0, 1, 0, 0, 64, 17, 0x66, 0xd2, 10, 0, 0, 1, 10, 0, 0, 2, 9})
	wantPush(t, []byte{9}, net6Of(6), append([]byte{0x61, 0x23, 0x45, 0x67, 0, 1, 6, 64, 1, 2, 0, 0, 0, 0, 0, 0, 0, 0, 0, 0, 0, 0, 0, 0, 3, 4},
		0, 0, 0, 0, 0, 0, 0, 0, 0, 0, 0, 0, 0, 0, 9))
	wantPush(t, []byte{9}, segOf(), []byte{0, 80, 4, 0, 0, 0, 0, 1, 0, 0, 0, 2, 0x50, 2, 2, 0, 0xa0, 0xaa, 0, 0, 9})
	wantPush(t, []byte{9}, dgramOf(), []byte{0, 53, 4, 0, 0, 9, 0xf2, 0xc1, 9})
}

// P12.2: Push is the kind's bytes and the payload behind them, and Pop the way back, however much there is, up to MaxPacket.
func TestPushAndPopOfEachKind(t *testing.T) {
	for _, h := range each() {
		size := sizes[h.Kind]
		for _, n := range []int{0, 1, 2, 3, 40, 255, api.MaxPacket - size - 1, api.MaxPacket - size} {
			for _, payload := range [][]byte{counted(n), make([]byte, n)} {
				want := put(t, payload, h)
				wantPush(t, payload, h, want)
				wantPop(t, want, h, payload)
			}
		}
	}
}

// P12.2: one byte more than MaxPacket has no room, and much more neither.
func TestPushBeyondMaxPacket(t *testing.T) {
	for _, h := range each() {
		size := sizes[h.Kind]
		for _, n := range []int{api.MaxPacket - size + 1, api.MaxPacket, api.MaxPacket + 1, 65535 - size, 65536, 1 << 17} {
			wantNoPush(t, make([]byte, n), h, api.ErrNoRoom)
			wantNoStack(t, make([]byte, n), api.ErrNoRoom, h)
		}
	}
}

// P12.2: what Check says is told ahead of there being no room.
func TestPushTellsInOrder(t *testing.T) {
	for _, n := range []int{0, 1, api.MaxPacket, api.MaxPacket + 1, 1 << 17} {
		p := make([]byte, n)
		for _, w := range wrongs() {
			wantNoPush(t, p, w.head, w.want)
		}
		for kind := range 256 {
			if kind < 1 || kind > 6 {
				wantNoPush(t, p, api.Head{Kind: uint8(kind)}, api.ErrHead)
			}
		}
	}
	for _, n := range []int{0, api.MaxPacket + 1} {
		for _, h := range each() {
			for _, m := range mixed(h) {
				wantNoPush(t, make([]byte, n), m, api.ErrHead)
			}
		}
	}
}

// P12.2: a kind that is none is told ahead of what is wrong with the packet.
func TestPopOfNoKind(t *testing.T) {
	for kind := range 256 {
		if kind >= 1 && kind <= 6 {
			continue
		}
		for _, p := range [][]byte{nil, {1}, counted(60), put(t, nil, linkOf(0)), make([]byte, api.MaxPacket+1)} {
			wantNoPop(t, p, uint8(kind), api.ErrHead)
		}
	}
}

// P12.2: fewer bytes than a header has are none, whatever room is behind them.
func TestPopOfTooFew(t *testing.T) {
	for _, h := range each() {
		p := put(t, counted(9), h)
		for n := range sizes[h.Kind] {
			wantNoPop(t, p[:n], h.Kind, api.ErrShort)
			wantNoPop(t, make([]byte, n), h.Kind, api.ErrShort)
		}
		wantNoPop(t, nil, h.Kind, api.ErrShort)
	}
}

// P12.2: Pop refuses what the kind's Read refuses, by its error.
func TestPopTellsEachError(t *testing.T) {
	for _, x := range []struct {
		head api.Head
		at   int
		by   byte
		want api.Errno
	}{
		{tagOf(0), 0, 0x10, api.ErrTag},
		{net4Of(6), 0, 1, api.ErrNet4}, {net4Of(6), 3, 1, api.ErrNet4}, {net4Of(6), 6, 0x40, api.ErrNet4}, {net4Of(6), 10, 1, api.ErrSum}, {net4Of(6), 19, 1, api.ErrSum},
		{net6Of(6), 0, 0x20, api.ErrNet6}, {net6Of(6), 5, 1, api.ErrNet6},
		{segOf(), 12, 0x80, api.ErrSeg}, {segOf(), 13, 0x40, api.ErrSeg}, {segOf(), 19, 1, api.ErrSeg}, {segOf(), 17, 1, api.ErrSum}, {segOf(), 22, 1, api.ErrSum},
		{dgramOf(), 5, 1, api.ErrDgram}, {dgramOf(), 7, 1, api.ErrSum}, {dgramOf(), 9, 1, api.ErrSum},
	} {
		p := turned(put(t, counted(9), x.head), x.at, x.by)
		wantNoPop(t, p, x.head.Kind, x.want)
		for _, q := range rooms(t, p) {
			wantNoOff(t, q, x.head.Kind, x.want)
		}
	}
}

// P12.2: Pop reads as the kind that is asked for, of all the bytes, whatever header was put there.
func TestPopAsEachKind(t *testing.T) {
	for _, h := range each() {
		for _, n := range []int{0, 1, 50} {
			p := put(t, counted(n), h)
			for kind := api.HeadLink; kind <= api.HeadDgram; kind++ {
				g, e := kindsRead(p, kind)
				if e != api.OK {
					wantNoPop(t, p, kind, e)
				} else {
					wantPop(t, p, g, p[sizes[kind]:])
				}
			}
		}
	}
	for _, h := range []api.Head{net4Of(6), net6Of(6), segOf(), dgramOf()} {
		p := append(put(t, counted(8), h), 1)
		_, e := kindsRead(p, h.Kind)
		if e == api.OK {
			t.Errorf("a byte behind all that %v tells is read", h)
		}
		wantNoPop(t, p, h.Kind, e)
	}
}

// P12.2: Pop asks for no more than Read does, so it takes from more than a packet, too.
func TestPopOfMoreThanAPacket(t *testing.T) {
	for _, n := range []int{api.MaxPacket, 5000, 1 << 17} {
		wantPop(t, append(put(t, nil, linkOf(0x0806)), counted(n)...), linkOf(0x0806), counted(n))
		wantPop(t, append(put(t, nil, tagOf(0x0806)), counted(n)...), tagOf(0x0806), counted(n))
		wantNoPop(t, append(put(t, nil, net4Of(1)), counted(n)...), api.HeadNet4, api.ErrNet4)
	}
}

// P12.3: the first header of the list stands first, each over all that is behind it.
func TestStackOfEachKind(t *testing.T) {
	all := []api.Head{linkOf(0x8100), tagOf(0x0800), net4Of(41), net6Of(6), segOf(), dgramOf()}
	for i := range len(all) + 1 {
		for j := i; j <= len(all); j++ {
			for _, n := range []int{0, 1, 100} {
				wantStack(t, counted(n), put(t, counted(n), all[i:j]...), all[i:j]...)
			}
		}
	}
	back := slices.Clone(all)
	slices.Reverse(back)
	wantStack(t, counted(3), put(t, counted(3), back...), back...)

	p := put(t, counted(3), all...)
	for _, h := range all {
		_, rest, e := Pop(p, h.Kind)
		if e != api.OK {
			t.Errorf("Pop of %v: %d", h, e)
		}
		wantPop(t, p, h, rest)
		p = rest
	}
	if !bytes.Equal(p, counted(3)) {
		t.Errorf("what is left is %x", p)
	}
}

// P12.3: headers need not say one another.
func TestStackOfWhatFollowsNothing(t *testing.T) {
	l := []api.Head{dgramOf(), linkOf(0), linkOf(0), segOf(), net6Of(0), net4Of(0), tagOf(0)}
	wantStack(t, []byte{7}, put(t, []byte{7}, l...), l...)
}

// P12.3: no headers leave what was there, of whatever length.
func TestStackOfNone(t *testing.T) {
	for _, n := range []int{0, 1, api.MaxPacket, api.MaxPacket + 1} {
		wantStack(t, counted(n), counted(n))
		wantStack(t, counted(n), counted(n), []api.Head{}...)
	}
	wantStack(t, nil, nil)
}

// P12.3: eight headers may be, nine are too many, whatever they and the packet are.
func TestStackOfEightAndNine(t *testing.T) {
	for _, h := range each() {
		eight := slices.Repeat([]api.Head{h}, 8)
		for _, n := range []int{0, 5, api.MaxPacket - 8*sizes[h.Kind]} {
			wantStack(t, counted(n), put(t, counted(n), eight...), eight...)
		}
		wantNoStack(t, counted(api.MaxPacket-8*sizes[h.Kind]+1), api.ErrNoRoom, eight...)
	}
	for _, h := range append(each(), api.Head{}, api.Head{Kind: 7}, wrongs()[0].head) {
		for _, n := range []int{9, 10, 100, 1000} {
			wantNoStack(t, nil, api.ErrMany, slices.Repeat([]api.Head{h}, n)...)
			wantNoStack(t, make([]byte, api.MaxPacket+1), api.ErrMany, slices.Repeat([]api.Head{h}, n)...)
		}
	}
}

// P12.3: of several errors that of the header nearest the end of the list comes first, at each place.
func TestStackTellsTheFirstError(t *testing.T) {
	good := slices.Repeat([]api.Head{tagOf(0)}, 8)
	for i := range good {
		for _, w := range append(wrongs(), refused{api.Head{}, api.ErrHead}, refused{api.Head{Kind: 200}, api.ErrHead}) {
			l := slices.Clone(good)
			l[i] = w.head
			wantNoStack(t, counted(3), w.want, l...)
			for j := range i {
				for _, v := range wrongs() {
					both := slices.Clone(l)
					both[j] = v.head
					wantNoStack(t, counted(3), w.want, both...)
				}
			}
		}
	}
}

// P12.3: the room may be gone ahead of a wrong header, or a wrong one ahead of the room being gone.
func TestStackTellsRoomAndHeadersInOrder(t *testing.T) {
	flow := api.Head{Kind: api.HeadNet6, Net6: api.Net6{Flow: 1 << 20}}
	for room := range 9 {
		// Just so many tags have room.
		p := counted(api.MaxPacket - 4*room)
		for at := range 8 {
			l := slices.Repeat([]api.Head{tagOf(0)}, 8)
			l[at] = flow
			if behind := 7 - at; behind <= room {
				wantNoStack(t, p, api.ErrNet6, l...)
			} else {
				wantNoStack(t, p, api.ErrNoRoom, l...)
			}
		}
	}
}

// P12.4: On does what Push does, in one move, with room ahead and without; Off takes it off again.
func TestOnAndOffOfEachKind(t *testing.T) {
	for _, h := range each() {
		size := sizes[h.Kind]
		for _, n := range []int{0, 1, 2, 33, api.MaxPacket - size} {
			want := put(t, counted(n), h)
			for _, p := range rooms(t, counted(n)) {
				wantOn(t, p, h, want)
				wantOff(t, p, h, counted(n))
				wantPacket(t, p, counted(n), 2)
			}
			for _, p := range rooms(t, want) {
				wantOff(t, p, h, counted(n))
				wantOn(t, p, h, want)
				wantPacket(t, p, want, 2)
			}
		}
	}
}

// P12.4: room is taken where there is enough, and given back; else the packet is laid anew, as by Head.
func TestOnAndOffMoveAsHead(t *testing.T) {
	for _, h := range each() {
		size := sizes[h.Kind]
		for _, head := range []int{0, 1, size - 1, size, size + 1, 100, 256} {
			p, q := packetOf(t, counted(9), head, 3), packetOf(t, counted(9), head, 3)
			wantOn(t, p, h, put(t, counted(9), h))
			q.Head(size)
			wantRoom(t, p, q)
			wantOff(t, p, h, counted(9))
			q.Head(-size)
			wantRoom(t, p, q)
		}
	}
}

func wantRoom(t *testing.T, p, q *packet.Packet) {
	t.Helper()
	a, b := p.Room()
	c, d := q.Room()
	if a != c || b != d {
		t.Errorf("room %d, %d, not %d, %d", a, b, c, d)
	}
}

// P12.4: a packet that is none is told ahead of all else.
func TestOnAndOffOfNone(t *testing.T) {
	for _, none := range []*packet.Packet{nil, {}} {
		for _, h := range append(each(), api.Head{}, api.Head{Kind: 7}) {
			wantNoOn(t, none, h, api.ErrNil)
			wantNoOff(t, none, h.Kind, api.ErrNil)
		}
		for _, w := range wrongs() {
			wantNoOn(t, none, w.head, api.ErrNil)
		}
		for kind := range 256 {
			wantNoOff(t, none, uint8(kind), api.ErrNil)
		}
	}
}

// P12.4: a packet without bytes is not none.
func TestOnAndOffOfEmpty(t *testing.T) {
	for _, p := range rooms(t, nil) {
		wantNoOff(t, p, api.HeadTag, api.ErrShort)
		wantNoOff(t, p, 0, api.ErrHead)
		wantOn(t, p, tagOf(0), []byte{0xa1, 0x23, 0, 0})
		wantOff(t, p, tagOf(0), nil)
		wantNoOff(t, p, api.HeadTag, api.ErrShort)
	}
}

// P12.4: On refuses as Push does, in that order, and the packet is as it was.
func TestOnTellsInOrder(t *testing.T) {
	for _, n := range []int{0, 1, api.MaxPacket} {
		for _, room := range []int{0, 256} {
			p := packetOf(t, counted(n), room, room)
			for _, w := range wrongs() {
				wantNoOn(t, p, w.head, w.want)
				for _, m := range mixed(w.head) {
					wantNoOn(t, p, m, api.ErrHead)
				}
			}
			for kind := range 256 {
				if kind < 1 || kind > 6 {
					wantNoOn(t, p, api.Head{Kind: uint8(kind)}, api.ErrHead)
				}
			}
			wantPacket(t, p, counted(n), 0)
		}
	}
	for _, h := range each() {
		for _, room := range []int{0, 256} {
			for _, over := range []int{1, sizes[h.Kind]} {
				wantNoOn(t, packetOf(t, counted(api.MaxPacket-sizes[h.Kind]+over), room, 0), h, api.ErrNoRoom)
			}
		}
	}
}

// P12.4: Off refuses as Pop does, in that order, and the packet is as it was.
func TestOffTellsInOrder(t *testing.T) {
	for _, b := range [][]byte{nil, {1}, counted(60), put(t, nil, linkOf(0)), make([]byte, api.MaxPacket)} {
		for _, room := range []int{0, 256} {
			p := packetOf(t, b, room, room)
			for kind := range 256 {
				if kind < 1 || kind > 6 {
					wantNoOff(t, p, uint8(kind), api.ErrHead)
				}
			}
			wantPacket(t, p, b, 0)
		}
	}
	for _, h := range each() {
		b := put(t, counted(9), h)
		for n := range sizes[h.Kind] {
			wantNoOff(t, packetOf(t, b[:n], 50, 50), h.Kind, api.ErrShort)
		}
	}
}

// P12.4: headers one on the other and off again, as a stack.
func TestOnAndOffOfSeveral(t *testing.T) {
	l := []api.Head{linkOf(0x8100), tagOf(0x8100), tagOf(0x0800), net4Of(17), dgramOf()}
	for _, p := range rooms(t, counted(7)) {
		for i := len(l) - 1; i >= 0; i-- {
			wantOn(t, p, l[i], put(t, counted(7), l[i:]...))
		}
		for i := range l {
			wantOff(t, p, l[i], put(t, counted(7), l[i+1:]...))
		}
		wantPacket(t, p, counted(7), 2*len(l))
	}
}

// P12.5: bytes that are handed in are only read, their spare room too, done or refused.
func TestOnlyReadsBytes(t *testing.T) {
	for _, h := range append(each(), wrongs()[0].head, api.Head{}) {
		for _, n := range []int{0, 1, 50, api.MaxPacket} {
			all := counted(n + 120)
			if b, e := kindsBytes(h, counted(n/2)); e == api.OK {
				copy(all[60:], append(bytes.Clone(b), counted(n/2)...))
			}
			was := bytes.Clone(all)
			p := all[60 : 60+n]
			b, _ := Push(p, h)
			_ = append(b, 1, 2, 3)
			for kind := range uint8(8) {
				_, rest, _ := Pop(p, kind)
				clear(rest)
				_ = append(rest, 1, 2, 3)
			}
			s, _ := Stack(p, h, h)
			clear(s)
			s, _ = Stack(p)
			clear(s)
			_ = append(s, 1, 2, 3)
			if !bytes.Equal(all, was) {
				t.Errorf("what was handed in became %x, and was %x", all, was)
			}
		}
	}
}

// P12.5: a list that is handed in is only read, its spare room too, done or refused.
func TestOnlyReadsLists(t *testing.T) {
	for _, l := range [][]api.Head{
		{linkOf(1), tagOf(2), net4Of(3), dgramOf()},
		{linkOf(1), wrongs()[0].head, net4Of(3), dgramOf()},
		slices.Repeat([]api.Head{tagOf(0)}, 10),
		{},
	} {
		all := append(append([]api.Head{segOf()}, l...), net6Of(9), segOf())
		was := slices.Clone(all)
		Stack(counted(5), all[1:1+len(l)]...)
		if !slices.Equal(all, was) {
			t.Errorf("the list became %v, and was %v", all, was)
		}
	}
}

// P12.5: what is answered is new memory: neither what was handed in nor another answer shows in it.
func TestAnswersNewMemory(t *testing.T) {
	for _, h := range each() {
		p := counted(20)
		with := put(t, p, h)
		first, _ := Push(p, h)
		second, _ := Push(p, h)
		third, _ := Stack(p, h)
		fourth, _ := Stack(p)
		_, fifth, _ := Pop(with, h.Kind)
		_, sixth, _ := Pop(with, h.Kind)
		clear(p)
		clear(first)
		clear(fifth)
		clear(with)
		want := put(t, counted(20), h)
		for i, b := range [][]byte{second, third} {
			if !bytes.Equal(b, want) {
				t.Errorf("answer %d became %x", i, b)
			}
		}
		for i, b := range [][]byte{fourth, sixth} {
			if !bytes.Equal(b, counted(20)) {
				t.Errorf("answer %d became %x", i, b)
			}
		}
	}
}

// someHead is a header of some kind, the same in every run.
func someHead(r *rand.Rand) api.Head {
	h := api.Head{Kind: 1 + uint8(r.Intn(6))}
	some := func() uint16 { return uint16(r.Intn(1 << 16)) }
	switch h.Kind {
	case api.HeadLink:
		h.Link.Type = some()
		r.Read(h.Link.Dst[:])
		r.Read(h.Link.Src[:])
	case api.HeadTag:
		h.Tag = api.Tag{Prio: uint8(r.Intn(8)), Id: uint16(r.Intn(4096)), Type: some()}
	case api.HeadNet4:
		h.Net4 = api.Net4{Tos: uint8(some()), Ttl: uint8(some()), Proto: uint8(some()), Id: some()}
		r.Read(h.Net4.Src[:])
		r.Read(h.Net4.Dst[:])
	case api.HeadNet6:
		h.Net6 = api.Net6{Class: uint8(some()), Flow: uint32(r.Intn(1 << 20)), Next: uint8(some()), Hops: uint8(some())}
		r.Read(h.Net6.Src[:])
		r.Read(h.Net6.Dst[:])
	case api.HeadSeg:
		h.Seg = api.Seg{SrcPort: some(), DstPort: some(), Seq: r.Uint32(), Ack: r.Uint32(), Flags: uint8(r.Intn(64)), Window: some()}
	case api.HeadDgram:
		h.Dgram = api.Dgram{SrcPort: some(), DstPort: some()}
	}
	return h
}

// P12.6, W6: Pop of what Push put on tells that header, and leaves what was there; so do On and Off, whatever room there is.
func TestThereAndBack(t *testing.T) {
	r := rand.New(rand.NewSource(12))
	for range 3000 {
		h := someHead(r)
		payload := make([]byte, r.Intn(1+r.Intn(2000)))
		r.Read(payload)
		with, e := Push(payload, h)
		if e != api.OK {
			t.Fatalf("Push of %v on %d bytes: %d", h, len(payload), e)
		}
		wantPop(t, with, h, payload)
		p := packetOf(t, payload, r.Intn(60), r.Intn(60))
		wantOn(t, p, h, with)
		wantOff(t, p, h, payload)
	}
}

// P12.6, W6: Push of what Pop tells is what was there, whatever it was that was read; so are Off and On.
func TestBackAndThere(t *testing.T) {
	r := rand.New(rand.NewSource(122))
	done := 0
	for range 20000 {
		p := make([]byte, r.Intn(80))
		r.Read(p)
		if r.Intn(2) == 0 {
			p = put(t, p, someHead(r))
			p[r.Intn(len(p))] ^= byte(r.Intn(2) << r.Intn(8))
		}
		kind := uint8(r.Intn(8))
		own := packetOf(t, p, r.Intn(60), r.Intn(60))
		h, rest, e := Pop(p, kind)
		if e != api.OK {
			wantNoPop(t, p, kind, e)
			wantNoOff(t, own, kind, e)
			continue
		}
		done++
		wantPush(t, rest, h, p)
		wantOff(t, own, h, rest)
		wantOn(t, own, h, p)
	}
	if done < 2000 {
		t.Errorf("only %d were read", done)
	}
}

// P12.6: a packet to which On and Off are done, in any order, refused or not, has what Push and Pop make of its bytes.
func TestOnAndOffAsPushAndPop(t *testing.T) {
	r := rand.New(rand.NewSource(1222))
	for range 300 {
		b := counted(r.Intn(100))
		p := packetOf(t, b, r.Intn(257), r.Intn(257))
		moves := 0
		var kinds []uint8
		for range 60 {
			h := someHead(r)
			if r.Intn(2) == 0 {
				c, want := Push(b, h)
				if e := On(p, h); e != want {
					t.Fatalf("On of %v: %d, not %d", h, e, want)
				}
				if want == api.OK {
					b, kinds, moves = c, append(kinds, h.Kind), moves+1
				}
			} else {
				kind := h.Kind
				if len(kinds) > 0 && r.Intn(3) > 0 {
					kind = kinds[len(kinds)-1]
				}
				g, c, want := Pop(b, kind)
				if f, e := Off(p, kind); f != g || e != want {
					t.Fatalf("Off of %d: %v, %d, not %v, %d", kind, f, e, g, want)
				}
				if want == api.OK {
					b, moves = c, moves+1
					kinds = kinds[:max(0, len(kinds)-1)]
				}
			}
			wantPacket(t, p, b, moves)
		}
	}
}
