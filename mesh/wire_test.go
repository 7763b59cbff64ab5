package mesh_test

import (
	"bytes"
	"encoding/hex"
	"math"
	"reflect"
	"slices"
	"strings"
	"testing"

	"mesh/api"
	"mesh/mesh"
)

// frames has packets and their frames, written by hand from the document.
var frames = []struct {
	name   string
	packet api.Packet
	frame  string
}{
	{"the document's example",
		api.Packet{TTL: 1, Kind: api.Lose, Lost: []api.Lost{{Dest: 2, Seq: 7}}},
		"01 03 00 00 01 00000002 00000007"},
	{"request",
		api.Packet{TTL: 3, Kind: api.Request, Hops: 4, ID: 0x01020304, Dest: 0x11121314, DestSeq: 0x21222324, From: 0x31323334, FromSeq: 0x41424344},
		"03 01 00 00 04 01020304 11121314 21222324 31323334 41424344"},
	{"request, unknown",
		api.Packet{TTL: 3, Kind: api.Request, Hops: 4, Unknown: true, ID: 0x01020304, Dest: 0x11121314, From: 0x31323334, FromSeq: 0x41424344},
		"03 01 08 00 04 01020304 11121314 00000000 31323334 41424344"},
	{"request, least", api.Packet{TTL: 1, Kind: api.Request}, "01 01 00 00 00" + strings.Repeat("00", 20)},
	{"request, known and 0", api.Packet{TTL: 1, Kind: api.Request, ID: 1}, "01 01 00 00 00 00000001" + strings.Repeat("00", 16)},
	{"request, greatest",
		api.Packet{TTL: 255, Kind: api.Request, Hops: 255, ID: math.MaxUint32, Dest: math.MaxUint32, DestSeq: math.MaxUint32, From: math.MaxUint32, FromSeq: math.MaxUint32},
		"ff 01 00 00 ff" + strings.Repeat("ff", 20)},
	{"reply",
		api.Packet{TTL: 8, Kind: api.Reply, Hops: 2, Dest: 0x11121314, DestSeq: 0x21222324, From: 0x31323334, Life: 0x51525354},
		"08 02 00 00 02 11121314 21222324 31323334 51525354"},
	{"reply, least", api.Packet{TTL: 1, Kind: api.Reply}, "01 02 00 00 00" + strings.Repeat("00", 16)},
	{"reply, greatest",
		api.Packet{TTL: 255, Kind: api.Reply, Hops: 255, Dest: math.MaxUint32, DestSeq: math.MaxUint32, From: math.MaxUint32, Life: math.MaxUint32},
		"ff 02 00 00 ff" + strings.Repeat("ff", 16)},
	{"lose, of all zeros", api.Packet{TTL: 1, Kind: api.Lose, Lost: make([]api.Lost, 1)}, "01 03 00 00 01 00000000 00000000"},
	{"lose, two in their order",
		api.Packet{TTL: 255, Kind: api.Lose, Lost: []api.Lost{{Dest: 0x81828384, Seq: 0x91929394}, {Dest: 0x01020304, Seq: 0x11121314}}},
		"ff 03 00 00 02 81828384 91929394 01020304 11121314"},
	{"lose, eight", api.Packet{TTL: 1, Kind: api.Lose, Lost: make([]api.Lost, 8)}, "01 03 00 00 08" + strings.Repeat("00", 64)},
	{"data",
		api.Packet{TTL: 8, Kind: api.Data, ID: 0x01020304, Dest: 0x11121314, From: 0x31323334, Payload: "hello"},
		"08 09 00 00 05 01020304 11121314 31323334 68656c6c6f"},
	{"data, empty", api.Packet{TTL: 1, Kind: api.Data}, "01 09 00 00 00" + strings.Repeat("00", 12)},
	{"data, 16 bytes that are no text",
		api.Packet{TTL: 255, Kind: api.Data, ID: math.MaxUint32, Dest: math.MaxUint32, From: math.MaxUint32, Payload: "\x00" + strings.Repeat("\xff", 15)},
		"ff 09 00 00 10" + strings.Repeat("ff", 12) + "00" + strings.Repeat("ff", 15)},
}

func unhex(t testing.TB, s string) []byte {
	t.Helper()
	b, err := hex.DecodeString(strings.ReplaceAll(s, " ", ""))
	if err != nil {
		t.Fatal(err)
	}
	return b
}

// isFrame is the table FRAMES of the document once more, by lengths, so that Decode is held against something that is not of its making.
func isFrame(b []byte) bool {
	if len(b) < 5 || b[0] == 0 || b[3] != 0 {
		return false
	}
	n := int(b[4])
	switch b[1] {
	case 1:
		known := b[2] == 0
		return len(b) == 25 && (known || b[2] == 8 && bytes.Equal(b[13:17], make([]byte, 4)))
	case 2:
		return len(b) == 21 && b[2] == 0
	case 3:
		return n >= 1 && n <= 8 && len(b) == 5+8*n && b[2] == 0
	case 9:
		return n <= 16 && len(b) == 17+n && b[2] == 0
	}
	return false
}

// checkDecode holds Decode(b) against isFrame, and what it reads against Encode; it tells whether that went well.
func checkDecode(t *testing.T, b []byte) bool {
	t.Helper()
	p, err := mesh.Decode(b)
	if !isFrame(b) {
		if err != api.ErrFrame || !reflect.DeepEqual(p, api.Packet{}) {
			t.Errorf("Decode(%x) = %+v, %d, want nothing and ErrFrame", b, p, err)
			return false
		}
		return true
	}
	back, again := mesh.Encode(p)
	if err != api.OK || again != api.OK || !bytes.Equal(back, b) {
		t.Errorf("Decode(%x) = %+v, %d, and Encode of that %x, %d", b, p, err, back, again)
		return false
	}
	return true
}

// wantNoFrame: Encode refuses p, and answers nothing beside.
func wantNoFrame(t *testing.T, name string, p api.Packet) {
	t.Helper()
	if b, err := mesh.Encode(p); b != nil || err != api.ErrFrame {
		t.Errorf("%s: Encode(%+v) = %x, %d, want nothing and ErrFrame", name, p, b, err)
	}
}

// P3: each of the four kinds.
func TestEncodeKinds(t *testing.T) {
	for _, c := range frames {
		if b, err := mesh.Encode(c.packet); err != api.OK || !bytes.Equal(b, unhex(t, c.frame)) {
			t.Errorf("%s: Encode = %x, %d, want %s", c.name, b, err, c.frame)
		}
	}
}

// P3: a list that is empty, but not nil, is empty.
func TestEncodeEmptyList(t *testing.T) {
	for _, c := range frames {
		if c.packet.Kind == api.Lose {
			continue
		}
		c.packet.Lost = []api.Lost{}
		if b, err := mesh.Encode(c.packet); err != api.OK || !bytes.Equal(b, unhex(t, c.frame)) {
			t.Errorf("%s: Encode = %x, %d, want %s", c.name, b, err, c.frame)
		}
	}
}

// P3: TTL and Hops, from bound to bound, and what lies outside, also where its lowest byte would fit.
func TestEncodeBytesBounds(t *testing.T) {
	outside := []int{math.MinInt, math.MinInt32, -256, -255, -1, 256, 257, 511, 512, 1 << 32, 1<<32 + 1, math.MaxInt}
	for _, c := range frames {
		for ttl := 1; ttl <= 255; ttl++ {
			c.packet.TTL = ttl
			if b, err := mesh.Encode(c.packet); err != api.OK || int(b[0]) != ttl {
				t.Errorf("%s: TTL %d: %x, %d", c.name, ttl, b, err)
			}
		}
		for _, ttl := range append(outside, 0) {
			c.packet.TTL = ttl
			wantNoFrame(t, c.name, c.packet)
		}
		c.packet.TTL = 1
		hops := c.packet.Kind == api.Request || c.packet.Kind == api.Reply
		for n := 0; n <= 255 && hops; n++ {
			c.packet.Hops = n
			if b, err := mesh.Encode(c.packet); err != api.OK || int(b[4]) != n {
				t.Errorf("%s: Hops %d: %x, %d", c.name, n, b, err)
			}
		}
		for _, n := range outside {
			c.packet.Hops = n
			wantNoFrame(t, c.name, c.packet)
		}
	}
}

// P3: how many are lost, and how long the payload is.
func TestEncodeCounts(t *testing.T) {
	for n := range 300 {
		p := api.Packet{TTL: 1, Kind: api.Lose, Lost: make([]api.Lost, n)}
		if n < 1 || n > 8 {
			wantNoFrame(t, "lost", p)
		} else if b, err := mesh.Encode(p); err != api.OK || len(b) != 5+8*n || int(b[4]) != n {
			t.Errorf("%d lost: %x, %d", n, b, err)
		}
		p = api.Packet{TTL: 1, Kind: api.Data, Payload: strings.Repeat("x", n)}
		if n > 16 {
			wantNoFrame(t, "payload", p)
		} else if b, err := mesh.Encode(p); err != api.OK || len(b) != 17+n || int(b[4]) != n {
			t.Errorf("payload of %d: %x, %d", n, b, err)
		}
	}
	wantNoFrame(t, "no list", api.Packet{TTL: 1, Kind: api.Lose})
}

// P3: a payload is counted by bytes, not by letters.
func TestEncodePayloadBytes(t *testing.T) {
	wantNoFrame(t, "17 bytes, 9 letters", api.Packet{TTL: 1, Kind: api.Data, Payload: strings.Repeat("é", 8) + "e"})
	if b, err := mesh.Encode(api.Packet{TTL: 1, Kind: api.Data, Payload: strings.Repeat("é", 8)}); err != api.OK || len(b) != 33 {
		t.Errorf("16 bytes, 8 letters: %x, %d", b, err)
	}
}

// P3: each field that a kind has not, set alone and as little as may be.
func TestEncodeForeignFields(t *testing.T) {
	has := map[api.Kind]string{
		api.Request: "Hops Unknown ID Dest DestSeq From FromSeq",
		api.Reply:   "Hops Dest DestSeq From Life",
		api.Lose:    "Lost",
		api.Data:    "ID Dest From Payload",
	}
	set := []struct {
		field string
		do    func(p *api.Packet)
	}{
		{"Hops", func(p *api.Packet) { p.Hops = 1 }},
		{"Unknown", func(p *api.Packet) { p.Unknown = true }},
		{"ID", func(p *api.Packet) { p.ID = 1 }},
		{"Dest", func(p *api.Packet) { p.Dest = 1 }},
		{"DestSeq", func(p *api.Packet) { p.DestSeq = 1 }},
		{"From", func(p *api.Packet) { p.From = 1 }},
		{"FromSeq", func(p *api.Packet) { p.FromSeq = 1 }},
		{"Life", func(p *api.Packet) { p.Life = 1 }},
		{"Lost", func(p *api.Packet) { p.Lost = make([]api.Lost, 1) }},
		{"Payload", func(p *api.Packet) { p.Payload = "\x00" }},
	}
	for kind, fields := range has {
		for _, s := range set {
			p := api.Packet{TTL: 1, Kind: kind}
			if kind == api.Lose {
				p.Lost = make([]api.Lost, 1)
			}
			s.do(&p)
			own := slices.Contains(strings.Fields(fields), s.field)
			if _, err := mesh.Encode(p); own && err != api.OK || !own && err != api.ErrFrame {
				t.Errorf("kind %d with %s: Encode: %d", kind, s.field, err)
			}
		}
	}
}

// P3: DestSeq set though Unknown, each bit of it.
func TestEncodeUnknownWithSeq(t *testing.T) {
	for bit := range 32 {
		wantNoFrame(t, "unknown", api.Packet{TTL: 1, Kind: api.Request, Unknown: true, DestSeq: 1 << bit})
	}
}

// P1, P3: what is no kind, also where its lowest byte would be one.
func TestEncodeNoKind(t *testing.T) {
	wantNoFrame(t, "nothing", api.Packet{})
	for k := -300; k <= 1<<16; k++ {
		if !slices.Contains([]int{1, 2, 3, 9}, k) {
			wantNoFrame(t, "kind", api.Packet{TTL: 1, Kind: api.Kind(k)})
		}
	}
	for _, k := range []int{math.MinInt, 1<<32 + 1, math.MaxInt} {
		wantNoFrame(t, "kind", api.Packet{TTL: 1, Kind: api.Kind(k)})
	}
}

// P1: packets that are far too great.
func TestEncodeGreat(t *testing.T) {
	wantNoFrame(t, "lost", api.Packet{TTL: 1, Kind: api.Lose, Lost: make([]api.Lost, 1<<16+1)})
	wantNoFrame(t, "payload", api.Packet{TTL: 1, Kind: api.Data, Payload: strings.Repeat("x", 1<<16+1)})
}

// P4: each kind read back, and nothing else than what was written.
func TestDecodeKinds(t *testing.T) {
	for _, c := range frames {
		if p, err := mesh.Decode(unhex(t, c.frame)); err != api.OK || !reflect.DeepEqual(p, c.packet) {
			t.Errorf("%s: Decode(%s) = %+v, %d, want %+v", c.name, c.frame, p, err, c.packet)
		}
	}
}

// P1, P4: fewer bytes, and more of them.
func TestDecodeLengths(t *testing.T) {
	for _, c := range frames {
		b := unhex(t, c.frame)
		for n := range b {
			// With no bytes to spare behind it, and with them.
			checkDecode(t, b[:n:n])
			checkDecode(t, b[:n])
		}
		for _, more := range []int{1, 2, 4, 8, 255, 256, 1 << 16} {
			checkDecode(t, append(slices.Clone(b), make([]byte, more)...))
		}
	}
	checkDecode(t, nil)
	checkDecode(t, []byte{})
}

// P4: every byte of every frame, with each of its values: kinds, fixed bytes, TTL 0, counts that say otherwise than what follows.
func TestDecodeEachByte(t *testing.T) {
	for _, c := range frames {
		b := unhex(t, c.frame)
		for i := range b {
			old := b[i]
			for v := range 256 {
				b[i] = byte(v)
				checkDecode(t, b)
			}
			b[i] = old
		}
	}
}

// P4: every kind with every count and every length about it.
func TestDecodeKindsCountsLengths(t *testing.T) {
	for _, fill := range []byte{0, 0xff} {
		for kind := range 12 {
			for count := range 256 {
				for length := 5; length < 90; length++ {
					b := bytes.Repeat([]byte{fill}, length)
					copy(b, []byte{1, byte(kind), 0, 0, byte(count)})
					if !checkDecode(t, b) {
						return
					}
				}
			}
		}
	}
}

// P4: counts out of bounds, though as many bytes follow as they say.
func TestDecodeCountsOutOfBounds(t *testing.T) {
	for count := range 256 {
		lose := append([]byte{1, 3, 0, 0, byte(count)}, make([]byte, 8*count)...)
		data := append([]byte{1, 9, 0, 0, byte(count)}, make([]byte, 12+count)...)
		checkDecode(t, lose)
		checkDecode(t, data)
	}
}

// P2: what is handed in is not written into, not behind its end either.
func TestHandedInStays(t *testing.T) {
	for _, c := range frames {
		room := append(unhex(t, c.frame), bytes.Repeat([]byte{0xa5}, 64)...)
		before := slices.Clone(room)
		for n := range room {
			mesh.Decode(room[:n])
		}
		if !bytes.Equal(room, before) {
			t.Errorf("%s: Decode made %x of %x", c.name, room, before)
		}
	}
	lost := []api.Lost{{Dest: 1, Seq: 2}, {Dest: 3, Seq: 4}, {Dest: 5, Seq: 6}}
	p := api.Packet{TTL: 1, Kind: api.Lose, Lost: lost[:2]}
	mesh.Encode(p)
	if want := []api.Lost{{Dest: 1, Seq: 2}, {Dest: 3, Seq: 4}, {Dest: 5, Seq: 6}}; !slices.Equal(lost, want) || len(p.Lost) != 2 {
		t.Errorf("Encode made %v of the list", lost)
	}
}

// P2: what was handed in is not kept: changing it changes no answer.
func TestHandedInIsNotKept(t *testing.T) {
	for _, c := range frames {
		b := unhex(t, c.frame)
		p, _ := mesh.Decode(b)
		clear(b)
		if !reflect.DeepEqual(p, c.packet) {
			t.Errorf("%s: changed bytes make the packet %+v", c.name, p)
		}
		copied := c.packet
		copied.Lost = slices.Clone(c.packet.Lost)
		frame, _ := mesh.Encode(copied)
		for i := range copied.Lost {
			copied.Lost[i] = api.Lost{Dest: 77, Seq: 77}
		}
		if want := unhex(t, c.frame); !bytes.Equal(frame, want) {
			t.Errorf("%s: a changed list makes the frame %x", c.name, frame)
		}
	}
}

// P2: what comes out is the caller's: changing one answer changes no other.
func TestAnswersAreApart(t *testing.T) {
	for _, c := range frames {
		want := unhex(t, c.frame)
		one, _ := mesh.Encode(c.packet)
		two, _ := mesh.Encode(c.packet)
		clear(one[:cap(one)])
		if three, _ := mesh.Encode(c.packet); !bytes.Equal(two, want) || !bytes.Equal(three, want) {
			t.Errorf("%s: behind a changed answer: %x and %x", c.name, two, three)
		}
		first, _ := mesh.Decode(want)
		second, _ := mesh.Decode(want)
		clear(first.Lost[:cap(first.Lost)])
		if third, _ := mesh.Decode(want); !reflect.DeepEqual(second, c.packet) || !reflect.DeepEqual(third, c.packet) {
			t.Errorf("%s: behind a changed answer: %+v and %+v", c.name, second, third)
		}
	}
}

// P2: answers hang on the arguments alone: not on broken frames and packets that came ahead.
func TestAnswersHangOnArgumentsAlone(t *testing.T) {
	for _, c := range frames {
		mesh.Decode([]byte{1, 3, 0, 0, 2, 1, 1, 1, 1})
		mesh.Encode(api.Packet{TTL: 1, Kind: 4, Hops: 9})
		b, err := mesh.Encode(c.packet)
		if err != api.OK || !bytes.Equal(b, unhex(t, c.frame)) {
			t.Errorf("%s: Encode = %x, %d", c.name, b, err)
		}
		if p, err := mesh.Decode(b); err != api.OK || !reflect.DeepEqual(p, c.packet) {
			t.Errorf("%s: Decode = %+v, %d", c.name, p, err)
		}
	}
}

// P1, P4: any bytes at all. (go test -fuzz FuzzDecode ./mesh)
func FuzzDecode(f *testing.F) {
	for _, c := range frames {
		f.Add(unhex(f, c.frame))
	}
	f.Fuzz(func(t *testing.T, b []byte) { checkDecode(t, b) })
}

// P1, P3: any packet at all: what Encode writes is read back as it was, and what it refuses is refused whole.
func FuzzEncode(f *testing.F) {
	for _, c := range frames {
		p := c.packet
		f.Add(p.TTL, int(p.Kind), p.Hops, p.Unknown, p.ID, p.Dest, p.DestSeq, p.From, p.FromSeq, p.Life, uint8(len(p.Lost)), p.Payload)
	}
	f.Fuzz(func(t *testing.T, ttl, kind, hops int, unknown bool, id, dest, destSeq, from, fromSeq, life uint32, lost uint8, payload string) {
		p := api.Packet{TTL: ttl, Kind: api.Kind(kind), Hops: hops, Unknown: unknown, ID: id, Dest: dest, DestSeq: destSeq, From: from, FromSeq: fromSeq, Life: life, Payload: payload}
		for i := range lost {
			p.Lost = append(p.Lost, api.Lost{Dest: uint32(i) * dest, Seq: id})
		}
		b, err := mesh.Encode(p)
		if err == api.OK {
			if back, err := mesh.Decode(b); err != api.OK || !isFrame(b) || !reflect.DeepEqual(back, p) {
				t.Errorf("Encode(%+v) = %x, and Decode of that %+v, %d", p, b, back, err)
			}
		} else if b != nil || err != api.ErrFrame {
			t.Errorf("Encode(%+v) = %x, %d", p, b, err)
		}
	})
}
