package mesh_test

import (
	"bytes"
	"encoding/binary"
	"hash/crc32"
	"math"
	"math/rand"
	"slices"
	"strconv"
	"testing"

	"mesh/api"
	"mesh/mesh"
)

// records has records and their bytes; the first one is the document's example.
var records = []struct {
	name   string
	record api.Record
	bytes  string
}{
	{"the document's example", api.Record{Own: true, Seq: 1}, "01 00000000 00000001 8675307b"},
	{"own, least", api.Record{Own: true}, "01 00000000 00000000 f17200ed"},
	{"own, greatest", api.Record{Own: true, Seq: math.MaxUint32}, "01 00000000 ffffffff 2fc9200e"},
	{"own, four unlike bytes", api.Record{Own: true, Seq: 0x41424344}, "01 00000000 41424344 0b21ff54"},
	{"other", api.Record{Addr: 5, Seq: 7}, "02 00000005 00000007 9e7b26fb"},
	{"other, of all zeros", api.Record{}, "02 00000000 00000000 c8ff3c28"},
	{"other, of address 0", api.Record{Seq: 9}, "02 00000000 00000009 b123848c"},
	{"other, greatest", api.Record{Addr: math.MaxUint32, Seq: math.MaxUint32}, "02 ffffffff ffffffff 8c993c5d"},
	{"other, eight unlike bytes", api.Record{Addr: 0x11121314, Seq: 0x21222324}, "02 11121314 21222324 39600868"},
}

// summed is nine bytes, whatever they are, with their right sum behind them.
func summed(kind byte, addr, seq uint32) []byte {
	b := binary.BigEndian.AppendUint32([]byte{kind}, addr)
	b = binary.BigEndian.AppendUint32(b, seq)
	return binary.BigEndian.AppendUint32(b, crc32.ChecksumIEEE(b))
}

// journalOf is what A RECORD and P6 say once more, by the library's sum and numbers, so that ReadJournal is held against something that is not of its making.
func journalOf(b []byte) (l []api.Record, n int) {
	for ; len(b)-n >= 13; n += 13 {
		r := b[n : n+13]
		addr, seq := binary.BigEndian.Uint32(r[1:]), binary.BigEndian.Uint32(r[5:])
		if binary.BigEndian.Uint32(r[9:]) != crc32.ChecksumIEEE(r[:9]) {
			return l, n
		}
		switch {
		case r[0] == 1 && addr == 0:
			l = append(l, api.Record{Own: true, Seq: seq})
		case r[0] == 2:
			l = append(l, api.Record{Addr: addr, Seq: seq})
		default:
			return l, n
		}
	}
	return l, n
}

func wantJournal(t *testing.T, name string, b []byte, want []api.Record, bytes int) {
	t.Helper()
	if l, n := mesh.ReadJournal(b); !slices.Equal(l, want) || n != bytes {
		t.Errorf("%s: ReadJournal(%x) = %v, %d, want %v, %d", name, b, l, n, want, bytes)
	}
}

// allRecords is a journal of all that records has, and its records.
func allRecords(t testing.TB) (b []byte, l []api.Record) {
	for _, c := range records {
		b = append(b, unhex(t, c.bytes)...)
		l = append(l, c.record)
	}
	return b, l
}

// P5: both kinds, the least and the greatest numbers, the document's sum.
func TestWriteRecord(t *testing.T) {
	for _, c := range records {
		if b := mesh.WriteRecord(c.record); !bytes.Equal(b, unhex(t, c.bytes)) {
			t.Errorf("%s: WriteRecord = %x, want %s", c.name, b, c.bytes)
		}
	}
}

// P5: the address of one's own is written as 0, whatever it has.
func TestWriteRecordOwnAddress(t *testing.T) {
	for _, seq := range []uint32{0, 1, 0x41424344, math.MaxUint32} {
		want := summed(1, 0, seq)
		for bit := range 32 {
			for _, addr := range []uint32{1 << bit, ^uint32(1 << bit), math.MaxUint32} {
				if b := mesh.WriteRecord(api.Record{Own: true, Addr: addr, Seq: seq}); !bytes.Equal(b, want) {
					t.Errorf("own, address %x: WriteRecord = %x, want %x", addr, b, want)
				}
			}
		}
	}
}

// P5: the sum, with each value of each byte.
func TestWriteRecordSum(t *testing.T) {
	for place := range 4 {
		for v := range uint32(256) {
			n := v << (8 * place)
			for _, rest := range []uint32{0, 0x01020304, math.MaxUint32} {
				for _, r := range []api.Record{{Addr: n, Seq: rest}, {Addr: rest, Seq: n}} {
					if b, want := mesh.WriteRecord(r), summed(2, r.Addr, r.Seq); !bytes.Equal(b, want) {
						t.Fatalf("WriteRecord(%v) = %x, want %x", r, b, want)
					}
				}
			}
			if b, want := mesh.WriteRecord(api.Record{Own: true, Seq: n}), summed(1, 0, n); !bytes.Equal(b, want) {
				t.Fatalf("own number %d: WriteRecord = %x, want %x", n, b, want)
			}
		}
	}
}

// P6: journals of none and of one record.
func TestReadJournalShort(t *testing.T) {
	wantJournal(t, "nil", nil, nil, 0)
	wantJournal(t, "empty", []byte{}, nil, 0)
	for _, c := range records {
		wantJournal(t, c.name, unhex(t, c.bytes), []api.Record{c.record}, 13)
	}
}

// P6: several records of both kinds, in their order, also where they are the same; each length of their bytes.
func TestReadJournalSeveral(t *testing.T) {
	b, l := allRecords(t)
	b, l = append(b, b...), append(l, l...)
	for n := range len(b) + 1 {
		// With no bytes to spare behind it, and with them.
		wantJournal(t, "cut", b[:n:n], l[:n/13], n/13*13)
		wantJournal(t, "cut", b[:n], l[:n/13], n/13*13)
	}
}

// P6: many records.
func TestReadJournalMany(t *testing.T) {
	var b []byte
	var l []api.Record
	for i := range uint32(5000) {
		r := api.Record{Addr: i, Seq: i * i}
		b, l = append(b, mesh.WriteRecord(r)...), append(l, r)
	}
	wantJournal(t, "many", b, l, 13*5000)
}

// P6: an address 0, and any other, in a record of another.
func TestReadJournalOtherAddress(t *testing.T) {
	for bit := range 33 {
		addr := uint32(uint64(1) << bit) // the last one is 0
		wantJournal(t, "address", summed(2, addr, 3), []api.Record{{Addr: addr, Seq: 3}}, 13)
	}
}

// ends are thirteen bytes that are no record, though nothing but that is wrong with them.
func ends() map[string][]byte {
	m := map[string][]byte{
		"all zeros":                make([]byte, 13),
		"all ones":                 bytes.Repeat([]byte{0xff}, 13),
		"sum of 0":                 append(summed(1, 0, 1)[:9], 0, 0, 0, 0),
		"sum not turned":           append(summed(1, 0, 1)[:9], 0x79, 0x8a, 0xcf, 0x84),
		"sum, lowest byte first":   append(summed(1, 0, 1)[:9], 0x7b, 0x30, 0x75, 0x86),
		"number, lowest first":     append([]byte{1, 0, 0, 0, 0, 1, 0, 0, 0}, 0x86, 0x75, 0x30, 0x7b),
		"sum of another record":    append(summed(1, 0, 1)[:9], summed(1, 0, 2)[9:]...),
		"sum of the other kind":    append(summed(1, 0, 1)[:9], summed(2, 0, 1)[9:]...),
		"sum of a written address": append(summed(1, 5, 1)[:9], summed(1, 0, 1)[9:]...),
	}
	for v := range 256 {
		if v != 1 && v != 2 {
			m["first byte "+strconv.Itoa(v)] = summed(byte(v), 0, 1)
		}
	}
	for bit := range 32 {
		m["own, address bit "+strconv.Itoa(bit)] = summed(1, 1<<bit, 1)
		m["own, all address bits but "+strconv.Itoa(bit)] = summed(1, ^uint32(1<<bit), 1)
		wrong := summed(2, 7, 1)
		wrong[9+bit/8] ^= 1 << (bit % 8)
		m["sum bit "+strconv.Itoa(bit)] = wrong
	}
	return m
}

// P6: reading ends at each thing that is no record, first of all or behind records; what is behind it is not read, however good it is.
func TestReadJournalEnds(t *testing.T) {
	good, l := allRecords(t)
	for name, end := range ends() {
		wantJournal(t, name, end, nil, 0)
		wantJournal(t, name, slices.Concat(end, good), nil, 0)
		wantJournal(t, name, slices.Concat(good, end), l, len(good))
		wantJournal(t, name, slices.Concat(good, end, good), l, len(good))
	}
	// A byte too many between records.
	wantJournal(t, "between", slices.Concat(good, []byte{1}, good), l, len(good))
	wantJournal(t, "ahead", slices.Concat([]byte{2}, good), nil, 0)
}

// P1, P6: each bit of a journal turned: what stands ahead of it is read, and no more.
func TestReadJournalEachBit(t *testing.T) {
	b, l := allRecords(t)
	for i := range b {
		for bit := range 8 {
			b[i] ^= 1 << bit
			wantJournal(t, "turned", b, l[:i/13], i/13*13)
			b[i] ^= 1 << bit
		}
	}
}

// P5, P6: what is written is read again, whatever the numbers.
func TestJournalBack(t *testing.T) {
	random := rand.New(rand.NewSource(1))
	for range 2000 {
		var b []byte
		var l []api.Record
		for range random.Intn(6) {
			r := api.Record{Own: random.Intn(2) == 0, Addr: random.Uint32(), Seq: random.Uint32()}
			b = append(b, mesh.WriteRecord(r)...)
			if r.Own {
				r.Addr = 0
			}
			l = append(l, r)
		}
		wantJournal(t, "back", b, l, 13*len(l))
	}
}

// compactions has lists and what is kept of them.
var compactions = []struct {
	name    string
	l, want []api.Record
}{
	{"nil", nil, nil},
	{"none", []api.Record{}, nil},
	{"own", []api.Record{{Own: true, Seq: 7}}, []api.Record{{Own: true, Seq: 7}}},
	{"own, 0", []api.Record{{Own: true}}, []api.Record{{Own: true}}},
	{"own, with an address", []api.Record{{Own: true, Addr: 9, Seq: 7}}, []api.Record{{Own: true, Seq: 7}}},
	{"own, with unlike addresses",
		[]api.Record{{Own: true, Addr: 9, Seq: 7}, {Own: true, Addr: 8, Seq: 6}, {Own: true, Seq: 5}},
		[]api.Record{{Own: true, Seq: 7}}},
	{"own, rising", []api.Record{{Own: true, Seq: 1}, {Own: true, Seq: 2}, {Own: true, Seq: 3}}, []api.Record{{Own: true, Seq: 3}}},
	{"own, lesser behind greater", []api.Record{{Own: true, Seq: 3}, {Own: true, Seq: 1}, {Own: true, Seq: 2}}, []api.Record{{Own: true, Seq: 3}}},
	{"own, equal", []api.Record{{Own: true, Seq: 3}, {Own: true, Seq: 3}}, []api.Record{{Own: true, Seq: 3}}},
	{"own, greatest of all", []api.Record{{Own: true, Seq: 1}, {Own: true, Seq: math.MaxUint32}, {Own: true, Seq: 1 << 31}}, []api.Record{{Own: true, Seq: math.MaxUint32}}},
	{"another", []api.Record{{Addr: 5, Seq: 7}}, []api.Record{{Addr: 5, Seq: 7}}},
	{"another, number 0", []api.Record{{Addr: 5}}, []api.Record{{Addr: 5}}},
	{"another, address 0", []api.Record{{Seq: 4}, {Seq: 9}, {Seq: 6}}, []api.Record{{Seq: 9}}},
	{"another, of all zeros", []api.Record{{}}, []api.Record{{}}},
	{"another, lesser and equal behind greater",
		[]api.Record{{Addr: 5, Seq: 7}, {Addr: 5, Seq: 6}, {Addr: 5, Seq: 7}, {Addr: 5}},
		[]api.Record{{Addr: 5, Seq: 7}}},
	{"others, out of order",
		[]api.Record{{Addr: 1 << 31, Seq: 1}, {Addr: 3, Seq: 9}, {Addr: math.MaxUint32, Seq: 2}, {Addr: 0, Seq: 8}, {Addr: 256, Seq: 3}, {Addr: 1, Seq: 4}},
		[]api.Record{{Addr: 0, Seq: 8}, {Addr: 1, Seq: 4}, {Addr: 3, Seq: 9}, {Addr: 256, Seq: 3}, {Addr: 1 << 31, Seq: 1}, {Addr: math.MaxUint32, Seq: 2}}},
	{"both, own last, and its address that of another",
		[]api.Record{{Addr: 7, Seq: 1}, {Addr: 5, Seq: 9}, {Addr: 7, Seq: math.MaxUint32}, {Addr: 7, Seq: 2}, {Own: true, Addr: 7, Seq: 4}},
		[]api.Record{{Own: true, Seq: 4}, {Addr: 5, Seq: 9}, {Addr: 7, Seq: math.MaxUint32}}},
	{"both, of address 0",
		[]api.Record{{Seq: 5}, {Own: true, Seq: 3}, {Seq: 2}, {Own: true, Seq: 1}},
		[]api.Record{{Own: true, Seq: 3}, {Seq: 5}}},
}

// P7: no records, one's own alone, others alone, both.
func TestCompact(t *testing.T) {
	for _, c := range compactions {
		if got := mesh.Compact(c.l); !slices.Equal(got, c.want) {
			t.Errorf("%s: Compact(%v) = %v, want %v", c.name, c.l, got, c.want)
		}
	}
}

// P7: what is kept does not hang on the order, and is kept as it is from then on.
func TestCompactOrder(t *testing.T) {
	random := rand.New(rand.NewSource(2))
	for _, c := range compactions {
		l := slices.Clone(c.l)
		for range 50 {
			random.Shuffle(len(l), func(i, j int) { l[i], l[j] = l[j], l[i] })
			if got := mesh.Compact(l); !slices.Equal(got, c.want) {
				t.Errorf("%s: Compact(%v) = %v, want %v", c.name, l, got, c.want)
			}
		}
		if got := mesh.Compact(c.want); !slices.Equal(got, c.want) {
			t.Errorf("%s: Compact(%v) = %v", c.name, c.want, got)
		}
	}
}

// P7: many records of many addresses.
func TestCompactMany(t *testing.T) {
	var l, want []api.Record
	for i := range uint32(20000) {
		l = append(l, api.Record{Addr: i * 7919 % 1000, Seq: i})
	}
	for addr := range uint32(1000) {
		greatest := uint32(0)
		for _, r := range l {
			if r.Addr == addr {
				greatest = max(greatest, r.Seq)
			}
		}
		want = append(want, api.Record{Addr: addr, Seq: greatest})
	}
	if got := mesh.Compact(l); !slices.Equal(got, want) {
		t.Errorf("many: Compact = %v, want %v", got, want)
	}
}

// P2, P7: what is handed in is left as it was, behind its end too.
func TestJournalHandedInStays(t *testing.T) {
	for _, c := range compactions {
		room := append(slices.Clone(c.l), api.Record{Addr: 77, Seq: 77}, api.Record{Own: true, Addr: 78, Seq: 78})
		before := slices.Clone(room)
		for n := range len(room) + 1 {
			mesh.Compact(room[:n])
		}
		if !slices.Equal(room, before) {
			t.Errorf("%s: Compact made %v of %v", c.name, room, before)
		}
	}
	b, _ := allRecords(t)
	before := slices.Clone(b)
	for n := range len(b) + 1 {
		mesh.ReadJournal(b[:n])
	}
	if !bytes.Equal(b, before) {
		t.Errorf("ReadJournal made %x of %x", b, before)
	}
}

// P2: what was handed in is not kept: changing it changes no answer.
func TestJournalHandedInIsNotKept(t *testing.T) {
	b, l := allRecords(t)
	got, _ := mesh.ReadJournal(b)
	clear(b)
	if !slices.Equal(got, l) {
		t.Errorf("changed bytes make the records %v", got)
	}
	for _, c := range compactions {
		in := slices.Clone(c.l)
		got := mesh.Compact(in)
		for i := range in {
			in[i] = api.Record{Addr: 77, Seq: 77}
		}
		if !slices.Equal(got, c.want) {
			t.Errorf("%s: a changed list makes %v", c.name, got)
		}
	}
}

// P2: what comes out is the caller's: changing one answer, and what it has room for, changes no other.
func TestJournalAnswersAreApart(t *testing.T) {
	for _, c := range records {
		want := unhex(t, c.bytes)
		one, two := mesh.WriteRecord(c.record), mesh.WriteRecord(c.record)
		clear(one[:cap(one)])
		if three := mesh.WriteRecord(c.record); !bytes.Equal(two, want) || !bytes.Equal(three, want) {
			t.Errorf("%s: behind a changed answer: %x and %x", c.name, two, three)
		}
	}
	b, l := allRecords(t)
	one, _ := mesh.ReadJournal(b)
	two, _ := mesh.ReadJournal(b)
	clear(one[:cap(one)])
	if three, _ := mesh.ReadJournal(b); !slices.Equal(two, l) || !slices.Equal(three, l) {
		t.Errorf("behind a changed answer: %v and %v", two, three)
	}
	for _, c := range compactions {
		one, two := mesh.Compact(c.l), mesh.Compact(c.l)
		clear(one[:cap(one)])
		if three := mesh.Compact(c.l); !slices.Equal(two, c.want) || !slices.Equal(three, c.want) {
			t.Errorf("%s: behind a changed answer: %v and %v", c.name, two, three)
		}
	}
}

// P1, P6: any bytes at all, with their right sums laid in, so that more than the first record is reached. (go test -fuzz FuzzReadJournal ./mesh)
func FuzzReadJournal(f *testing.F) {
	b, _ := allRecords(f)
	f.Add(b, uint8(0))
	f.Add(b[:30], uint8(3))
	f.Add([]byte{1, 0, 0, 0, 0, 0, 0, 0, 1, 0, 0, 0, 0}, uint8(1))
	f.Fuzz(func(t *testing.T, b []byte, right uint8) {
		b = slices.Clone(b)
		for n := 0; n+13 <= len(b) && n < 13*int(right); n += 13 {
			binary.BigEndian.PutUint32(b[n+9:], crc32.ChecksumIEEE(b[n:n+9]))
		}
		want, bytes := journalOf(b)
		wantJournal(t, "any", b, want, bytes)
		var back []byte
		for _, r := range want {
			back = append(back, mesh.WriteRecord(r)...)
		}
		if !slices.Equal(back, b[:bytes]) {
			t.Errorf("WriteRecord of what ReadJournal gave: %x, want %x", back, b[:bytes])
		}
	})
}
