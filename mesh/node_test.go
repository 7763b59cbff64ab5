package mesh_test

import (
	"bytes"
	"fmt"
	"math"
	"reflect"
	"slices"
	"strings"
	"sync"
	"testing"

	"mesh/api"
	"mesh/mesh"
)

const mostTime = math.MaxUint64

// packetText is a packet in short, with all that its kind has.
func packetText(p api.Packet) string {
	switch p.Kind {
	case api.Request:
		seq := fmt.Sprint(p.DestSeq)
		if p.Unknown {
			seq = "?"
		}
		return fmt.Sprintf("ask ttl%d hops%d id%d %d/%s from %d/%d", p.TTL, p.Hops, p.ID, p.Dest, seq, p.From, p.FromSeq)
	case api.Reply:
		return fmt.Sprintf("reply ttl%d hops%d %d/%d for %d life%d", p.TTL, p.Hops, p.Dest, p.DestSeq, p.From, p.Life)
	case api.Lose:
		return fmt.Sprintf("lose ttl%d %v", p.TTL, p.Lost)
	}
	return fmt.Sprintf("data ttl%d id%d %d to %d %q", p.TTL, p.ID, p.From, p.Dest, p.Payload)
}

// outText is what a node does, in short: what is written (new: in the journal's place), frames, texts, what is dropped.
func outText(o api.Out) string {
	var l []string
	if o.Replace {
		l = append(l, "new")
	}
	records, taken := mesh.ReadJournal([]byte(o.Journal))
	if taken != len(o.Journal) {
		l = append(l, fmt.Sprintf("no record: %x", o.Journal[taken:]))
	}
	for _, r := range records {
		if r.Own {
			l = append(l, fmt.Sprintf("own %d", r.Seq))
		} else {
			l = append(l, fmt.Sprintf("%d=%d", r.Addr, r.Seq))
		}
	}
	for _, f := range o.Frames {
		p, err := mesh.Decode([]byte(f.Bytes))
		if err != api.OK {
			l = append(l, fmt.Sprintf("no frame: %x", f.Bytes))
			continue
		}
		l = append(l, fmt.Sprintf("to %d: %s", f.To, packetText(p)))
	}
	for _, c := range o.Came {
		l = append(l, fmt.Sprintf("came %d %q", c.From, c.Text))
	}
	for _, d := range o.Dropped {
		l = append(l, "drop "+reasonText(d))
	}
	return strings.Join(l, "; ")
}

func reasonText(r api.Reason) string {
	return [...]string{"BadFrame", "Again", "NoRoom", "NoRoute", "NoTTL", "NotFound", "Overflow", "Stale", "Silent", "TooMany"}[r]
}

func frameOf(t testing.TB, p api.Packet) []byte {
	t.Helper()
	b, err := mesh.Encode(p)
	if err != api.OK {
		t.Fatalf("Encode(%+v): %d", p, err)
	}
	return b
}

const unknown = -1 // as the number of a request's destination

func request(ttl, hops int, id, dest uint32, seq int64, from, fromSeq uint32) api.Packet {
	p := api.Packet{TTL: ttl, Kind: api.Request, Hops: hops, ID: id, Dest: dest, DestSeq: uint32(seq), From: from, FromSeq: fromSeq}
	if seq == unknown {
		p.Unknown, p.DestSeq = true, 0
	}
	return p
}

func reply(ttl, hops int, dest, seq, from, life uint32) api.Packet {
	return api.Packet{TTL: ttl, Kind: api.Reply, Hops: hops, Dest: dest, DestSeq: seq, From: from, Life: life}
}

func lose(l ...api.Lost) api.Packet {
	return api.Packet{TTL: 1, Kind: api.Lose, Lost: l}
}

func data(ttl int, id, from, dest uint32, text string) api.Packet {
	return api.Packet{TTL: ttl, Kind: api.Data, ID: id, From: from, Dest: dest, Payload: text}
}

// heard is a packet that comes from a neighbour at a time, and what a node does then.
type heard struct {
	at   uint64
	from uint32
	p    api.Packet
	want string
}

func wantHeard(t *testing.T, n *mesh.Node, l ...heard) {
	t.Helper()
	for i, h := range l {
		if got := outText(n.Receive(h.at, h.from, frameOf(t, h.p))); got != h.want {
			t.Errorf("%d: at %d from %d, %s:\n%s, want\n%s", i, h.at, h.from, packetText(h.p), got, h.want)
		}
	}
}

func wantLines(t *testing.T, n *mesh.Node, want ...string) {
	t.Helper()
	var got []string
	for _, x := range n.Routes() {
		got = append(got, lineText(x))
	}
	if !slices.Equal(got, want) {
		t.Errorf("Routes:\n%q, want\n%q", got, want)
	}
}

func wantSeq(t *testing.T, n *mesh.Node, want uint32) {
	t.Helper()
	if got := n.Seq(); got != want {
		t.Errorf("Seq = %d, want %d", got, want)
	}
}

func wantNodeBroken(t *testing.T, n *mesh.Node, now uint64, next uint32, want string) {
	t.Helper()
	if got := outText(n.Broken(now, next)); got != want {
		t.Errorf("Broken(%d, %d):\n%s, want\n%s", now, next, got, want)
	}
}

// newNode is a node that begins at the time 0 without a journal.
func newNode(t testing.TB, self uint32) *mesh.Node {
	t.Helper()
	n, _, err := mesh.NewNode(self, nil, 0)
	if err != api.OK {
		t.Fatalf("NewNode(%d): %d", self, err)
	}
	return n
}

// bootNode is a node that begins out of records, and what it does then.
func bootNode(t testing.TB, self uint32, now uint64, l ...api.Record) (*mesh.Node, string) {
	t.Helper()
	n, out, err := mesh.NewNode(self, written(l...), now)
	if err != api.OK {
		t.Fatalf("NewNode(%d): %d", self, err)
	}
	return n, outText(out)
}

func written(l ...api.Record) (b []byte) {
	for _, r := range l {
		b = append(b, mesh.WriteRecord(r)...)
	}
	return b
}

// learn has a node learn a route, of a reply that is for itself.
func learn(t testing.TB, n *mesh.Node, self uint32, now uint64, dest, seq uint32, hops int, next, life uint32) {
	t.Helper()
	n.Receive(now, next, frameOf(t, reply(8, hops-1, dest, seq, self, life)))
	if l := n.Routes(); !slices.ContainsFunc(l, func(x api.Route) bool { return x.Dest == dest && x.Next == next && x.Valid }) {
		t.Fatalf("no route to %d by %d: %v", dest, next, l)
	}
}

// between is node 5 with routes to 3 by 7 (two hops, until 3000) and to 8 by 2 (four hops, until 6000), each of which is used by the other's neighbour.
func between(t testing.TB) *mesh.Node {
	t.Helper()
	n := newNode(t, 5)
	n.Receive(0, 7, frameOf(t, request(3, 1, 1, 8, unknown, 3, 9)))
	n.Receive(0, 2, frameOf(t, reply(8, 3, 8, 4, 3, 6000)))
	if l := n.Routes(); len(l) != 2 || len(l[0].Before) != 1 || len(l[1].Before) != 1 {
		t.Fatalf("routes %v", l)
	}
	return n
}

// P13: the address 0, whatever else is handed in.
func TestNewNodeNone(t *testing.T) {
	for _, journal := range [][]byte{nil, {}, {1}, written(api.Record{Own: true, Seq: 4}, api.Record{Addr: 3})} {
		for _, now := range []uint64{0, 1, mostTime} {
			n, out, err := mesh.NewNode(0, journal, now)
			if n != nil || err != api.ErrNode || !reflect.DeepEqual(out, api.Out{}) {
				t.Errorf("NewNode(0, %x, %d) = %v, %v, %d", journal, now, n, out, err)
			}
		}
	}
}

// P13: an empty journal: the number 1, which is written behind it; no line; not silent.
func TestNewNodeFirst(t *testing.T) {
	for _, journal := range [][]byte{nil, {}} {
		for _, self := range []uint32{1, 5, math.MaxUint32} {
			for _, now := range []uint64{0, 1, 1 << 40, mostTime} {
				n, out, err := mesh.NewNode(self, journal, now)
				want := api.Out{Journal: string(unhex(t, "01 00000000 00000001 8675307b"))}
				if n == nil || err != api.OK || !reflect.DeepEqual(out, want) {
					t.Fatalf("NewNode(%d, %x, %d) = %v, %v, %d", self, journal, now, n, out, err)
				}
				wantSeq(t, n, 1)
				wantLines(t, n)
				wantHeard(t, n, heard{now, 7, data(1, 1, 3, self, "x"), `came 3 "x"`})
			}
		}
	}
}

// P13: what a node is behind a boot, and what takes its journal's place.
func TestNewNodeBoot(t *testing.T) {
	const most = math.MaxUint32
	good := []api.Record{{Own: true, Seq: 4}, {Addr: 8, Seq: 6}}
	for _, c := range []struct {
		name    string
		journal []byte
		want    string
		seq     uint32
		lines   []string
	}{
		{"a byte", []byte{0}, "new; own 1", 1, nil},
		{"bytes none of which is a record", bytes.Repeat([]byte("no"), 40), "new; own 1", 1, nil},
		{"no record, and records behind that", append([]byte{9}, written(good...)...), "new; own 1", 1, nil},
		{"one's own", written(good[0]), "new; own 5", 5, nil},
		{"one's own and another", written(good...), "new; own 5; 8=7", 5, []string{"8-7/0 by 0 to 0 []"}},
		{"records, and none behind them", append(written(good...), 1, 2, 3), "new; own 5; 8=7", 5, []string{"8-7/0 by 0 to 0 []"}},
		{"records behind what is none", slices.Concat(written(good...), []byte{7}, written(api.Record{Own: true, Seq: 99})), "new; own 5; 8=7", 5, []string{"8-7/0 by 0 to 0 []"}},
		{"one's own out of order", written(api.Record{Own: true, Seq: 4}, api.Record{Own: true, Seq: 1 << 31}, api.Record{Own: true, Seq: 3}), "new; own 2147483649", 1<<31 + 1, nil},
		{"none of one's own", written(good[1], api.Record{Addr: 2, Seq: 900}), "new; own 1; 2=901; 8=7", 1, []string{"2-901/0 by 0 to 0 []", "8-7/0 by 0 to 0 []"}},
		{"one's own of 0", written(api.Record{Own: true}), "new; own 1", 1, nil},
		{"one's own of the greatest number", written(api.Record{Own: true, Seq: most}), "new; own 4294967295", most, nil},
		{"one's own, nearly the greatest", written(api.Record{Own: true, Seq: most - 1}), "new; own 4294967295", most, nil},
		{"another of the greatest number", written(api.Record{Addr: 8, Seq: most}, api.Record{Addr: 9}), "new; own 1; 8=4294967295; 9=1", 1, []string{"8-4294967295/0 by 0 to 0 []", "9-1/0 by 0 to 0 []"}},
		{"others out of order", written(api.Record{Addr: 8, Seq: 6}, api.Record{Addr: 2, Seq: 3}, api.Record{Addr: 8, Seq: 9}, api.Record{Addr: most, Seq: 1}, api.Record{Addr: 8, Seq: 7}, api.Record{Addr: 2, Seq: 2}),
			"new; own 1; 2=4; 8=10; 4294967295=2", 1, []string{"2-4/0 by 0 to 0 []", "8-10/0 by 0 to 0 []", "4294967295-2/0 by 0 to 0 []"}},
		{"self among the others", written(api.Record{Addr: 5, Seq: 60}, api.Record{Own: true, Seq: 4}, api.Record{Addr: 6, Seq: 1}), "new; own 5; 6=2", 5, []string{"6-2/0 by 0 to 0 []"}},
		{"the address 0 of another", written(api.Record{Addr: 0, Seq: 6}), "new; own 1; 0=7", 1, []string{"0-7/0 by 0 to 0 []"}},
	} {
		t.Run(c.name, func(t *testing.T) {
			n, out, err := mesh.NewNode(5, c.journal, 1000)
			if got := outText(out); err != api.OK || got != c.want {
				t.Fatalf("NewNode: %d, %s, want %s", err, got, c.want)
			}
			wantSeq(t, n, c.seq)
			wantLines(t, n, c.lines...)
			wantHeard(t, n, heard{2999, 7, data(1, 1, 3, 5, "x"), "drop Silent"}, heard{3000, 7, data(1, 1, 3, 5, "x"), `came 3 "x"`})
		})
	}
}

// P13: a journal torn anywhere: what stands whole counts, and any byte at all makes it a boot.
func TestNewNodeTorn(t *testing.T) {
	journal := written(api.Record{Own: true, Seq: 4}, api.Record{Addr: 8, Seq: 6}, api.Record{Own: true, Seq: 5})
	for length := range len(journal) + 1 {
		want := []string{"new; own 1", "new; own 5", "new; own 5; 8=7", "new; own 6; 8=7"}[length/13]
		if length == 0 {
			want = "own 1"
		}
		if _, out, err := mesh.NewNode(5, journal[:length], 0); err != api.OK || outText(out) != want {
			t.Errorf("%d bytes: %d, %s, want %s", length, err, outText(out), want)
		}
	}
}

// P13: of more than 8 addresses the least ones have lines, and records; self is none of them.
func TestNewNodeManyAddresses(t *testing.T) {
	n, out := bootNode(t, 5, 0, others(11, 10, 9, 8, 7, 6, 5, 4, 3, 2, 12)...)
	if want := "new; own 1; 2=2; 3=2; 4=2; 6=2; 7=2; 8=2; 9=2; 10=2"; out != want || len(n.Routes()) != 8 {
		t.Errorf("NewNode: %s, want %s", out, want)
	}
	wantHeard(t, n, heard{2000, 7, request(3, 0, 1, 90, unknown, 11, 1), "drop NoRoom"})
}

// P13: silence behind a boot ends at the boot's time and 2000 more; other calls do not change that.
func TestNewNodeSilent(t *testing.T) {
	for _, now := range []uint64{0, 1, 1000, 1 << 40, mostTime - 2000} {
		n, _ := bootNode(t, 5, now, api.Record{Own: true, Seq: 4})
		for _, at := range []uint64{now, now + 1, now + 1999} {
			wantHeard(t, n, heard{at, 7, data(8, 1, 3, 5, "x"), "drop Silent"})
			wantNodeBroken(t, n, at, 7, "")
		}
		wantHeard(t, n, heard{now + 2000, 7, data(8, 1, 3, 5, "x"), `came 3 "x"`})
	}
}

// P2, P13: a journal that is handed in is left as it was, and changing it later changes no node.
func TestNewNodeHandedIn(t *testing.T) {
	journal := append(written(api.Record{Own: true, Seq: 4}, api.Record{Addr: 8, Seq: 6}), "torn, and room"...)
	before := slices.Clone(journal)
	n, out, _ := mesh.NewNode(5, journal[:len(journal)-8], 0)
	if !bytes.Equal(journal, before) {
		t.Errorf("NewNode made %x of %x", journal, before)
	}
	clear(journal)
	wantSeq(t, n, 5)
	wantLines(t, n, "8-7/0 by 0 to 0 []")
	if got := outText(out); got != "new; own 5; 8=7" {
		t.Errorf("behind a changed journal: %s", got)
	}
}

// P2: a frame that is handed in is left as it was, and changing it later changes nothing; each list that comes out is the caller's.
func TestNodeListsAreApart(t *testing.T) {
	n := between(t)
	frame := frameOf(t, data(8, 1, 3, 8, "hello"))
	before := slices.Clone(frame)
	out := n.Receive(1, 7, frame)
	if !bytes.Equal(frame, before) {
		t.Errorf("Receive made %x of %x", frame, before)
	}
	clear(frame)
	if got, want := outText(out), `to 2: data ttl7 id1 3 to 8 "hello"`; got != want {
		t.Errorf("behind a changed frame: %s, want %s", got, want)
	}
	want := []string{"3+9/2 by 7 to 3001 [2]", "8+4/4 by 2 to 6000 [7]"}
	kept := n.Routes()
	for range 2 {
		l := n.Routes()
		for i := range l {
			clear(l[i].Before[:cap(l[i].Before)])
		}
		clear(l[:cap(l)])
		wantLines(t, n, want...)
	}
	lost := n.Broken(2, 2)
	same := slices.Clone(lost.Frames)
	n.Broken(2, 7)
	if got := []string{lineText(kept[0]), lineText(kept[1])}; !slices.Equal(got, want) || !slices.Equal(lost.Frames, same) {
		t.Errorf("calls later on make %q of %q, %v of %v", got, want, lost.Frames, same)
	}
}

// P2: nodes do not touch one another.
func TestNodesApart(t *testing.T) {
	one, two := newNode(t, 5), newNode(t, 5)
	ask := request(3, 0, 1, 5, 77, 3, 9)
	wantHeard(t, one, heard{0, 7, ask, "own 77; 3=9; to 7: reply ttl8 hops0 5/77 for 3 life6000"}, heard{0, 7, ask, "drop Again"})
	wantSeq(t, two, 1)
	wantLines(t, two)
	wantHeard(t, two, heard{0, 7, ask, "own 77; 3=9; to 7: reply ttl8 hops0 5/77 for 3 life6000"})
}

// All calls: routes end as a call begins, when their time has come and no sooner, whatever the call then does; that is written.
func TestCallsBeginByExpire(t *testing.T) {
	for _, c := range []struct {
		name string
		call func(n *mesh.Node, now uint64) api.Out
		what string // the call itself does
	}{
		{"bytes that are no frame", func(n *mesh.Node, now uint64) api.Out { return n.Receive(now, 7, []byte("no")) }, "drop BadFrame"},
		{"from 0", func(n *mesh.Node, now uint64) api.Out { return n.Receive(now, 0, frameOf(t, lose(api.Lost{}))) }, "drop BadFrame"},
		{"a request of its own", func(n *mesh.Node, now uint64) api.Out {
			return n.Receive(now, 7, frameOf(t, request(3, 0, 1, 8, unknown, 5, 1)))
		}, "drop Again"},
		{"data for itself", func(n *mesh.Node, now uint64) api.Out { return n.Receive(now, 7, frameOf(t, data(8, 1, 3, 5, "x"))) }, `came 3 "x"`},
		{"what is lost, of no line", func(n *mesh.Node, now uint64) api.Out {
			return n.Receive(now, 7, frameOf(t, lose(api.Lost{Dest: 90})))
		}, "drop Stale"},
		{"a neighbour that none goes by", func(n *mesh.Node, now uint64) api.Out { return n.Broken(now, 90) }, ""},
	} {
		both := func(record string) string { return strings.Trim(record+"; "+c.what, "; ") }
		n := between(t)
		for i, want := range []string{c.what, both("3=10"), c.what, both("8=5")} {
			if got := outText(c.call(n, []uint64{2999, 3000, 5999, 6000}[i])); got != want {
				t.Errorf("%s, call %d: %s, want %s", c.name, i, got, want)
			}
		}
		wantLines(t, n, "3-10/2 by 7 to 0 []", "8-5/4 by 2 to 0 []")
	}
}

// All calls: several routes that end as a call begins are written by rising destinations, ahead of what the call itself does with a line.
func TestExpiredAreWrittenFirst(t *testing.T) {
	for range 20 {
		n := newNode(t, 5)
		for _, dest := range []uint32{1 << 31, 9, 2, 1<<31 - 1, 3} {
			learn(t, n, 5, 0, dest, 6, 1, 7, 60)
		}
		wantHeard(t, n, heard{60, 4, data(8, 1, 3, 9, "x"), "2=7; 3=7; 9=7; 2147483647=7; 2147483648=7; 9=8; to 4: lose ttl1 [{9 8}]; drop NoRoute"})
	}
}

// All calls: the number of a line is written where it is greater than all that was written of that destination, or none was.
func TestNumbersWritten(t *testing.T) {
	n := newNode(t, 5)
	wantHeard(t, n,
		heard{0, 7, request(1, 1, 1, 90, unknown, 3, 0), "3=0; drop NoTTL"}, // of 0: none was written
		heard{0, 7, request(1, 0, 2, 90, unknown, 3, 0), "drop NoTTL"},      // fewer hops, the same number
		heard{0, 7, request(1, 0, 3, 90, unknown, 3, 4), "3=4; drop NoTTL"},
		heard{0, 7, request(1, 0, 4, 90, unknown, 4, 4), "4=4; drop NoTTL"},   // of another
		heard{0, 7, lose(api.Lost{Dest: 3, Seq: 9}), "3=9"},                   // by an end
		heard{0, 7, request(1, 0, 5, 90, unknown, 3, 8), "drop NoTTL"},        // not better
		heard{0, 7, request(1, 0, 6, 90, unknown, 3, 9), "drop NoTTL"},        // as great
		heard{0, 7, lose(api.Lost{Dest: 3}), "3=10"},                          //
		heard{0, 8, request(1, 9, 7, 90, unknown, 3, 11), "3=11; drop NoTTL"}, //
		heard{0, 8, lose(api.Lost{Dest: 3}), "3=12"},                          // ten hops stay
		heard{0, 8, request(1, 8, 8, 90, unknown, 3, 11), "drop NoTTL"},       // as good a number as the ended one's, fewer hops: it is less than what was written
		heard{0, 8, lose(api.Lost{Dest: 3}), ""},                              // 12 once more
		heard{0, 8, request(1, 0, 9, 90, unknown, 3, 1<<32-1), "3=4294967295; drop NoTTL"},
		heard{0, 8, lose(api.Lost{Dest: 3}), ""}, // the greatest one stays
	)
	wantLines(t, n, "3-4294967295/1 by 8 to 0 []", "4+4/1 by 7 to 3000 []")
}

// All calls: behind a boot what was written then counts.
func TestNumbersWrittenBehindBoot(t *testing.T) {
	n, _ := bootNode(t, 5, 0, api.Record{Own: true, Seq: 4}, api.Record{Addr: 3, Seq: 6})
	wantHeard(t, n,
		heard{2000, 7, request(1, 0, 1, 90, unknown, 3, 6), "drop NoTTL"},
		heard{2000, 7, request(1, 0, 2, 5, 5, 3, 7), "to 7: reply ttl8 hops0 5/5 for 3 life6000"},
		heard{2000, 7, request(1, 0, 3, 5, 6, 3, 8), "own 6; 3=8; to 7: reply ttl8 hops0 5/6 for 3 life6000"},
	)
}

// All calls: at the end one's own number is ahead of the lines, these by rising destinations; each once.
func TestNumbersWrittenInOrder(t *testing.T) {
	n := newNode(t, 5)
	wantHeard(t, n, heard{0, 7, request(1, 0, 1, 5, 4, 3, 9), "own 4; 3=9; to 7: reply ttl8 hops0 5/4 for 3 life6000"})
	for _, dest := range []uint32{9, 2, 1 << 31} {
		learn(t, n, 5, 0, dest, 6, 1, 7, 60)
	}
	wantHeard(t, n,
		heard{0, 7, lose(api.Lost{Dest: 9}, api.Lost{Dest: 1 << 31}, api.Lost{Dest: 2}, api.Lost{Dest: 3, Seq: 90}), "2=7; 3=90; 9=7; 2147483648=7"},
		heard{0, 7, data(8, 1, 3, 5, "x"), `came 3 "x"`},
	)
}

// All calls: 24 records stay, one more has the journal replaced by what counts of all that was written, in this call too.
func TestJournalReplaced(t *testing.T) {
	n := newNode(t, 5) // one record
	for i := range uint32(10) {
		wantHeard(t, n, heard{0, 7, request(1, 0, i, 90, unknown, 8, 1+i), fmt.Sprintf("8=%d; drop NoTTL", 1+i)})
	}
	for i := range uint32(10) {
		wantHeard(t, n, heard{0, 7, request(1, 0, i, 90, unknown, 3, 1+i), fmt.Sprintf("3=%d; drop NoTTL", 1+i)})
	}
	wantHeard(t, n,
		heard{0, 7, request(1, 0, 91, 5, 2, 3, 10), "own 2; to 7: reply ttl8 hops0 5/2 for 3 life6000"},
		heard{0, 7, request(1, 0, 92, 5, 3, 3, 11), "own 3; 3=11; to 7: reply ttl8 hops0 5/3 for 3 life6000"}, // 24
		heard{0, 7, data(8, 1, 3, 5, "x"), `came 3 "x"`},
		heard{0, 7, request(1, 0, 93, 5, 4, 3, 12), "new; own 4; 3=12; 8=10; to 7: reply ttl8 hops0 5/4 for 3 life6000"}, // 26, so 3
	)
	for i := range uint32(21) {
		wantHeard(t, n, heard{0, 7, request(1, 0, 100+i, 90, unknown, 3, 20+i), fmt.Sprintf("3=%d; drop NoTTL", 20+i)})
	}
	wantHeard(t, n,
		heard{0, 7, lose(api.Lost{Dest: 8}), "new; own 4; 3=40; 8=11"}, // 25, so 3
		heard{0, 7, lose(api.Lost{Dest: 3}), "3=41"},
	)
}

// All calls: records of the time when routes end count with those of the call's end.
func TestJournalReplacedByExpire(t *testing.T) {
	n := newNode(t, 5)
	for i := range uint32(23) {
		wantHeard(t, n, heard{0, 7, request(1, 0, i, 90, unknown, 3, i), fmt.Sprintf("3=%d; drop NoTTL", i)})
	}
	wantHeard(t, n,
		heard{3000, 7, request(1, 0, 50, 5, 9, 4, 4), "new; own 9; 3=23; 4=4; to 7: reply ttl8 hops0 5/9 for 4 life6000"},
		heard{3000, 7, request(1, 0, 51, 90, unknown, 4, 5), "4=5; drop NoTTL"},
	)
}

// All calls: what a boot writes is in the journal, what stood there before is not.
func TestJournalReplacedBehindBoot(t *testing.T) {
	var l []api.Record
	for i := range uint32(40) {
		l = append(l, api.Record{Addr: 8, Seq: i}, api.Record{Own: true, Seq: i}, api.Record{Addr: 5, Seq: i})
	}
	n, out := bootNode(t, 5, 0, append(l, api.Record{Addr: 2})...)
	if want := "new; own 40; 2=1; 8=40"; out != want {
		t.Fatalf("NewNode: %s, want %s", out, want)
	}
	for i := range uint32(21) {
		wantHeard(t, n, heard{2000, 7, request(1, 0, i, 90, unknown, 3, 1+i), fmt.Sprintf("3=%d; drop NoTTL", 1+i)})
	}
	wantHeard(t, n, heard{2000, 7, request(1, 0, 50, 90, unknown, 3, 50), "new; own 40; 2=1; 3=50; 8=40; drop NoTTL"})
}

// P19: what is lost is told to all in one frame, of those lines that others use; the others end too.
func TestNodeBroken(t *testing.T) {
	n := newNode(t, 5)
	for i, dest := range []uint32{20, 3, 1 << 31} {
		wantHeard(t, n,
			heard{0, 7, request(1, 0, uint32(i), 90, unknown, 10+uint32(i), 1), fmt.Sprintf("%d=1; drop NoTTL", 10+i)},
			heard{0, 2, reply(8, 0, dest, 4, 10+uint32(i), 6000), fmt.Sprintf("%d=4; to 7: reply ttl7 hops1 %d/4 for %d life6000", dest, dest, 10+i)},
		)
	}
	learn(t, n, 5, 0, 4, 4, 1, 2, 6000)
	wantNodeBroken(t, n, 1, 90, "")
	wantNodeBroken(t, n, 1, 0, "")
	wantNodeBroken(t, n, 1, 5, "")
	wantNodeBroken(t, n, 1, 3, "") // a destination, but no line goes by it
	wantNodeBroken(t, n, 1, 2, "3=5; 4=5; 20=5; 2147483648=5; to 0: lose ttl1 [{3 5} {20 5} {2147483648 5}]")
	wantLines(t, n, "3-5/1 by 2 to 0 []", "4-5/1 by 2 to 0 []", "10+1/1 by 7 to 3000 [2]", "11+1/1 by 7 to 3000 [2]", "12+1/1 by 7 to 3000 [2]", "20-5/1 by 2 to 0 []", "2147483648-5/1 by 2 to 0 []")
	wantNodeBroken(t, n, 1, 2, "")
	wantNodeBroken(t, n, 1, 7, "10=2; 11=2; 12=2; to 0: lose ttl1 [{10 2} {11 2} {12 2}]")
	wantNodeBroken(t, n, 1, 7, "")
}

// P19: lines that none uses end without a frame; so do those whose time has come as the call begins, whoever uses them.
func TestNodeBrokenUntold(t *testing.T) {
	n := newNode(t, 5)
	learn(t, n, 5, 0, 4, 4, 1, 2, 6000)
	learn(t, n, 5, 0, 6, 1<<32-1, 1, 2, 6000)
	wantNodeBroken(t, n, 1, 2, "4=5")
	wantLines(t, n, "4-5/1 by 2 to 0 []", "6-4294967295/1 by 2 to 0 []")
	n = between(t)
	wantNodeBroken(t, n, 6000, 2, "3=10; 8=5")
	wantLines(t, n, "3-10/2 by 7 to 0 []", "8-5/4 by 2 to 0 []")
	n, _ = bootNode(t, 5, 0, others(2, 3)...)
	for _, next := range []uint32{0, 2, 3, 7} {
		wantNodeBroken(t, n, 1, next, "")
	}
}

// P19: a whole table that others use fits into one frame.
func TestNodeBrokenEight(t *testing.T) {
	n := newNode(t, 5)
	for i := range uint32(8) {
		// Each is asked for by the one ahead of it, so that each is used.
		n.Receive(0, 7, frameOf(t, request(1, 0, 1, 90, unknown, 10+i, 1)))
	}
	for i := range uint32(8) {
		n.Receive(0, 7, frameOf(t, request(8, 0, 2, 10+(i+1)%8, unknown, 10+i, 1)))
	}
	wantNodeBroken(t, n, 0, 7, "10=2; 11=2; 12=2; 13=2; 14=2; 15=2; 16=2; 17=2; to 0: lose ttl1 [{10 2} {11 2} {12 2} {13 2} {14 2} {15 2} {16 2} {17 2}]")
}

// A node may be used by several goroutines: each call is whole.
func TestNodeShared(t *testing.T) {
	n := newNode(t, 5)
	const workers, calls = 8, 200
	outs := make([][]api.Out, workers)
	var all sync.WaitGroup
	for w := range workers {
		all.Go(func() {
			for i := range calls {
				id := uint32(w*calls + i)
				outs[w] = append(outs[w], n.Receive(0, 7, frameOf(t, request(1, 0, id, 5, int64(2+id), 3, 1+id))), n.Broken(0, 90))
				n.Routes()
				n.Seq()
			}
		})
	}
	all.Wait()
	wantSeq(t, n, workers*calls+1)
	own := map[uint32]int{}
	for _, out := range slices.Concat(outs...) {
		l, _ := mesh.ReadJournal([]byte(out.Journal))
		for _, r := range l {
			if r.Own && !out.Replace {
				own[r.Seq]++
			}
		}
	}
	for seq, times := range own {
		if times != 1 {
			t.Errorf("one's own number %d was written %d times", seq, times)
		}
	}
}
