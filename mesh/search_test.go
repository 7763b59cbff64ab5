package mesh_test

import (
	"fmt"
	"math"
	"reflect"
	"slices"
	"strings"
	"sync"
	"testing"

	"mesh/api"
	"mesh/mesh"
)

func wantSend(t *testing.T, n *mesh.Node, now uint64, dest uint32, text, want string) {
	t.Helper()
	out, err := n.Send(now, dest, text)
	if got := outText(out); err != api.OK || got != want {
		t.Errorf("Send(%d, %d, %q): %d,\n%s, want\n%s", now, dest, text, err, got, want)
	}
}

func wantTick(t *testing.T, n *mesh.Node, now uint64, want string) {
	t.Helper()
	if got := outText(n.Tick(now)); got != want {
		t.Errorf("Tick(%d):\n%s, want\n%s", now, got, want)
	}
}

// asks is what node 5 does to ask for a destination that it has no line of: it writes its number, which has grown, and tells it to all.
func asks(ttl int, id, dest, own uint32) string {
	return fmt.Sprintf("own %d; to 0: ask ttl%d hops0 id%d %d/? from 5/%d", own, ttl, id, dest, own)
}

// sends is data of node 5, as it goes out.
func sends(next, id, dest uint32, text string) string {
	return fmt.Sprintf("to %d: data ttl8 id%d 5 to %d %q", next, id, dest, text)
}

// drops is a reason so many times.
func drops(times int, reason string) string {
	return strings.Join(slices.Repeat([]string{"drop " + reason}, times), "; ")
}

// P20: a text goes out by the route that is there; its ids are 1, 2, .., whatever the destinations; the line is used.
func TestSendByRoute(t *testing.T) {
	n := newNode(t, 5)
	learn(t, n, 5, 0, 8, 4, 4, 2, 1000)
	learn(t, n, 5, 0, 3, 9, 2, 7, 1000)
	learn(t, n, 5, 0, 9, 9, 2, 7, 9000)
	wantSend(t, n, 10, 8, "hello", sends(2, 1, 8, "hello"))
	wantLines(t, n, "3+9/2 by 7 to 1000 []", "8+4/4 by 2 to 3010 []", "9+9/2 by 7 to 9000 []")
	wantSend(t, n, 20, 3, "", sends(7, 2, 3, ""))
	wantSend(t, n, 30, 9, "\x00\xff0123456789abcd", sends(7, 3, 9, "\x00\xff0123456789abcd")) // 16 bytes
	wantLines(t, n, "3+9/2 by 7 to 3020 []", "8+4/4 by 2 to 3010 []", "9+9/2 by 7 to 9000 []")
	wantSend(t, n, 30, 8, "hello", sends(2, 4, 8, "hello"))
	wantSeq(t, n, 1)
	wantTick(t, n, 3000, "")
}

// P20: bytes of a text count, not letters; 16 may be, with a route and without one.
func TestSendLengths(t *testing.T) {
	n := newNode(t, 5)
	learn(t, n, 5, 0, 8, 4, 4, 2, 1000)
	for _, text := range []string{strings.Repeat("x", 17), strings.Repeat("\u00e9", 9), strings.Repeat("\x00", 100)} {
		for _, dest := range []uint32{8, 9, 5, 0} {
			wantRefusedText(t, n, 0, dest, text, api.ErrLong)
		}
	}
	full := strings.Repeat("\u00e9", 8)
	wantSend(t, n, 0, 8, full, sends(2, 1, 8, full))
	wantSend(t, n, 0, 9, full, asks(1, 1, 9, 2))
	learnFound(t, n, 0, 9, sends(2, 2, 9, full))
}

// learnFound has node 5 hear that there is a route to a destination by 2, and what it does then, behind a record of the number 1.
func learnFound(t *testing.T, n *mesh.Node, now uint64, dest uint32, want ...string) {
	t.Helper()
	want = append([]string{fmt.Sprintf("%d=1", dest)}, want...)
	wantHeard(t, n, heard{now, 2, reply(8, 0, dest, 1, 5, 6000), strings.Join(want, "; ")})
}

// wantRefusedText: with an error all else is empty, and nothing changes.
func wantRefusedText(t *testing.T, n *mesh.Node, now uint64, dest uint32, text string, want api.Errno) {
	t.Helper()
	seq, lines := n.Seq(), fmt.Sprint(n.Routes())
	out, err := n.Send(now, dest, text)
	if err != want || !reflect.DeepEqual(out, api.Out{}) {
		t.Errorf("Send(%d, %d, %q) = %+v, %d, want %d", now, dest, text, out, err, want)
	}
	wantSeq(t, n, seq)
	if got := fmt.Sprint(n.Routes()); got != lines {
		t.Errorf("Routes behind Send(%d, %d, %q): %s, want %s", now, dest, text, got, lines)
	}
}

// P1, P20: with an error nothing changes: no route ends, no id is used, no text waits, no search begins.
func TestSendRefused(t *testing.T) {
	n := between(t)
	wantSend(t, n, 0, 9, "x", asks(1, 1, 9, 2))
	long := strings.Repeat("x", 17)
	for _, now := range []uint64{0, 240, 6000, mostTime} {
		wantRefusedText(t, n, now, 5, "x", api.ErrOwn)
		wantRefusedText(t, n, now, 5, "", api.ErrOwn)
		wantRefusedText(t, n, now, 0, "x", api.ErrOwn)
		wantRefusedText(t, n, now, 0, long, api.ErrLong) // which is named first
		wantRefusedText(t, n, now, 5, long, api.ErrLong)
		wantRefusedText(t, n, now, 8, long, api.ErrLong)
		wantRefusedText(t, n, now, 9, long, api.ErrLong)
		wantRefusedText(t, n, now, 90, long, api.ErrLong)
	}
	wantSend(t, n, 10, 8, "y", sends(2, 1, 8, "y"))
	wantTick(t, n, 240, asks(3, 2, 9, 3)) // that of 9 alone
	learnFound(t, n, 240, 9, sends(2, 2, 9, "x"))
}

// P20: a route that has ended, or that ends just now, is none; the request tells the ended line's number.
func TestSendRouteEnds(t *testing.T) {
	for _, c := range []struct {
		at   uint64
		want string
	}{
		{2999, sends(7, 1, 3, "x")},
		{3000, "3=10; own 2; to 0: ask ttl1 hops0 id1 3/10 from 5/2"}, // the line's number was written ahead of one's own
		{3001, "3=10; own 2; to 0: ask ttl1 hops0 id1 3/10 from 5/2"},
	} {
		n := between(t)
		wantSend(t, n, c.at, 3, "x", c.want)
	}
	n := between(t)
	wantNodeBroken(t, n, 1, 7, "3=10; to 0: lose ttl1 [{3 10}]")
	wantSend(t, n, 1, 3, "x", "own 2; to 0: ask ttl1 hops0 id1 3/10 from 5/2")
	wantLines(t, n, "3-10/2 by 7 to 0 []", "8+4/4 by 2 to 6000 [7]")
}

// P20: four texts wait for a destination; with each more the first one is given up. No other search begins.
func TestSendOverflow(t *testing.T) {
	n := newNode(t, 5)
	for i, want := range []string{asks(1, 1, 9, 2), "", "", "", "drop Overflow", "drop Overflow"} {
		wantSend(t, n, uint64(i), 9, fmt.Sprint("text ", i), want)
	}
	wantSend(t, n, 6, 8, "another", asks(1, 2, 8, 3)) // they are counted by destination
	wantTick(t, n, 239, "")
	wantTick(t, n, 240, asks(3, 3, 9, 4))
	wantSend(t, n, 241, 9, "text 6", "drop Overflow")
	learnFound(t, n, 250, 9, sends(2, 1, 9, "text 3"), sends(2, 2, 9, "text 4"), sends(2, 3, 9, "text 5"), sends(2, 4, 9, "text 6"))
	learnFound(t, n, 250, 8, sends(2, 5, 8, "another"))
}

// P20: two destinations wait side by side, each for its own time and route.
func TestSendSideBySide(t *testing.T) {
	n := newNode(t, 5)
	wantSend(t, n, 0, 9, "to 9", asks(1, 1, 9, 2))
	wantSend(t, n, 100, 8, "to 8", asks(1, 2, 8, 3))
	wantSend(t, n, 100, 9, "to 9 too", "")
	wantTick(t, n, 240, asks(3, 3, 9, 4))
	wantTick(t, n, 340, asks(3, 4, 8, 5))
	learnFound(t, n, 345, 8, sends(2, 1, 8, "to 8"))
	wantSend(t, n, 350, 8, "at once", sends(2, 2, 8, "at once"))
	wantTick(t, n, 639, "")
	wantTick(t, n, 640, asks(5, 5, 9, 6))
	learnFound(t, n, 650, 9, sends(2, 3, 9, "to 9"), sends(2, 4, 9, "to 9 too"))
	wantTick(t, n, 3349, "")
}

// searchSteps are the times of a search, counted from its beginning, and the TTL of the request at each.
var searchSteps = []struct {
	at  uint64
	ttl int
}{{0, 1}, {240, 3}, {640, 5}, {1200, 8}, {2000, 8}, {3600, 8}}

const searchEnd = 6800

// P21, P22: the requests of a search, each at its very time; at last all that waited is dropped; a search behind that begins anew.
func TestSearch(t *testing.T) {
	for _, begin := range []uint64{0, 1, 1 << 40} {
		n := newNode(t, 5)
		own, id := uint32(1), uint32(0)
		for round := range uint64(3) {
			at := begin + round*searchEnd
			for i, s := range searchSteps {
				own, id = own+1, id+1
				if i == 0 {
					wantSend(t, n, at, 9, "first", asks(1, id, 9, own))
					wantSend(t, n, at, 9, "second", "")
					continue
				}
				wantTick(t, n, at+s.at-1, "")
				wantTick(t, n, at+s.at, asks(s.ttl, id, 9, own))
				wantTick(t, n, at+s.at, "")
				wantSeq(t, n, own)
			}
			wantSend(t, n, at+4000, 9, "third", "")
			wantTick(t, n, at+searchEnd-1, "")
			wantTick(t, n, at+searchEnd, drops(3, "NotFound"))
		}
		wantTick(t, n, begin+100000, "")
		wantSeq(t, n, own)
		wantLines(t, n)
	}
}

// P21: the time to wait is counted from when a request goes out, be it late.
func TestSearchLate(t *testing.T) {
	n := newNode(t, 5)
	wantSend(t, n, 0, 9, "x", asks(1, 1, 9, 2))
	wantTick(t, n, 5000, asks(3, 2, 9, 3)) // one step, though the times of more would have gone by
	wantTick(t, n, 5399, "")
	wantTick(t, n, 5400, asks(5, 3, 9, 4))
}

// P21: only Tick has searches go on.
func TestSearchByTickAlone(t *testing.T) {
	n := newNode(t, 5)
	wantSend(t, n, 0, 9, "x", asks(1, 1, 9, 2))
	wantNodeBroken(t, n, 5000, 7, "")
	wantHeard(t, n, heard{5000, 7, data(8, 1, 3, 5, "x"), `came 3 "x"`})
	wantSend(t, n, 5000, 9, "y", "")
	wantTick(t, n, 5000, asks(3, 2, 9, 3))
}

// P21: what a request tells of its destination: the number of the line, be it Valid or not, 0 too; without a line nothing.
func TestSearchDestSeq(t *testing.T) {
	n, _ := bootNode(t, 5, 0, api.Record{Addr: 8, Seq: 6}, api.Record{Addr: 3, Seq: 1<<32 - 1})
	wantSend(t, n, 2000, 8, "x", "own 2; to 0: ask ttl1 hops0 id1 8/7 from 5/2")
	wantSend(t, n, 2000, 3, "x", "own 3; to 0: ask ttl1 hops0 id2 3/4294967295 from 5/3")
	wantSend(t, n, 2000, 9, "x", asks(1, 3, 9, 4))
	// The line comes, and its number grows, while the search goes on.
	wantHeard(t, n,
		heard{2001, 7, request(1, 0, 1, 90, unknown, 9, 0), "9=0; drop NoTTL"},
		heard{2002, 7, lose(api.Lost{Dest: 9}), "9=1"},
		heard{2003, 7, lose(api.Lost{Dest: 8}), "drop Stale"},
	)
	wantTick(t, n, 2240, strings.Join([]string{
		"own 5; own 6", // each is written ahead of its request
		"to 0: ask ttl3 hops0 id4 8/7 from 5/5",
		"to 0: ask ttl3 hops0 id5 3/4294967295 from 5/6",
		"drop TooMany",
	}, "; "))
	wantTick(t, n, 3240, strings.Join([]string{
		"own 7; own 8; own 9",
		"to 0: ask ttl5 hops0 id6 8/7 from 5/7",
		"to 0: ask ttl5 hops0 id7 3/4294967295 from 5/8",
		"to 0: ask ttl3 hops0 id8 9/1 from 5/9",
	}, "; "))
}

// P13, P21: one's own number is written ahead of each request, behind the numbers of routes that end in the call.
func TestSearchWrites(t *testing.T) {
	n := between(t)
	wantSend(t, n, 2900, 20, "x", asks(1, 1, 20, 2))
	wantSend(t, n, 2900, 21, "x", asks(1, 2, 21, 3))
	wantTick(t, n, 3140, "3=10; own 4; own 5; to 0: ask ttl3 hops0 id3 20/? from 5/4; to 0: ask ttl3 hops0 id4 21/? from 5/5")
	wantTick(t, n, 6000, "8=5; own 6; own 7; to 0: ask ttl5 hops0 id5 20/? from 5/6; to 0: ask ttl5 hops0 id6 21/? from 5/7")
}

// P13, P21: where the journal is replaced, it has one's own number as it is at last, and all that was written before.
func TestSearchJournalReplaced(t *testing.T) {
	n := newNode(t, 5)
	for i := range uint32(22) {
		wantSend(t, n, uint64(1000*i), 100+i, "x", asks(1, 1+i, 100+i, 2+i))
	}
	wantHeard(t, n, heard{22000, 7, request(1, 0, 1, 90, unknown, 3, 4), "3=4; drop NoTTL"}) // 24
	wantSend(t, n, 22000, 200, "x", "new; own 24; 3=4; to 0: ask ttl1 hops0 id23 200/? from 5/24")
	wantSend(t, n, 23000, 201, "x", asks(1, 24, 201, 25)) // 3
	// Of 24 searches that are due five ask in a second.
	for i, want := range []string{"3=5; own 26; own 27; own 28; own 29; own 30", "own 31; own 32; own 33; own 34; own 35", "own 36; own 37; own 38; own 39; own 40", "own 41; own 42; own 43; own 44; own 45", "new; own 50; 3=5", "own 51; own 52; own 53; own 54; own 55"} {
		out := n.Tick(30000 + 1000*uint64(i))
		if got := outText(api.Out{Journal: out.Journal, Replace: out.Replace}); got != want || len(out.Frames) != 5 {
			t.Errorf("%d: %s, %d frames, want %s", i, got, len(out.Frames), want)
		}
	}
}

// P13, P21: the greatest number stays: it is told again, and not written again.
func TestSearchGreatestNumber(t *testing.T) {
	const most = math.MaxUint32
	n, out := bootNode(t, 5, 0, api.Record{Own: true, Seq: most - 2})
	if want := fmt.Sprint("new; own ", most-1); out != want {
		t.Fatalf("NewNode: %s, want %s", out, want)
	}
	wantSend(t, n, 2000, 9, "x", asks(1, 1, 9, most))
	wantTick(t, n, 2240, fmt.Sprintf("to 0: ask ttl3 hops0 id2 9/? from 5/%d", most))
	wantSend(t, n, 2240, 8, "x", fmt.Sprintf("to 0: ask ttl1 hops0 id3 8/? from 5/%d", most))
	wantSeq(t, n, most)
}

// P21: one's own request that comes back is dropped, also where it is remembered no more.
func TestSearchComesBack(t *testing.T) {
	n := newNode(t, 5)
	wantSend(t, n, 0, 9, "x", asks(1, 1, 9, 2))
	wantTick(t, n, 240, asks(3, 2, 9, 3))
	for _, at := range []uint64{240, 1519, 1520, 9000} {
		wantHeard(t, n, heard{at, 7, request(2, 1, 2, 9, unknown, 5, 3), "drop Again"})
	}
	wantLines(t, n)
}

// P21: one's own requests are remembered like others: of more than 16 the first one is forgotten for theirs, and they are forgotten in their turn.
func TestSearchRemembered(t *testing.T) {
	ask := func(id uint32) api.Packet { return request(1, 0, id, 90, unknown, 3, 9) }
	for _, c := range []struct {
		own  int
		back []string // what becomes of the first ones
	}{{0, []string{"Again", "Again"}}, {1, []string{"NoTTL", "NoTTL"}}} {
		n := newNode(t, 5)
		learn(t, n, 5, 0, 3, 9, 1, 7, 6000)
		for id := range uint32(16) {
			wantHeard(t, n, heard{0, 7, ask(id), "drop NoTTL"})
		}
		for range c.own {
			wantSend(t, n, 1, 9, "x", asks(1, 1, 9, 2))
		}
		// The first one that was forgotten comes again, and takes the place of the next.
		wantHeard(t, n, heard{1, 7, ask(0), "drop " + c.back[0]}, heard{1, 7, ask(1), "drop " + c.back[1]}, heard{1, 7, ask(15), "drop Again"})
	}
	// Remembered ahead of the others, it is forgotten ahead of them.
	n := newNode(t, 5)
	learn(t, n, 5, 0, 3, 9, 1, 7, 6000)
	wantSend(t, n, 0, 9, "x", asks(1, 1, 9, 2))
	for id := range uint32(16) {
		wantHeard(t, n, heard{0, 7, ask(id), "drop NoTTL"})
	}
	wantHeard(t, n, heard{1, 7, ask(0), "drop Again"}, heard{1, 7, ask(90), "drop NoTTL"}, heard{1, 7, ask(0), "drop NoTTL"})
	// One that did not go out is not remembered.
	n = newNode(t, 5)
	learn(t, n, 5, 0, 3, 9, 1, 7, 6000)
	for i := range uint32(5) {
		wantSend(t, n, 0, 20+i, "x", asks(1, 1+i, 20+i, 2+i))
	}
	for id := range uint32(16) {
		wantHeard(t, n, heard{500, 7, ask(id), "drop NoTTL"})
	}
	wantSend(t, n, 501, 30, "x", "drop TooMany")
	wantHeard(t, n, heard{501, 7, ask(0), "drop Again"})
}

// P21: five requests may go out in a second; of a sixth nothing is done but that it is dropped, and tried again a second behind.
func TestSearchTooMany(t *testing.T) {
	n := newNode(t, 5)
	for i := range uint32(5) {
		wantSend(t, n, 100*uint64(i), 20+i, "x", asks(1, 1+i, 20+i, 2+i))
	}
	wantSend(t, n, 500, 30, "x", "drop TooMany")
	wantSend(t, n, 500, 30, "y", "") // its search goes on
	wantSend(t, n, 999, 31, "x", "drop TooMany")
	wantSeq(t, n, 6)
	wantSend(t, n, 1000, 32, "x", asks(1, 6, 32, 7)) // that of 0 counts no more
	wantSend(t, n, 1000, 33, "x", "drop TooMany")
	wantSend(t, n, 1099, 34, "x", "drop TooMany")
	wantSend(t, n, 1100, 35, "x", asks(1, 7, 35, 8)) // that of 100
	wantSend(t, n, 1100, 36, "x", "drop TooMany")
	wantSeq(t, n, 8)
	// Behind a second: 200, 300 and 400 are gone, so there is room for three; of the searches those of 20 .. 24 are the first.
	wantTick(t, n, 1499, strings.Join([]string{
		"own 9; own 10; own 11",
		"to 0: ask ttl3 hops0 id8 20/? from 5/9", "to 0: ask ttl3 hops0 id9 21/? from 5/10", "to 0: ask ttl3 hops0 id10 22/? from 5/11",
		drops(4, "TooMany"), // 23 and 24; 32 and 35, of 1240 and 1340
	}, "; "))
	// 30 is tried again at 1500: five count still.
	wantTick(t, n, 1500, "drop TooMany")
	learnFound(t, n, 1500, 30, sends(2, 1, 30, "x"), sends(2, 2, 30, "y"))
}

// fivePaced has five requests go out, whose searches end at once.
func fivePaced(t *testing.T, n *mesh.Node, now uint64) {
	t.Helper()
	for i := range uint32(5) {
		if out, err := n.Send(now, 20+i, "y"); err != api.OK || len(out.Frames) != 1 || len(out.Dropped) != 0 {
			t.Fatalf("Send(%d, %d): %d, %s", now, 20+i, err, outText(out))
		}
		n.Receive(now, 2, frameOf(t, reply(8, 0, 20+i, n.Seq(), 5, 1)))
	}
	n.Broken(now, 2)
}

// unwritten is what a node does, but for its journal.
func unwritten(out api.Out) string {
	out.Journal, out.Replace = "", false
	return outText(out)
}

// P21: what was held back is tried again by the same TTL, each time a second later; then the search goes on as any.
func TestSearchTriedAgain(t *testing.T) {
	for step, s := range searchSteps {
		n := newNode(t, 5)
		tick := func(now uint64, want string) {
			t.Helper()
			if got := unwritten(n.Tick(now)); got != want {
				t.Errorf("step %d: Tick(%d): %s, want %s", step, now, got, want)
			}
		}
		ask := func(ttl int) string {
			return fmt.Sprintf("to 0: ask ttl%d hops0 id%d 9/? from 5/%d", ttl, n.Seq(), n.Seq()+1)
		}
		// The steps ahead of that are late, so that their requests do not count any more.
		at := 10000 * uint64(step+1)
		if step > 0 {
			wantSend(t, n, 10000, 9, "x", asks(1, 1, 9, 2))
		}
		for i := 1; i < step; i++ {
			tick(10000*uint64(i+1), ask(searchSteps[i].ttl))
		}
		fivePaced(t, n, at-1)
		if step > 0 {
			tick(at, "drop TooMany")
		} else {
			wantSend(t, n, at, 9, "x", "drop TooMany")
		}
		fivePaced(t, n, at+999)
		tick(at+999, "")
		tick(at+1000, "drop TooMany")
		tick(at+1999, "")
		for _, later := range searchSteps[step:] {
			now := at + 2000 + later.at - s.at
			tick(now-1, "")
			tick(now, ask(later.ttl))
		}
		end := at + 2000 + searchEnd - s.at
		tick(end-1, "")
		tick(end, "drop NotFound")
		tick(end+90000, "")
	}
}

// P21: requests of others that are told on, and what did not go out, do not count as one's own.
func TestSearchTooManyOwnAlone(t *testing.T) {
	n, _ := bootNode(t, 5, 0, api.Record{Own: true, Seq: 3}) // 4
	for i := range uint32(6) {
		wantSend(t, n, 1500, 20+i, "x", "drop Silent")
	}
	for i := range uint32(6) {
		n.Receive(2000, 7, frameOf(t, request(3, 0, i, 90, unknown, 3, 9)))
	}
	for i := range uint32(5) {
		wantSend(t, n, 2000, 30+i, "x", asks(1, 1+i, 30+i, 5+i))
	}
	wantSend(t, n, 2000, 40, "x", "drop TooMany")
}

// P21: where the time went back, a request that went out later counts.
func TestSearchTooManyBackInTime(t *testing.T) {
	n := newNode(t, 5)
	for i := range uint32(3) {
		wantSend(t, n, 5000, 20+i, "x", asks(1, 1+i, 20+i, 2+i))
	}
	wantSend(t, n, 0, 23, "x", asks(1, 4, 23, 5))
	wantSend(t, n, 0, 24, "x", asks(1, 5, 24, 6))
	wantSend(t, n, 999, 25, "x", "drop TooMany")
	wantSend(t, n, 1000, 26, "x", asks(1, 6, 26, 7))
	wantSend(t, n, 1000, 27, "x", asks(1, 7, 27, 8))
	wantSend(t, n, 1000, 28, "x", "drop TooMany")
	wantSend(t, n, 5500, 29, "x", asks(1, 8, 29, 9))
	wantSend(t, n, 5500, 30, "x", asks(1, 9, 30, 10))
	wantSend(t, n, 5500, 31, "x", "drop TooMany") // those of 5000, and two
	wantSend(t, n, 6000, 32, "x", asks(1, 10, 32, 11))
}

// P16, P21: with a Reply to oneself all that waits goes out in its order, and the search ends; whatever its TTL.
func TestSearchFoundByReply(t *testing.T) {
	for _, ttl := range []int{1, 2, 8} {
		n := newNode(t, 5)
		wantSend(t, n, 0, 9, "one", asks(1, 1, 9, 2))
		wantSend(t, n, 1, 9, "", "")
		wantSend(t, n, 2, 9, "one", "")
		wantHeard(t, n, heard{10, 7, reply(ttl, 2, 9, 4, 5, 500), "9=4; " + strings.Join([]string{sends(7, 1, 9, "one"), sends(7, 2, 9, ""), sends(7, 3, 9, "one")}, "; ")})
		wantLines(t, n, "9+4/3 by 7 to 3010 []") // it is used
		wantTick(t, n, 240, "")
		wantTick(t, n, 2999, "")
		// Nothing waits any more: a better route sends nothing again.
		wantHeard(t, n, heard{2999, 6, reply(8, 0, 9, 4, 5, 10), ""})
		// The next search is one of its own.
		wantSend(t, n, 3009, 9, "two", "9=5; own 3; to 0: ask ttl1 hops0 id2 9/5 from 5/3")
		wantTick(t, n, 3248, "")
		wantTick(t, n, 3249, "own 4; to 0: ask ttl3 hops0 id3 9/5 from 5/4")
	}
}

// P16, P21: what waits goes out with a Reply that says nothing new, too, if a route is there.
func TestSearchFoundByStaleReply(t *testing.T) {
	n := newNode(t, 5)
	wantSend(t, n, 0, 9, "x", asks(1, 1, 9, 2))
	wantHeard(t, n,
		heard{1, 7, reply(1, 0, 9, 4, 3, 500), "9=4; drop NoTTL"}, // a route, but by a Reply for another
		heard{2, 6, reply(8, 0, 9, 4, 5, 9000), sends(7, 1, 9, "x") + "; drop Stale"},
		heard{3, 6, reply(8, 0, 9, 4, 5, 9000), "drop Stale"},
	)
	wantLines(t, n, "9+4/1 by 7 to 3002 []")
}

// P16, P21: replies by which no route to the destination is there send nothing, and the search goes on.
func TestSearchNotFoundByReply(t *testing.T) {
	n := fullNode(t)
	wantSend(t, n, 0, 9, "x", asks(1, 1, 9, 2))
	wantSend(t, n, 0, 90, "x", asks(1, 2, 90, 3))
	wantHeard(t, n,
		heard{1, 7, reply(8, 0, 9, 4, 5, 6000), "drop NoRoom"},
		heard{1, 7, reply(8, 0, 17, 5, 5, 6000), "17=5"}, // of another destination
		heard{1, 7, reply(8, 0, 5, 5, 5, 6000), "drop Again"},
		heard{1, 7, reply(8, 0, 0, 5, 5, 6000), ""},
	)
	wantTick(t, n, 240, "own 4; own 5; to 0: ask ttl3 hops0 id3 9/? from 5/4; to 0: ask ttl3 hops0 id4 90/? from 5/5")
	n = newNode(t, 5)
	wantSend(t, n, 0, 9, "x", asks(1, 1, 9, 2))
	wantHeard(t, n,
		heard{1, 7, reply(8, 0, 9, 4, 5, 0), "9=4"},                // without time
		heard{1, 7, reply(8, 0, 9, 3, 5, 6000), "9=5; drop Stale"}, // older than what has ended
	)
	wantTick(t, n, 240, "own 3; to 0: ask ttl3 hops0 id2 9/5 from 5/3")
}

// P21, P22: where a route is there when the time has come, what waits goes out then, and not ahead of it; the search ends.
func TestSearchFoundByTick(t *testing.T) {
	n := newNode(t, 5)
	wantSend(t, n, 0, 9, "x", asks(1, 1, 9, 2))
	wantSend(t, n, 0, 9, "y", "")
	wantHeard(t, n, heard{1, 7, request(1, 0, 1, 90, unknown, 9, 4), "9=4; drop NoTTL"})
	wantSend(t, n, 2, 9, "z", sends(7, 1, 9, "z")) // it does not wait
	wantTick(t, n, 239, "")
	wantTick(t, n, 240, sends(7, 2, 9, "x")+"; "+sends(7, 3, 9, "y"))
	wantLines(t, n, "9+4/1 by 7 to 3240 []")
	wantTick(t, n, 640, "")
	wantSeq(t, n, 2)
}

// P21: a route counts at each step: behind what was held back, at the last time, and not where it ends just then.
func TestSearchFoundAtSteps(t *testing.T) {
	found := func(n *mesh.Node, at uint64, life uint32) {
		t.Helper()
		wantHeard(t, n, heard{at, 7, reply(1, 0, 9, 4, 3, life), "9=4; drop NoTTL"})
	}
	n, _ := bootNode(t, 5, 0, api.Record{Own: true, Seq: 3})
	wantSend(t, n, 1999, 9, "x", "drop Silent")
	found(n, 2000, 6000)
	wantTick(t, n, 2998, "")
	wantTick(t, n, 2999, sends(7, 1, 9, "x"))

	for _, c := range []struct {
		life uint32
		want string
	}{{101, sends(7, 1, 9, "x")}, {100, "9=5; drop NotFound"}} {
		n = newNode(t, 5)
		wantSend(t, n, 0, 9, "x", asks(1, 1, 9, 2))
		for _, s := range searchSteps[1:] {
			n.Tick(s.at)
		}
		found(n, searchEnd-100, c.life)
		wantTick(t, n, searchEnd, c.want)
		wantTick(t, n, searchEnd+90000, map[bool]string{true: "9=5"}[c.life == 101])
	}
}

// P21: while it is silent no request goes out; each is tried again a second behind, as what it was.
func TestSearchSilent(t *testing.T) {
	n, _ := bootNode(t, 5, 0, api.Record{Own: true, Seq: 3}, api.Record{Addr: 9, Seq: 6})
	wantSend(t, n, 500, 9, "x", "drop Silent")
	wantSend(t, n, 600, 9, "y", "")
	wantSend(t, n, 600, 8, "x", "drop Silent")
	wantSeq(t, n, 4)
	wantTick(t, n, 1499, "")
	wantTick(t, n, 1500, "drop Silent")
	wantTick(t, n, 1600, "drop Silent")
	// It is silent for longer, as data has come by here.
	wantHeard(t, n, heard{1700, 7, data(8, 1, 3, 90, "x"), "to 7: lose ttl1 [{90 0}]; drop Silent"})
	wantTick(t, n, 2500, "drop Silent")
	wantTick(t, n, 2600, "drop Silent")
	wantTick(t, n, 3600, drops(2, "Silent"))
	wantTick(t, n, 3700, "")
	wantTick(t, n, 4600, "own 5; own 6; to 0: ask ttl1 hops0 id1 9/7 from 5/5; to 0: ask ttl1 hops0 id2 8/? from 5/6")
	wantTick(t, n, 4840, "own 7; own 8; to 0: ask ttl3 hops0 id3 9/7 from 5/7; to 0: ask ttl3 hops0 id4 8/? from 5/8")
	// It goes by the very time when silence ends.
	n, _ = bootNode(t, 5, 0, api.Record{Own: true, Seq: 3})
	wantSend(t, n, 1999, 8, "x", "drop Silent")
	wantSend(t, n, 2000, 9, "x", asks(1, 1, 9, 5))
}

// P21: texts that overflow while it is silent, or too many go out.
func TestSearchHeldBackOverflow(t *testing.T) {
	n, _ := bootNode(t, 5, 0, api.Record{Own: true, Seq: 3})
	for i, want := range []string{"drop Silent", "", "", "", "drop Overflow"} {
		wantSend(t, n, 0, 9, fmt.Sprint(i), want)
	}
	wantTick(t, n, 2000, asks(1, 1, 9, 5))
	learnFound(t, n, 2001, 9, sends(2, 1, 9, "1"), sends(2, 2, 9, "2"), sends(2, 3, 9, "3"), sends(2, 4, 9, "4"))
}

// P22: where none is due, nothing is done but that routes end.
func TestTickNone(t *testing.T) {
	n := newNode(t, 5)
	for _, now := range []uint64{0, 1, 1 << 40, mostTime, 0} {
		if out := n.Tick(now); !reflect.DeepEqual(out, api.Out{}) {
			t.Errorf("Tick(%d) = %+v", now, out)
		}
	}
	n = between(t)
	wantTick(t, n, 2999, "")
	wantTick(t, n, 3000, "3=10")
	wantTick(t, n, 6000, "8=5")
	wantTick(t, n, 6000, "")
	wantLines(t, n, "3-10/2 by 7 to 0 []", "8-5/4 by 2 to 0 []")
	wantSeq(t, n, 1)
}

// P22: of several that are due, that of the least time is first, of one time that which was set first: not that which began first, nor that of the least destination.
func TestTickOrder(t *testing.T) {
	n, _ := bootNode(t, 5, 0, api.Record{Own: true, Seq: 3})
	wantSend(t, n, 260, 10, "x", "drop Silent")
	wantTick(t, n, 1260, "drop Silent")
	wantSend(t, n, 1900, 20, "x", "drop Silent") // for 2900
	wantTick(t, n, 2260, asks(1, 1, 10, 5))
	wantTick(t, n, 2500, asks(3, 2, 10, 6)) // for 2900 too
	wantTick(t, n, 2900, "own 7; own 8; to 0: ask ttl1 hops0 id3 20/? from 5/7; to 0: ask ttl5 hops0 id4 10/? from 5/8")

	n = newNode(t, 5)
	for i, dest := range []uint32{30, 10, 40, 20} {
		wantSend(t, n, 0, dest, "x", asks(1, 1+uint32(i), dest, 2+uint32(i)))
	}
	wantTick(t, n, 1000, strings.Join([]string{
		"own 6; own 7; own 8; own 9",
		"to 0: ask ttl3 hops0 id5 30/? from 5/6", "to 0: ask ttl3 hops0 id6 10/? from 5/7", "to 0: ask ttl3 hops0 id7 40/? from 5/8", "to 0: ask ttl3 hops0 id8 20/? from 5/9",
	}, "; "))
}

// P22: a Tick that is late does one step of each search, in the order of their times.
func TestTickSeveralTimes(t *testing.T) {
	n := newNode(t, 5)
	for i, dest := range []uint32{30, 10, 20} {
		wantSend(t, n, uint64(2-i), dest, "x", asks(1, 1+uint32(i), dest, 2+uint32(i)))
	}
	wantTick(t, n, 9000, strings.Join([]string{
		"own 5; own 6; own 7",
		"to 0: ask ttl3 hops0 id4 20/? from 5/5", "to 0: ask ttl3 hops0 id5 10/? from 5/6", "to 0: ask ttl3 hops0 id6 30/? from 5/7",
	}, "; "))
	wantTick(t, n, 9399, "")
	// Found, asked and given up in one Tick.
	wantHeard(t, n, heard{9399, 7, request(1, 0, 1, 90, unknown, 10, 4), "10=4; drop NoTTL"})
	wantTick(t, n, 9400, "own 8; own 9; to 0: ask ttl5 hops0 id7 20/? from 5/8; "+sends(7, 1, 10, "x")+"; to 0: ask ttl5 hops0 id8 30/? from 5/9")
}

// P22: several that end in one Tick: what waits is dropped, each text once; what has a route is sent.
func TestTickEndsSeveral(t *testing.T) {
	n := newNode(t, 5)
	wantSend(t, n, 0, 9, "x", asks(1, 1, 9, 2))
	wantSend(t, n, 0, 8, "x", asks(1, 2, 8, 3))
	wantSend(t, n, 0, 8, "y", "")
	wantSend(t, n, 0, 7, "z", asks(1, 3, 7, 4))
	for i := range uint64(5) {
		if out := n.Tick(5000 * (1 + i)); len(out.Frames) != 3 {
			t.Errorf("Tick %d: %s", i, outText(out))
		}
	}
	wantHeard(t, n, heard{29999, 7, request(1, 0, 1, 90, unknown, 9, 4), "9=4; drop NoTTL"})
	wantTick(t, n, 30000, sends(7, 1, 9, "x")+"; "+drops(3, "NotFound"))
	wantTick(t, n, 90000, "9=5")
	wantSend(t, n, 90000, 8, "z", asks(1, 19, 8, 20))
}

// P22: a time that goes back is as any other: what is due then is due, and a new time counts from it.
func TestTickBackInTime(t *testing.T) {
	n := newNode(t, 5)
	wantSend(t, n, 5000, 9, "x", asks(1, 1, 9, 2)) // 5240
	wantTick(t, n, 0, "")
	wantSend(t, n, 100, 8, "x", asks(1, 2, 8, 3)) // 340, set later
	wantTick(t, n, 339, "")
	wantTick(t, n, 340, asks(3, 3, 8, 4)) // 740
	wantTick(t, n, 5239, asks(5, 4, 8, 5))
	wantTick(t, n, 5240, asks(3, 5, 9, 6))
	wantTick(t, n, 0, "")
	wantTick(t, n, 5639, "")
}

// P1: at the greatest times each Tick ends, though the times of the next steps wrap round.
func TestTickGreatestTimes(t *testing.T) {
	for _, at := range []uint64{mostTime, mostTime - 1, mostTime - 239, mostTime - 999, mostTime - 1000} {
		n := newNode(t, 5)
		for i := range uint32(8) {
			n.Send(at, 20+i, "x")
		}
		for range 40 {
			n.Tick(at)
			n.Tick(mostTime)
		}
	}
}

// P2: a text that waits is what was handed in, and what comes out is the caller's: to change it changes no node.
func TestSearchListsAreApart(t *testing.T) {
	n := newNode(t, 5)
	out, _ := n.Send(0, 9, "x")
	clear(out.Frames[:cap(out.Frames)])
	out = n.Tick(240)
	kept := outText(out)
	n.Tick(640)
	if got := outText(out); got != kept || kept != asks(3, 2, 9, 3) {
		t.Errorf("behind another call: %s, before %s", got, kept)
	}
	n, _ = bootNode(t, 5, 0, api.Record{Own: true, Seq: 3})
	out, _ = n.Send(0, 9, "x")
	clear(out.Dropped[:cap(out.Dropped)])
	if got := outText(n.Tick(1000)); got != "drop Silent" {
		t.Errorf("behind a changed list: %s", got)
	}
	// Nodes do not touch one another.
	one, two := newNode(t, 5), newNode(t, 5)
	wantSend(t, one, 0, 9, "x", asks(1, 1, 9, 2))
	wantTick(t, two, 240, "")
	wantSend(t, two, 240, 9, "y", asks(1, 1, 9, 2))
	learnFound(t, one, 240, 9, sends(2, 1, 9, "x"))
	learnFound(t, two, 240, 9, sends(2, 1, 9, "y"))
}

// Several goroutines may send and tick: each call is whole, so ids and numbers are told once.
func TestSearchShared(t *testing.T) {
	n := newNode(t, 5)
	learn(t, n, 5, 0, 8, 4, 1, 2, 1<<30)
	const workers, calls = 8, 200
	outs := make([][]api.Out, workers)
	var all sync.WaitGroup
	for w := range workers {
		all.Go(func() {
			for i := range uint64(calls) {
				data, _ := n.Send(i*100, 8, "x")
				ask, _ := n.Send(i*100, 100+uint32(w), "x")
				outs[w] = append(outs[w], data, ask, n.Tick(i*100))
				n.Seq()
				n.Routes()
			}
		})
	}
	all.Wait()
	asked, sent, own := map[uint32]int{}, map[uint32]int{}, map[uint32]int{}
	for _, out := range slices.Concat(outs...) {
		for _, f := range out.Frames {
			p, _ := mesh.Decode([]byte(f.Bytes))
			if p.Kind == api.Request {
				asked[p.ID]++
				own[p.FromSeq]++
			} else {
				sent[p.ID]++
			}
		}
	}
	if len(sent) != workers*calls || len(asked) != len(own) || len(asked) < 5 || int(n.Seq()) != 1+len(asked) {
		t.Errorf("%d data, %d requests of %d numbers, Seq %d", len(sent), len(asked), len(own), n.Seq())
	}
	for id := range uint32(len(asked)) {
		if asked[1+id] != 1 || own[2+id] != 1 {
			t.Errorf("the request %d went out %d times, the number %d %d times", 1+id, asked[1+id], 2+id, own[2+id])
		}
	}
	for id := range uint32(workers * calls) {
		if sent[1+id] != 1 {
			t.Errorf("the data %d went out %d times", 1+id, sent[1+id])
		}
	}
}

// P20 to P22: nodes 10, 20, 30 in a row: 10 sends to 30.
func TestSearchInARow(t *testing.T) {
	a, b, c := newNode(t, 10), newNode(t, 20), newNode(t, 30)
	wantSend(t, a, 0, 30, "hello", "own 2; to 0: ask ttl1 hops0 id1 30/? from 10/2")
	wantHeard(t, b, heard{0, 10, request(1, 0, 1, 30, unknown, 10, 2), "10=2; drop NoTTL"})
	wantTick(t, a, 240, "own 3; to 0: ask ttl3 hops0 id2 30/? from 10/3")
	wantHeard(t, b, heard{240, 10, request(3, 0, 2, 30, unknown, 10, 3), "10=3; to 0: ask ttl2 hops1 id2 30/? from 10/3"})
	wantHeard(t, a, heard{240, 20, request(2, 1, 2, 30, unknown, 10, 3), "drop Again"})
	wantHeard(t, c, heard{240, 20, request(2, 1, 2, 30, unknown, 10, 3), "10=3; to 20: reply ttl8 hops0 30/1 for 10 life6000"})
	wantHeard(t, b, heard{240, 30, reply(8, 0, 30, 1, 10, 6000), "30=1; to 10: reply ttl7 hops1 30/1 for 10 life6000"})
	wantHeard(t, a, heard{240, 20, reply(7, 1, 30, 1, 10, 6000), `30=1; to 20: data ttl8 id1 10 to 30 "hello"`})
	wantHeard(t, b, heard{240, 10, data(8, 1, 10, 30, "hello"), `to 30: data ttl7 id1 10 to 30 "hello"`})
	wantHeard(t, c, heard{240, 20, data(7, 1, 10, 30, "hello"), `came 10 "hello"`})
	// The way back was learned of the request.
	wantSend(t, c, 241, 10, "thanks", `to 20: data ttl8 id1 30 to 10 "thanks"`)
	wantTick(t, a, 640, "")
	// A link is gone: 20 tells who used it, and 10 asks anew by the greater number.
	wantNodeBroken(t, b, 700, 30, "30=2; to 0: lose ttl1 [{30 2}]")
	wantHeard(t, a, heard{700, 20, lose(api.Lost{Dest: 30, Seq: 2}), "30=2"})
	wantSend(t, a, 700, 30, "again", "own 4; to 0: ask ttl1 hops0 id3 30/2 from 10/4")
}
