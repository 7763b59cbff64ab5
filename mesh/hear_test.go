package mesh_test

import (
	"fmt"
	"math"
	"slices"
	"testing"

	"mesh/api"
	"mesh/mesh"
)

// broken are bytes that are no frame, made of good ones.
func broken(t testing.TB) [][]byte {
	l := [][]byte{nil, {}, {1}, make([]byte, 17), make([]byte, 300)}
	for _, c := range frames {
		b := unhex(t, c.frame)
		ended := slices.Clone(b)
		ended[0] = 0 // no TTL
		l = append(l, b[:len(b)-1], append(slices.Clone(b), 0), ended)
	}
	return l
}

// P14: bytes that are no frame, and frames from 0 and from self, are dropped; nothing else is done, be the node silent or not.
func TestReceiveBadFrame(t *testing.T) {
	silent, _ := bootNode(t, 5, 0, api.Record{Own: true, Seq: 4}, api.Record{Addr: 8, Seq: 6})
	for _, n := range []*mesh.Node{newNode(t, 5), between(t), silent} {
		seq, lines := n.Seq(), fmt.Sprint(n.Routes())
		bad := func(from uint32, b []byte) {
			t.Helper()
			if got := outText(n.Receive(1000, from, b)); got != "drop BadFrame" {
				t.Errorf("from %d, %x: %s", from, b, got)
			}
		}
		for _, b := range broken(t) {
			for _, from := range []uint32{7, 0, 5} {
				bad(from, b)
			}
		}
		for _, c := range frames {
			bad(0, unhex(t, c.frame))
			bad(5, unhex(t, c.frame))
		}
		bad(5, frameOf(t, request(3, 0, 1, 5, 90, 3, 9)))
		bad(0, frameOf(t, data(8, 1, 3, 8, "x")))
		wantSeq(t, n, seq)
		if got := fmt.Sprint(n.Routes()); got != lines {
			t.Errorf("Routes: %s, want %s", got, lines)
		}
	}
	// It is silent no longer than it was: data for another that was dropped so counts as nothing.
	wantHeard(t, silent, heard{2000, 7, data(8, 1, 3, 5, "x"), `came 3 "x"`})
}

// P14: while it is silent a node learns nothing, answers nothing and tells nothing on.
func TestSilentNothing(t *testing.T) {
	for _, p := range []api.Packet{
		request(3, 0, 1, 5, 90, 3, 9), request(3, 0, 1, 90, unknown, 3, 9), request(3, 0, 1, 90, unknown, 5, 9), request(1, 0, 1, 8, unknown, 8, 99),
		reply(8, 0, 8, 9, 5, 6000), reply(8, 0, 8, 9, 3, 6000), reply(1, 0, 5, 9, 3, 6000),
		lose(api.Lost{Dest: 8, Seq: 90}), lose(api.Lost{Dest: 9}),
		data(8, 1, 3, 5, "x"), data(1, 1, 3, 5, ""),
	} {
		n, _ := bootNode(t, 5, 0, api.Record{Own: true, Seq: 4}, api.Record{Addr: 8, Seq: 6})
		wantHeard(t, n, heard{0, 7, p, "drop Silent"}, heard{1999, 7, p, "drop Silent"})
		wantSeq(t, n, 5)
		wantLines(t, n, "8-7/0 by 0 to 0 []")
		// Silence was not made longer by that, and a request was not remembered.
		wantHeard(t, n,
			heard{2000, 7, request(3, 0, 1, 5, unknown, 3, 9), "3=9; to 7: reply ttl8 hops0 5/5 for 3 life6000"},
			heard{2000, 7, data(8, 1, 3, 5, "x"), `came 3 "x"`},
		)
	}
}

// P14: of data of others a silent node tells who sent it by here that there is no route, and is silent anew.
func TestSilentData(t *testing.T) {
	n, _ := bootNode(t, 5, 1000, api.Record{Own: true, Seq: 4}, api.Record{Addr: 8, Seq: 6}, api.Record{Addr: 9, Seq: 1<<32 - 1}, api.Record{Addr: 0, Seq: 2})
	wantHeard(t, n,
		heard{1000, 7, data(8, 1, 3, 8, "x"), "to 7: lose ttl1 [{8 7}]; drop Silent"},
		heard{2000, 6, data(1, 1, 3, 8, ""), "to 6: lose ttl1 [{8 7}]; drop Silent"}, // 1 as TTL, and the number does not grow
		heard{2500, 7, data(8, 1, 3, 9, "x"), "to 7: lose ttl1 [{9 4294967295}]; drop Silent"},
		heard{2600, 7, data(8, 1, 3, 2, "x"), "to 7: lose ttl1 [{2 0}]; drop Silent"},
		heard{2700, 7, data(8, 1, 5, 0, "x"), "to 7: lose ttl1 [{0 3}]; drop Silent"},
		heard{4699, 7, data(8, 1, 3, 5, "x"), "drop Silent"},
		heard{4699, 7, data(8, 1, 3, 3, "x"), "to 7: lose ttl1 [{3 0}]; drop Silent"},
		heard{4700, 7, data(8, 1, 3, 5, "x"), "drop Silent"},
		heard{6698, 7, request(3, 0, 1, 5, unknown, 3, 9), "drop Silent"},
		heard{6699, 7, data(8, 1, 3, 8, "x"), "8=8; to 7: lose ttl1 [{8 8}]; drop NoRoute"},
		heard{6700, 7, data(8, 1, 3, 5, "x"), `came 3 "x"`},
	)
	wantLines(t, n, "0-3/0 by 0 to 0 []", "8-8/0 by 0 to 0 []", "9-4294967295/0 by 0 to 0 []")
}

// P15: a request of self, and one that was seen, is dropped and teaches nothing, whatever else it has.
func TestRequestAgain(t *testing.T) {
	n := newNode(t, 5)
	wantHeard(t, n,
		heard{0, 7, request(3, 0, 1, 8, 4, 5, 9), "drop Again"},
		heard{0, 7, request(3, 0, 1, 5, 90, 5, 9), "drop Again"},
		heard{0, 7, request(3, 2, 1, 90, unknown, 3, 9), "3=9; to 0: ask ttl2 hops3 id1 90/? from 3/9"},
		heard{0, 7, request(3, 2, 1, 90, unknown, 3, 9), "drop Again"},
		heard{1, 6, request(1, 0, 1, 5, 90, 3, 10), "drop Again"}, // but for From and ID all is unlike
		heard{1, 7, request(3, 2, 2, 90, unknown, 3, 9), "to 0: ask ttl2 hops3 id2 90/? from 3/9"},
		heard{1, 7, request(3, 2, 1, 90, unknown, 4, 9), "4=9; to 0: ask ttl2 hops3 id1 90/? from 4/9"},
		heard{1, 7, request(3, 2, 3, 90, unknown, 1, 9), "1=9; to 0: ask ttl2 hops3 id3 90/? from 1/9"},
		heard{1, 7, request(3, 2, 1<<32-1, 90, unknown, 3, 9), "to 0: ask ttl2 hops3 id4294967295 90/? from 3/9"},
		heard{1, 7, request(3, 2, 0, 90, unknown, 3, 9), "to 0: ask ttl2 hops3 id0 90/? from 3/9"},
		heard{1, 7, request(3, 2, 0, 90, unknown, 3, 9), "drop Again"},
	)
	wantSeq(t, n, 1)
	wantLines(t, n, "1+9/3 by 7 to 3001 []", "3+9/3 by 7 to 3001 []", "4+9/3 by 7 to 3001 []")
}

// P15: a request is remembered for 1280 milliseconds from when it was first heard, also where it was dropped for want of TTL or of a route.
func TestRequestRemembered(t *testing.T) {
	for _, at := range []uint64{0, 1, 5000, 1 << 40} {
		n := newNode(t, 5)
		ask := request(1, 0, 1, 90, unknown, 3, 9)
		wantHeard(t, n,
			heard{at, 7, ask, "3=9; drop NoTTL"},
			heard{at + 1000, 7, ask, "drop Again"},
			heard{at + 1279, 7, ask, "drop Again"},
			heard{at + 1280, 7, ask, "drop NoTTL"},
			heard{at + 2559, 7, ask, "drop Again"},
			heard{at + 2560, 7, ask, "drop NoTTL"},
		)
	}
	n := newNode(t, 5)
	wantHeard(t, n,
		heard{0, 7, request(1, 9, 1, 90, unknown, 3, 9), "3=9; drop NoTTL"},
		heard{1, 7, lose(api.Lost{Dest: 3}), "3=10"},
		heard{2, 7, request(1, 9, 2, 5, unknown, 3, 9), "drop NoRoute"},
		heard{3, 7, request(1, 0, 2, 5, unknown, 3, 90), "drop Again"},
	)
}

// P15: of more than 16 requests the one that ends first is forgotten, of several of a time the one that came first.
func TestRequestForgotten(t *testing.T) {
	ask := func(id uint32) api.Packet { return request(1, 0, id, 90, unknown, 3, 9) }
	var ids []uint32
	for i := range uint32(16) {
		ids = append(ids, i*7%16) // out of order, so that no order but that of coming is theirs
	}
	for _, step := range []uint64{0, 1, 80} {
		for more := range 16 {
			n := newNode(t, 5)
			learn(t, n, 5, 0, 3, 9, 1, 7, 6000)
			for i, id := range ids {
				wantHeard(t, n, heard{uint64(i) * step, 7, ask(id), "drop NoTTL"})
			}
			now := 15 * step
			for i := range more {
				wantHeard(t, n, heard{now, 7, ask(100 + uint32(i)), "drop NoTTL"})
			}
			for _, id := range ids[more:] {
				wantHeard(t, n, heard{now, 7, ask(id), "drop Again"})
			}
			if more > 0 {
				wantHeard(t, n, heard{now, 7, ask(ids[more-1]), "drop NoTTL"})
			}
		}
	}
}

// P15: one that is heard again when it had ended is remembered anew: it ends behind those that came between.
func TestRequestRememberedAnew(t *testing.T) {
	n := newNode(t, 5)
	learn(t, n, 5, 0, 3, 9, 1, 7, 6000)
	ask := func(id uint32) api.Packet { return request(1, 0, id, 90, unknown, 3, 9) }
	wantHeard(t, n, heard{0, 7, ask(1), "drop NoTTL"})
	for id := range uint32(15) {
		wantHeard(t, n, heard{1000, 7, ask(20 + id), "drop NoTTL"})
	}
	wantHeard(t, n,
		heard{1280, 7, ask(1), "drop NoTTL"},
		heard{1281, 7, ask(2), "drop NoTTL"},
		heard{1281, 7, ask(1), "drop Again"},
		heard{1281, 7, ask(21), "drop Again"},
		heard{1281, 7, ask(20), "drop NoTTL"},
	)
}

// P15: where the time went back, one that came later may end first; it is forgotten ahead of those that came before it.
func TestRequestForgottenBackInTime(t *testing.T) {
	n := newNode(t, 5)
	learn(t, n, 5, 0, 3, 9, 1, 7, 6000)
	ask := func(id uint32) api.Packet { return request(1, 0, id, 90, unknown, 3, 9) }
	for id := range uint32(15) {
		wantHeard(t, n, heard{1000, 7, ask(id), "drop NoTTL"})
	}
	wantHeard(t, n,
		heard{500, 7, ask(50), "drop NoTTL"},
		heard{1000, 7, ask(50), "drop Again"},
		heard{1000, 7, ask(60), "drop NoTTL"},
		heard{1000, 7, ask(0), "drop Again"},
		heard{1000, 7, ask(50), "drop NoTTL"},
		heard{1000, 7, ask(0), "drop NoTTL"},
	)
}

// fullNode is node 5 with routes to 10 .. 17, all by 7.
func fullNode(t testing.TB) *mesh.Node {
	n := newNode(t, 5)
	for dest := range uint32(8) {
		learn(t, n, 5, 0, 10+dest, 4, 1, 7, 6000)
	}
	return n
}

// P15: where there is no room for the line of From, nothing is done but that the request is remembered.
func TestRequestNoRoom(t *testing.T) {
	n := fullNode(t)
	lines := fmt.Sprint(n.Routes())
	wantHeard(t, n,
		heard{0, 7, request(3, 0, 1, 5, 90, 3, 9), "drop NoRoom"},
		heard{0, 7, request(3, 0, 1, 5, 90, 3, 9), "drop Again"},
		heard{1, 7, request(3, 0, 2, 10, unknown, 3, 9), "drop NoRoom"},
		heard{1, 7, request(3, 0, 3, 90, unknown, 3, 9), "drop NoRoom"},
		heard{1, 7, request(1, 0, 4, 90, unknown, 3, 9), "drop NoRoom"},
		heard{1, 7, request(3, 0, 4, 90, unknown, 3, 9), "drop Again"},
	)
	wantSeq(t, n, 1)
	if got := fmt.Sprint(n.Routes()); got != lines {
		t.Errorf("Routes: %s, want %s", got, lines)
	}
	wantHeard(t, n, heard{1, 7, request(3, 0, 4, 90, unknown, 10, 5), "10=5; to 0: ask ttl2 hops1 id4 90/? from 10/5"})
}

// P15: what a request teaches of who asks: a line by the neighbour, one hop more, for 3000 milliseconds.
func TestRequestTeaches(t *testing.T) {
	n := newNode(t, 5)
	wantHeard(t, n, heard{10, 7, request(1, 0, 1, 90, unknown, 7, 9), "7=9; drop NoTTL"})
	wantLines(t, n, "7+9/1 by 7 to 3010 []")
	wantHeard(t, n, heard{10, 6, request(1, 254, 1, 90, unknown, 3, 0), "3=0; drop NoTTL"})
	wantLines(t, n, "3+0/255 by 6 to 3010 []", "7+9/1 by 7 to 3010 []")
	wantHeard(t, n, heard{20, 8, request(1, 255, 2, 90, unknown, 3, 1), "3=1; drop NoTTL"})
	wantLines(t, n, "3+1/255 by 8 to 3020 []", "7+9/1 by 7 to 3010 []")
	wantHeard(t, n, heard{30, 6, request(1, 255, 3, 90, unknown, 3, 1), "drop NoTTL"}) // no better: the line stays, and is used
	wantLines(t, n, "3+1/255 by 8 to 3030 []", "7+9/1 by 7 to 3010 []")
	wantHeard(t, n, heard{40, 6, request(1, 0, 4, 90, unknown, 3, 0), "drop NoTTL"}) // worse
	wantLines(t, n, "3+1/255 by 8 to 3040 []", "7+9/1 by 7 to 3010 []")
	wantHeard(t, n, heard{50, 6, request(1, 3, 5, 90, unknown, 3, 1), "drop NoTTL"}) // better
	wantLines(t, n, "3+1/4 by 6 to 3050 []", "7+9/1 by 7 to 3010 []")
	wantHeard(t, n, heard{50, 6, lose(api.Lost{Dest: 3}), "3=2"}, heard{60, 6, request(1, 9, 6, 90, unknown, 3, 1), "drop NoTTL"}) // what has ended is not used
	wantLines(t, n, "3-2/4 by 6 to 0 []", "7+9/1 by 7 to 3010 []")
	learn(t, n, 5, 60, 7, 10, 1, 7, 9000)
	wantHeard(t, n, heard{70, 7, request(1, 5, 2, 90, unknown, 7, 9), "drop NoTTL"}) // it holds longer than that
	wantLines(t, n, "3-2/4 by 6 to 0 []", "7+10/1 by 7 to 9060 []")
}

// P15: a request from the address 0 has no way back: nothing is learned, but it is done as any.
func TestRequestFromNone(t *testing.T) {
	n := between(t)
	lines := fmt.Sprint(n.Routes())
	wantHeard(t, n,
		heard{1, 7, request(3, 0, 1, 90, unknown, 0, 9), "to 0: ask ttl2 hops1 id1 90/? from 0/9"},
		heard{1, 7, request(3, 0, 1, 90, unknown, 0, 9), "drop Again"},
		heard{1, 7, request(1, 0, 2, 90, unknown, 0, 9), "drop NoTTL"},
		heard{1, 7, request(3, 0, 3, 8, unknown, 0, 9), "drop NoRoute"},
		heard{1, 7, request(3, 0, 4, 5, 6, 0, 9), "own 6; drop NoRoute"},
	)
	if got := fmt.Sprint(n.Routes()); got != lines {
		t.Errorf("Routes: %s, want %s", got, lines)
	}
}

// P15: a request for self is answered by a number that is at least what was asked for, whatever its TTL.
func TestRequestForSelf(t *testing.T) {
	const most = math.MaxUint32
	n, _ := bootNode(t, 5, 0, api.Record{Own: true, Seq: 9}) // 10
	for i, c := range []struct {
		seq  int64
		want string
		own  uint32
	}{
		{unknown, "to 7: reply ttl8 hops0 5/10 for 3 life6000", 10},
		{0, "to 7: reply ttl8 hops0 5/10 for 3 life6000", 10},
		{9, "to 7: reply ttl8 hops0 5/10 for 3 life6000", 10},
		{10, "to 7: reply ttl8 hops0 5/10 for 3 life6000", 10},
		{11, "own 11; to 7: reply ttl8 hops0 5/11 for 3 life6000", 11},
		{1 << 31, "own 2147483648; to 7: reply ttl8 hops0 5/2147483648 for 3 life6000", 1 << 31},
		{1<<31 - 1, "to 7: reply ttl8 hops0 5/2147483648 for 3 life6000", 1 << 31},
		{most, "own 4294967295; to 7: reply ttl8 hops0 5/4294967295 for 3 life6000", most},
		{unknown, "to 7: reply ttl8 hops0 5/4294967295 for 3 life6000", most},
	} {
		if i == 0 {
			c.want = "3=9; " + c.want
		}
		wantHeard(t, n, heard{2000, 7, request([]int{1, 2, 255}[i%3], i*31, uint32(i), 5, c.seq, 3, 9), c.want})
		wantSeq(t, n, c.own)
	}
}

// P15: an answer goes by the line of who asked, whoever brought the request; if there is none, there is no way.
func TestRequestForSelfWay(t *testing.T) {
	n := newNode(t, 5)
	wantHeard(t, n,
		heard{0, 7, request(3, 1, 1, 5, unknown, 3, 9), "3=9; to 7: reply ttl8 hops0 5/1 for 3 life6000"},
		heard{0, 6, request(3, 1, 2, 5, unknown, 3, 9), "to 7: reply ttl8 hops0 5/1 for 3 life6000"},
		heard{0, 6, request(3, 0, 3, 5, unknown, 3, 9), "to 6: reply ttl8 hops0 5/1 for 3 life6000"},
		heard{0, 6, lose(api.Lost{Dest: 3, Seq: 20}), "3=20"},
		heard{0, 6, request(3, 0, 4, 5, 8, 3, 19), "own 8; drop NoRoute"},
		heard{0, 6, request(3, 0, 5, 5, 8, 3, 20), "to 6: reply ttl8 hops0 5/8 for 3 life6000"},
	)
}

// P15: a node that has a route answers for its destination, if the route is as new as was asked for; TTL does not matter.
func TestRequestForOther(t *testing.T) {
	for _, c := range []struct {
		ttl  int
		seq  int64
		want string
	}{
		{3, unknown, "to 6: reply ttl8 hops4 8/4 for 1 life5990"},
		{1, unknown, "to 6: reply ttl8 hops4 8/4 for 1 life5990"},
		{3, 0, "to 6: reply ttl8 hops4 8/4 for 1 life5990"},
		{3, 3, "to 6: reply ttl8 hops4 8/4 for 1 life5990"},
		{3, 4, "to 6: reply ttl8 hops4 8/4 for 1 life5990"},
		{1, 4, "to 6: reply ttl8 hops4 8/4 for 1 life5990"},
	} {
		n := between(t)
		wantHeard(t, n, heard{10, 6, request(c.ttl, 250, 1, 8, c.seq, 1, 2), "1=2; " + c.want})
		wantLines(t, n, "1+2/251 by 6 to 3010 [2]", "3+9/2 by 7 to 3000 [2]", "8+4/4 by 2 to 6000 [6 7]")
	}
	for _, c := range []struct {
		ttl  int
		seq  int64
		want string
	}{
		{3, 5, "to 0: ask ttl2 hops251 id1 8/5 from 1/2"},
		{1, 5, "drop NoTTL"},
		{255, 1<<32 - 1, "to 0: ask ttl254 hops251 id1 8/4294967295 from 1/2"},
	} {
		n := between(t)
		wantHeard(t, n, heard{10, 6, request(c.ttl, 250, 1, 8, c.seq, 1, 2), "1=2; " + c.want})
		wantLines(t, n, "1+2/251 by 6 to 3010 []", "3+9/2 by 7 to 3000 [2]", "8+4/4 by 2 to 6000 [7]")
	}
}

// P15: an answer for another whose asker's line has ended has no way; no one uses the route then.
func TestRequestForOtherNoWay(t *testing.T) {
	n := between(t)
	wantHeard(t, n,
		heard{1, 7, lose(api.Lost{Dest: 3, Seq: 20}), "3=20; to 0: lose ttl1 [{3 20}]"},
		heard{2, 6, request(3, 1, 2, 8, unknown, 3, 19), "drop NoRoute"},
		heard{2, 6, request(1, 1, 3, 8, 4, 3, 19), "drop NoRoute"},
	)
	wantLines(t, n, "3-20/2 by 7 to 0 []", "8+4/4 by 2 to 6000 [7]")
}

// P15: who asks for itself, and a destination by the same neighbour, are answered as any.
func TestRequestForOtherOddWays(t *testing.T) {
	n := newNode(t, 5)
	wantHeard(t, n,
		heard{0, 7, request(3, 1, 1, 3, unknown, 3, 9), "3=9; to 7: reply ttl8 hops2 3/9 for 3 life3000"},
		heard{0, 7, request(3, 1, 1, 3, 9, 4, 2), "4=2; to 7: reply ttl8 hops2 3/9 for 4 life3000"},
		heard{0, 7, request(3, 1, 2, 3, 10, 3, 9), "to 0: ask ttl2 hops2 id2 3/10 from 3/9"},
	)
	wantLines(t, n, "3+9/2 by 7 to 3000 [7]", "4+2/2 by 7 to 3000 [7]")
}

// P15: a reply's Life is what is left of the route's time, the greatest one too.
func TestRequestForOtherLife(t *testing.T) {
	for _, life := range []uint32{11, 12, 1 << 31, math.MaxUint32} {
		n := newNode(t, 5)
		learn(t, n, 5, 0, 8, 4, 2, 2, life)
		wantHeard(t, n, heard{10, 6, request(3, 0, 1, 8, unknown, 1, 2), fmt.Sprintf("1=2; to 6: reply ttl8 hops2 8/4 for 1 life%d", life-10)})
	}
	n := newNode(t, 5)
	learn(t, n, 5, 0, 8, 4, 2, 2, 10)
	wantHeard(t, n, heard{10, 6, request(3, 0, 1, 8, unknown, 1, 2), "8=5; 1=2; to 0: ask ttl2 hops1 id1 8/5 from 1/2"})
}

// P15: a request goes on with one TTL less, one hop more, and the greatest number that is known of its destination.
func TestRequestGoesOn(t *testing.T) {
	n, _ := bootNode(t, 5, 0, api.Record{Addr: 8, Seq: 6}, api.Record{Addr: 9, Seq: 1<<32 - 1}, api.Record{Addr: 0, Seq: 2})
	learn(t, n, 5, 2000, 3, 1, 1, 7, 6000)
	for i, c := range []struct {
		ttl, hops int
		dest      uint32
		seq       int64
		want      string
	}{
		{2, 0, 90, unknown, "ttl1 hops1 id0 90/?"},
		{255, 3, 90, unknown, "ttl254 hops4 id1 90/?"},
		{3, 253, 90, unknown, "ttl2 hops254 id2 90/?"},
		{3, 254, 90, unknown, "ttl2 hops255 id3 90/?"},
		{3, 255, 90, unknown, "ttl2 hops255 id4 90/?"},
		{3, 0, 90, 0, "ttl2 hops1 id5 90/0"}, // known, though 0
		{3, 0, 90, 77, "ttl2 hops1 id6 90/77"},
		{3, 0, 8, unknown, "ttl2 hops1 id7 8/7"},
		{3, 0, 8, 0, "ttl2 hops1 id8 8/7"},
		{3, 0, 8, 6, "ttl2 hops1 id9 8/7"},
		{3, 0, 8, 7, "ttl2 hops1 id10 8/7"},
		{3, 0, 8, 8, "ttl2 hops1 id11 8/8"},
		{3, 0, 9, unknown, "ttl2 hops1 id12 9/4294967295"},
		{3, 0, 9, 1<<32 - 1, "ttl2 hops1 id13 9/4294967295"},
		{3, 0, 0, unknown, "ttl2 hops1 id14 0/3"},
	} {
		wantHeard(t, n, heard{2000, 7, request(c.ttl, c.hops, uint32(i), c.dest, c.seq, 3, 1), "to 0: ask " + c.want + " from 3/1"})
	}
	for i, dest := range []uint32{90, 8, 9, 0} {
		wantHeard(t, n, heard{2000, 7, request(1, 0, 50+uint32(i), dest, unknown, 3, 1), "drop NoTTL"})
	}
}

// P15: a route of the number 0 is as new as what is asked for by 0, or by none.
func TestRequestForOtherOfNumber0(t *testing.T) {
	n := newNode(t, 5)
	learn(t, n, 5, 0, 8, 0, 1, 2, 6000)
	wantHeard(t, n,
		heard{0, 7, request(3, 0, 1, 8, 1, 3, 1), "3=1; to 0: ask ttl2 hops1 id1 8/1 from 3/1"},
		heard{0, 7, request(3, 0, 2, 8, 0, 3, 1), "to 7: reply ttl8 hops1 8/0 for 3 life6000"},
		heard{0, 7, request(3, 0, 3, 8, unknown, 3, 1), "to 7: reply ttl8 hops1 8/0 for 3 life6000"},
	)
}

// P16: a reply about self is dropped, and teaches nothing.
func TestReplyAboutSelf(t *testing.T) {
	n := between(t)
	lines := fmt.Sprint(n.Routes())
	for _, p := range []api.Packet{reply(8, 0, 5, 90, 3, 6000), reply(8, 0, 5, 90, 5, 6000), reply(1, 0, 5, 0, 90, 0)} {
		wantHeard(t, n, heard{1, 2, p, "drop Again"})
	}
	wantSeq(t, n, 1)
	if got := fmt.Sprint(n.Routes()); got != lines {
		t.Errorf("Routes: %s, want %s", got, lines)
	}
}

// P16: where there is no room for the line of Dest, nothing else is done.
func TestReplyNoRoom(t *testing.T) {
	n := fullNode(t)
	lines := fmt.Sprint(n.Routes())
	for _, p := range []api.Packet{reply(8, 0, 60, 4, 5, 6000), reply(8, 0, 60, 4, 10, 6000), reply(1, 0, 60, 4, 10, 6000), reply(8, 0, 60, 4, 90, 6000)} {
		wantHeard(t, n, heard{1, 2, p, "drop NoRoom"})
	}
	if got := fmt.Sprint(n.Routes()); got != lines {
		t.Errorf("Routes: %s, want %s", got, lines)
	}
	wantHeard(t, n, heard{1, 7, reply(8, 0, 17, 5, 5, 6000), "17=5"})
}

// P16: what a reply teaches: a line by the neighbour, one hop more, for its Life.
func TestReplyTeaches(t *testing.T) {
	for _, c := range []struct {
		hops int
		seq  uint32
		life uint32
		want string
	}{
		{0, 4, 6000, "8+4/1 by 2 to 6010 []"},
		{254, 0, 1, "8+0/255 by 2 to 11 []"},
		{255, 1<<32 - 1, math.MaxUint32, "8+4294967295/255 by 2 to 4294967305 []"},
		{3, 4, 0, "8+4/4 by 2 to 10 []"},
	} {
		for _, p := range []api.Packet{reply(8, c.hops, 8, c.seq, 5, c.life), reply(1, c.hops, 8, c.seq, 3, c.life), reply(8, c.hops, 8, c.seq, 3, c.life)} {
			n := newNode(t, 5)
			n.Receive(10, 2, frameOf(t, p))
			wantLines(t, n, c.want)
		}
	}
}

// P16: a reply with no Life is no route to anything, and its line ends as the next call begins.
func TestReplyNoLife(t *testing.T) {
	n := newNode(t, 5)
	wantHeard(t, n,
		heard{10, 2, reply(8, 0, 8, 4, 5, 0), "8=4"},
		heard{10, 7, data(8, 1, 3, 8, "x"), "8=5; 8=6; to 7: lose ttl1 [{8 6}]; drop NoRoute"},
		heard{10, 2, reply(8, 0, 8, 6, 8, 0), "drop NoRoute"}, // who asked is who is found, but has no time
	)
}

// P16: a reply for self is the end of it: Stale, if what is known is as good, whatever its TTL.
func TestReplyForSelf(t *testing.T) {
	n := newNode(t, 5)
	wantHeard(t, n,
		heard{0, 2, reply(8, 3, 8, 4, 5, 6000), "8=4"},
		heard{1, 2, reply(8, 3, 8, 4, 5, 9000), "drop Stale"},
		heard{1, 7, reply(1, 4, 8, 4, 5, 6000), "drop Stale"},
		heard{1, 7, reply(1, 0, 8, 3, 5, 6000), "drop Stale"},
		heard{1, 7, reply(1, 2, 8, 4, 5, 6000), ""}, // fewer hops
		heard{1, 7, reply(1, 2, 8, 4, 5, 6000), "drop Stale"},
		heard{1, 2, reply(255, 255, 8, 5, 5, 6000), "8=5"},
		heard{1, 2, lose(api.Lost{Dest: 8}), "8=6"},
		heard{1, 2, reply(8, 255, 8, 5, 5, 6000), "drop Stale"}, // as good as what has ended, no better
		heard{1, 2, reply(8, 0, 8, 5, 5, 6000), ""},
		heard{1, 2, reply(8, 0, 0, 5, 5, 6000), ""}, // about no one: there is nothing to be told of it
	)
	wantLines(t, n, "8+5/1 by 2 to 6001 []")
}

// P16: a reply for another goes on by the route to it; who uses the two lines then; who asked is used longer.
func TestReplyGoesOn(t *testing.T) {
	n := newNode(t, 5)
	wantHeard(t, n,
		heard{0, 7, request(3, 1, 1, 8, unknown, 3, 9), "3=9; to 0: ask ttl2 hops2 id1 8/? from 3/9"},
		heard{100, 2, reply(8, 3, 8, 4, 3, 6000), "8=4; to 7: reply ttl7 hops4 8/4 for 3 life6000"},
	)
	wantLines(t, n, "3+9/2 by 7 to 3100 [2]", "8+4/4 by 2 to 6100 [7]")
	// What is known is as good, so the line stays as it is; the reply goes on all the same.
	wantHeard(t, n, heard{200, 6, reply(2, 254, 8, 4, 3, 0), "to 7: reply ttl1 hops255 8/4 for 3 life0"})
	wantLines(t, n, "3+9/2 by 7 to 3200 [2 6]", "8+4/4 by 2 to 6100 [7]")
	wantHeard(t, n, heard{300, 6, reply(255, 255, 8, 5, 3, math.MaxUint32), "8=5; to 7: reply ttl254 hops255 8/5 for 3 life4294967295"})
	wantLines(t, n, "3+9/2 by 7 to 3300 [2 6]", "8+5/255 by 6 to 4294967595 [7]")
	// Who asked has a route that holds longer than that.
	learn(t, n, 5, 300, 3, 10, 1, 1, 9000)
	wantHeard(t, n, heard{400, 6, reply(8, 0, 8, 5, 3, 6000), "to 1: reply ttl7 hops1 8/5 for 3 life6000"})
	wantLines(t, n, "3+10/1 by 1 to 9300 [6]", "8+5/1 by 6 to 6400 [1]")
}

// P16: who uses a line counts once, and four at most.
func TestReplyGoesOnBefore(t *testing.T) {
	n := newNode(t, 5)
	learn(t, n, 5, 0, 3, 9, 1, 7, 9000)
	for i, from := range []uint32{24, 21, 24, 22, 23, 25, 20} {
		seq := uint32(1 + i)
		wantHeard(t, n, heard{0, from, reply(8, 0, 8, seq, 3, 6000), fmt.Sprintf("8=%d; to 7: reply ttl7 hops1 8/%d for 3 life6000", seq, seq)})
	}
	wantLines(t, n, "3+9/1 by 7 to 9000 [21 22 23 24]", "8+7/1 by 20 to 6000 [7]")
}

// P16: a reply for another with no TTL left, or no route to it, has taught what it has.
func TestReplyGoesNoFurther(t *testing.T) {
	n := between(t)
	wantHeard(t, n,
		heard{1, 6, reply(1, 0, 8, 5, 3, 6000), "8=5; drop NoTTL"},
		heard{1, 6, reply(1, 0, 8, 5, 3, 6000), "drop NoTTL"},
		heard{1, 6, reply(1, 0, 4, 5, 90, 6000), "4=5; drop NoTTL"}, // TTL is named first
		heard{1, 6, reply(8, 0, 8, 6, 90, 6000), "8=6; drop NoRoute"},
		heard{1, 6, reply(8, 0, 8, 6, 0, 6000), "drop NoRoute"},
		heard{1, 7, lose(api.Lost{Dest: 3}), "3=10; to 0: lose ttl1 [{3 10}]"},
		heard{1, 6, reply(8, 0, 8, 7, 3, 6000), "8=7; drop NoRoute"},
	)
	wantLines(t, n, "3-10/2 by 7 to 0 []", "4+5/1 by 6 to 6001 []", "8+7/1 by 6 to 6001 []")
}

// P16: a reply about the address 0 teaches nothing, but goes on as any.
func TestReplyAboutNone(t *testing.T) {
	n := between(t)
	wantHeard(t, n, heard{1, 6, reply(8, 0, 0, 5, 3, 6000), "to 7: reply ttl7 hops1 0/5 for 3 life6000"})
	wantLines(t, n, "3+9/2 by 7 to 3001 [2 6]", "8+4/4 by 2 to 6000 [7]")
}

// P17: lines that a neighbour has lost end, if they go by it; those that others use are told on, in the order in which they came.
func TestLoseToldOn(t *testing.T) {
	n := newNode(t, 5)
	learn(t, n, 5, 0, 3, 9, 1, 7, 3000)
	for i, dest := range []uint32{20, 21, 22, 23} {
		learn(t, n, 5, 0, dest, 4, 1, 2, 6000)
		if dest != 22 {
			wantHeard(t, n, heard{0, 7, request(1, 0, uint32(i), dest, unknown, 3, 9), fmt.Sprintf("to 7: reply ttl8 hops1 %d/4 for 3 life6000", dest)})
		}
	}
	learn(t, n, 5, 0, 24, 4, 1, 6, 6000)
	wantHeard(t, n, heard{1, 2, lose(
		api.Lost{Dest: 23, Seq: 4}, // its number is less than the grown one
		api.Lost{Dest: 90, Seq: 9}, // not there
		api.Lost{Dest: 22, Seq: 7}, // used by none
		api.Lost{Dest: 20, Seq: 9}, // greater
		api.Lost{Dest: 24, Seq: 9}, // by another neighbour
		api.Lost{Dest: 20, Seq: 99},
		api.Lost{Dest: 5, Seq: 99},
		api.Lost{Dest: 21, Seq: 5},
	), "20=9; 21=5; 22=7; 23=5; to 0: lose ttl1 [{23 5} {20 9} {21 5}]"})
	wantLines(t, n, "3+9/1 by 7 to 3000 [2]", "20-9/1 by 2 to 0 []", "21-5/1 by 2 to 0 []", "22-7/1 by 2 to 0 []", "23-5/1 by 2 to 0 []", "24+4/1 by 6 to 6000 []")
	wantHeard(t, n, heard{1, 2, lose(api.Lost{Dest: 23, Seq: 40}), "drop Stale"})
	wantSeq(t, n, 1)
}

// P17: where none is lost, it is stale; where some are, but none that others use, there is nothing to tell.
func TestLoseStale(t *testing.T) {
	n := between(t)
	lines := fmt.Sprint(n.Routes())
	for _, h := range []heard{
		{1, 7, lose(api.Lost{Dest: 8, Seq: 90}), "drop Stale"},
		{1, 2, lose(api.Lost{Dest: 3, Seq: 90}, api.Lost{Dest: 3, Seq: 91}), "drop Stale"},
		{1, 8, lose(api.Lost{Dest: 8, Seq: 90}), "drop Stale"},
		{1, 2, lose(api.Lost{}), "drop Stale"},
		{1, 2, lose(api.Lost{Dest: 5, Seq: 90}, api.Lost{Dest: 90, Seq: 1}), "drop Stale"},
	} {
		wantHeard(t, n, h)
		if got := fmt.Sprint(n.Routes()); got != lines {
			t.Errorf("Routes: %s, want %s", got, lines)
		}
	}
	learn(t, n, 5, 1, 4, 4, 1, 2, 6000)
	wantHeard(t, n,
		heard{1, 2, lose(api.Lost{Dest: 3}, api.Lost{Dest: 4}), "4=5"},
		heard{1, 2, lose(api.Lost{Dest: 3}, api.Lost{Dest: 8, Seq: 1<<32 - 1}), "8=4294967295; to 0: lose ttl1 [{8 4294967295}]"},
		heard{1, 2, lose(api.Lost{Dest: 8, Seq: 1<<32 - 1}), "drop Stale"},
	)
}

// P17: a frame's TTL does not matter; it is told on with 1.
func TestLoseTTL(t *testing.T) {
	for _, ttl := range []int{1, 2, 255} {
		n := between(t)
		p := lose(api.Lost{Dest: 8, Seq: 9})
		p.TTL = ttl
		wantHeard(t, n, heard{1, 2, p, "8=9; to 0: lose ttl1 [{8 9}]"})
	}
}

// P18: data for self has come, whoever sent it, whatever its TTL and its bytes.
func TestDataForSelf(t *testing.T) {
	n := newNode(t, 5)
	wantHeard(t, n,
		heard{0, 7, data(8, 1, 3, 5, "hello"), `came 3 "hello"`},
		heard{0, 7, data(8, 1, 3, 5, "hello"), `came 3 "hello"`}, // data is not remembered
		heard{0, 3, data(1, 2, 3, 5, ""), `came 3 ""`},
		heard{0, 7, data(1, 2, 0, 5, "\x00\xff0123456789abcd"), `came 0 "\x00\xff0123456789abcd"`},
		heard{0, 7, data(255, 1<<32-1, 5, 5, "x"), `came 5 "x"`},
	)
	wantLines(t, n)
}

// P18: data goes on by the route, with one TTL less; the lines of who sent it and of where it goes are used.
func TestDataGoesOn(t *testing.T) {
	n := newNode(t, 5)
	learn(t, n, 5, 0, 3, 9, 2, 7, 1000)
	learn(t, n, 5, 0, 8, 4, 4, 2, 1000)
	learn(t, n, 5, 0, 9, 4, 4, 2, 1000)
	wantHeard(t, n, heard{10, 7, data(8, 77, 3, 8, "hello"), `to 2: data ttl7 id77 3 to 8 "hello"`})
	wantLines(t, n, "3+9/2 by 7 to 3010 []", "8+4/4 by 2 to 3010 []", "9+4/4 by 2 to 1000 []")
	wantHeard(t, n, heard{20, 90, data(255, 0, 90, 8, ""), `to 2: data ttl254 id0 90 to 8 ""`}) // of who there is no line of
	wantLines(t, n, "3+9/2 by 7 to 3010 []", "8+4/4 by 2 to 3020 []", "9+4/4 by 2 to 1000 []")
	wantHeard(t, n, heard{30, 2, data(2, 1<<32-1, 8, 9, "\xff"), `to 2: data ttl1 id4294967295 8 to 9 "\xff"`}) // back by the same neighbour
	wantLines(t, n, "3+9/2 by 7 to 3010 []", "8+4/4 by 2 to 3030 []", "9+4/4 by 2 to 3030 []")
	learn(t, n, 5, 30, 9, 5, 4, 2, 9000)
	wantHeard(t, n, heard{40, 7, data(2, 1, 5, 9, "x"), `to 2: data ttl1 id1 5 to 9 "x"`}) // it holds longer than that
	wantLines(t, n, "3+9/2 by 7 to 3010 []", "8+4/4 by 2 to 3030 []", "9+5/4 by 2 to 9030 []")
}

// P18: data with no TTL left is dropped, with a route and without one; no number grows, no line is used.
func TestDataNoTTL(t *testing.T) {
	n := between(t)
	lines := fmt.Sprint(n.Routes())
	for _, dest := range []uint32{8, 3, 90, 0} {
		wantHeard(t, n, heard{1, 7, data(1, 1, 3, dest, "x"), "drop NoTTL"})
	}
	if got := fmt.Sprint(n.Routes()); got != lines {
		t.Errorf("Routes: %s, want %s", got, lines)
	}
}

// P18: data without a route is dropped, and who sent it by here is told, by a number that has grown, if there is a line.
func TestDataNoRoute(t *testing.T) {
	n := between(t)
	learn(t, n, 5, 0, 9, 1<<32-1, 1, 2, 50)
	wantHeard(t, n,
		heard{60, 7, data(8, 1, 3, 90, "x"), "to 7: lose ttl1 [{90 0}]; drop NoRoute"},
		heard{60, 7, data(2, 1, 3, 0, "x"), "to 7: lose ttl1 [{0 0}]; drop NoRoute"},
		heard{60, 7, data(8, 1, 3, 9, "x"), "to 7: lose ttl1 [{9 4294967295}]; drop NoRoute"},
		heard{60, 2, lose(api.Lost{Dest: 8, Seq: 6}), "8=6; to 0: lose ttl1 [{8 6}]"},
		heard{60, 7, data(8, 1, 3, 8, "x"), "8=7; to 7: lose ttl1 [{8 7}]; drop NoRoute"},
		heard{60, 6, data(8, 1, 3, 8, "x"), "8=8; to 6: lose ttl1 [{8 8}]; drop NoRoute"},
	)
	wantLines(t, n, "3+9/2 by 7 to 3000 [2]", "8-8/4 by 2 to 0 []", "9-4294967295/1 by 2 to 0 []")
}

// P13 to P18: a request, its reply and a text, in a row of nodes.
func TestRowOfNodes(t *testing.T) {
	a, b, c := newNode(t, 10), newNode(t, 20), newNode(t, 30)
	wantHeard(t, b, heard{0, 10, request(3, 0, 1, 30, unknown, 10, 2), "10=2; to 0: ask ttl2 hops1 id1 30/? from 10/2"})
	wantHeard(t, a, heard{0, 20, request(2, 1, 1, 30, unknown, 10, 2), "drop Again"})
	wantHeard(t, c, heard{0, 20, request(2, 1, 1, 30, unknown, 10, 2), "10=2; to 20: reply ttl8 hops0 30/1 for 10 life6000"})
	wantHeard(t, b, heard{0, 30, reply(8, 0, 30, 1, 10, 6000), "30=1; to 10: reply ttl7 hops1 30/1 for 10 life6000"})
	wantHeard(t, a, heard{0, 20, reply(7, 1, 30, 1, 10, 6000), "30=1"})
	wantHeard(t, b, heard{0, 10, data(8, 1, 10, 30, "x"), `to 30: data ttl7 id1 10 to 30 "x"`})
	wantHeard(t, c, heard{0, 20, data(7, 1, 10, 30, "x"), `came 10 "x"`})
	wantLines(t, a, "30+1/2 by 20 to 6000 []")
	wantLines(t, b, "10+2/1 by 10 to 3000 [30]", "30+1/1 by 30 to 6000 [10]")
	wantLines(t, c, "10+2/2 by 20 to 3000 []")
	wantNodeBroken(t, b, 1, 30, "30=2; to 0: lose ttl1 [{30 2}]")
	wantHeard(t, a, heard{1, 20, lose(api.Lost{Dest: 30, Seq: 2}), "30=2"})
	wantHeard(t, c, heard{1, 20, lose(api.Lost{Dest: 30, Seq: 2}), "drop Stale"})
}
