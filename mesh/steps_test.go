package mesh_test

import (
	"fmt"
	"math"
	"slices"
	"strings"
	"testing"

	"mesh/api"
	"mesh/mesh"
)

// P25: a node does not hear itself, and a link of it with itself changes no other.
func TestLinkOfOne(t *testing.T) {
	m := rowMesh(t, 2)
	wantNothing(t, m, api.Op{Do: api.Link, A: 0, B: 0, On: true})
	wantNothing(t, m, api.Op{Do: api.Link, A: 1, B: 1})
	wantDo(t, m, api.Op{Do: api.Send, A: 0, B: 1, Text: "x"}, "0: own 2; to 0: ask ttl1 hops0 id1 20/? from 10/2")
	wantAir(t, m, "0>1 ask ttl1 hops0 id1 20/? from 10/2")
}

// P25: a link is of both nodes, whichever is named first; a second time changes nothing; it ends for both.
func TestLinkBothWays(t *testing.T) {
	m := newMesh(t, tens(3))
	id := uint32(0)
	hears := func(want ...string) {
		t.Helper()
		id++
		var got []string
		for node := range 3 {
			m.Do(inject(t, node, (node+1)%3, request(3, 0, id, 90, unknown, 91, 5)))
		}
		for _, f := range m.Air() {
			got = append(got, fmt.Sprintf("%d>%d", f.From, f.To))
		}
		if !slices.Equal(got, want) {
			t.Errorf("hear one another: %v, want %v", got, want)
		}
		dropAll(m)
	}
	hears()
	for range 2 {
		m.Do(api.Op{Do: api.Link, A: 2, B: 0, On: true})
		hears("0>2", "2>0")
		m.Do(api.Op{Do: api.Link, A: 0, B: 2, On: true})
		hears("0>2", "2>0")
	}
	m.Do(api.Op{Do: api.Link, A: 0, B: 1, On: true})
	hears("0>1", "0>2", "1>0", "2>0")
	m.Do(api.Op{Do: api.Link, A: 0, B: 2})
	hears("0>1", "1>0")
	m.Do(api.Op{Do: api.Link, A: 1, B: 2})
	hears("0>1", "1>0")
	m.Do(api.Op{Do: api.Link, A: 1, B: 0})
	hears()
}

// P25: links do not matter to what is under way.
func TestLinkEnds(t *testing.T) {
	m := rowMesh(t, 2)
	m.Do(api.Op{Do: api.Send, A: 0, B: 1, Text: "x"})
	wantNothing(t, m, api.Op{Do: api.Link, A: 0, B: 1})
	wantDo(t, m, api.Op{Do: api.Deliver}, "1: 10=2; to 10: reply ttl8 hops0 20/1 for 10 life6000 | 1: 10=3")
	wantAir(t, m)
}

// P25: a link is there where its nodes do not run, and stays while they stop.
func TestLinkOfStopped(t *testing.T) {
	m := newMesh(t, tens(2))
	m.Do(api.Op{Do: api.Crash, A: 0})
	m.Do(api.Op{Do: api.Crash, A: 1})
	wantNothing(t, m, api.Op{Do: api.Link, A: 0, B: 1, On: true})
	m.Do(api.Op{Do: api.Boot, A: 0})
	m.Do(api.Op{Do: api.Tick, N: 2000})
	const ask = "ask ttl1 hops0 id1 20/? from 10/3"
	wantDo(t, m, api.Op{Do: api.Send, A: 0, B: 1, Text: "x"}, "0: own 3; to 0: "+ask)
	wantAir(t, m, "0>1 "+ask)
}

// P25: what Send refuses is an event with its error, and nothing changes; a text that is too long is named first.
func TestMeshSendRefused(t *testing.T) {
	m := rowMesh(t, 3)
	m.Do(api.Op{Do: api.Crash, A: 2})
	long := strings.Repeat("x", 17)
	for _, c := range []struct {
		a, b int
		text string
		want string
	}{
		{0, 0, "x", "0: err 2"},
		{1, 1, "", "1: err 2"},
		{1, 0, long, "1: err 6"},
		{1, 2, long, "1: err 6"},
		{1, 1, long, "1: err 6"},
		{0, 1, strings.Repeat("long", 1000), "0: err 6"},
		{2, 2, long, refused},
	} {
		before := meshText(m)
		wantDo(t, m, api.Op{Do: api.Send, A: c.a, B: c.b, Text: c.text}, c.want)
		if got := meshText(m); got != before {
			t.Errorf("behind Send(%d, %d, %q):\n%s, want\n%s", c.a, c.b, c.text, got, before)
		}
	}
	wantDo(t, m, api.Op{Do: api.Send, A: 1, B: 2, Text: long[1:]}, "1: own 2; to 0: ask ttl1 hops0 id1 30/? from 20/2")
}

// P25: a Tick of 1 to 60000 milliseconds has the time grow; any other does nothing.
func TestTickTimes(t *testing.T) {
	m := rowMesh(t, 2)
	m.Do(api.Op{Do: api.Send, A: 0, B: 1, Text: "x"})
	none := func() {
		for _, n := range []int{0, -1, -60000, 60001, 1 << 32, math.MinInt, math.MaxInt} {
			wantNothing(t, m, api.Op{Do: api.Tick, N: n})
		}
	}
	none()
	wantDo(t, m, api.Op{Do: api.Tick, N: 1}, "")
	wantDo(t, m, api.Op{Do: api.Tick, N: 238}, "")
	none()
	wantDo(t, m, api.Op{Do: api.Tick, N: 1}, "0: own 3; to 0: ask ttl3 hops0 id2 20/? from 10/3")
	none()
	wantDo(t, m, api.Op{Do: api.Tick, N: 60000}, "0: own 4; to 0: ask ttl5 hops0 id3 20/? from 10/4")
	wantDo(t, m, inject(t, 1, 0, request(1, 0, 1, 90, unknown, 10, 7)), "1: 10=7; drop NoTTL")
	wantLinesOf(t, m, 1, "10+7/1 by 10 to 63240 []")
	wantDo(t, m, api.Op{Do: api.Tick, N: 559}, "")
	wantDo(t, m, api.Op{Do: api.Tick, N: 1}, "0: own 5; to 0: ask ttl8 hops0 id4 20/? from 10/5")
}

// P25: a Tick of no time tells no one, even of what has its time just now.
func TestTickOfNoTime(t *testing.T) {
	m := rowMesh(t, 2)
	wantDo(t, m, inject(t, 0, 1, reply(8, 0, 90, 4, 10, 0)), "0: 90=4")
	wantLinesOf(t, m, 0, "90+4/1 by 20 to 0 []")
	wantNothing(t, m, api.Op{Do: api.Tick})
	wantDo(t, m, api.Op{Do: api.Tick, N: 1}, "0: 90=5")
}

// P25: all that run are told the time, by rising numbers; those that do something make an event.
func TestTickTellsAll(t *testing.T) {
	m := newMesh(t, []uint32{50, 40, 30, 20, 10}, [2]int{0, 1})
	for _, a := range []int{4, 1, 3, 0} {
		m.Do(api.Op{Do: api.Send, A: a, B: 2, Text: "x"})
	}
	m.Do(api.Op{Do: api.Crash, A: 3})
	dropAll(m)
	wantDo(t, m, api.Op{Do: api.Tick, N: 300}, strings.Join([]string{
		"0: own 3; to 0: ask ttl3 hops0 id2 30/? from 50/3",
		"1: own 3; to 0: ask ttl3 hops0 id2 30/? from 40/3",
		"4: own 3; to 0: ask ttl3 hops0 id2 30/? from 10/3",
	}, " | "))
	wantAir(t, m, "0>1 ask ttl3 hops0 id2 30/? from 50/3", "1>0 ask ttl3 hops0 id2 30/? from 40/3")
	// A node that stopped is not told, but the time grows for it too.
	wantDo(t, m, api.Op{Do: api.Boot, A: 3}, "3: new; own 3")
	wantDo(t, m, inject(t, 3, 4, data(8, 1, 10, 20, "x")), "3: drop Silent")
	wantDo(t, m, api.Op{Do: api.Tick, N: 1999}, "0: own 4; to 0: ask ttl5 hops0 id3 30/? from 50/4 | 1: own 4; to 0: ask ttl5 hops0 id3 30/? from 40/4 | 4: own 4; to 0: ask ttl5 hops0 id3 30/? from 10/4")
	wantDo(t, m, inject(t, 3, 4, data(8, 1, 10, 20, "x")), "3: drop Silent")
	wantDo(t, m, api.Op{Do: api.Tick, N: 1}, "")
	wantDo(t, m, inject(t, 3, 4, data(8, 1, 10, 20, "x")), `3: came 10 "x"`)
}

// P25: whoever is told in a Tick that a link is gone does that ahead of the next node.
func TestTickNotHeard(t *testing.T) {
	m := crossroads(t, "to 50")
	m.Do(api.Op{Do: api.Link, A: 0, B: 1})
	m.Do(api.Op{Do: api.Send, A: 2, B: 1, Text: "x"})
	dropAll(m)
	wantDo(t, m, api.Op{Do: api.Tick, N: 240}, "0: to 20: "+to50+"; to 40: "+to60+" | 0: 50=6; to 0: lose ttl1 [{50 6}] | 2: own 3; to 0: ask ttl3 hops0 id2 20/? from 30/3")
	wantAir(t, m, "0>2 lose ttl1 [{50 6}]", "0>3 lose ttl1 [{50 6}]", "0>3 "+to60, "2>0 ask ttl3 hops0 id2 20/? from 30/3")
}

// P25: a frame comes from its sender's address, in any order; it is under way no more.
func TestDeliver(t *testing.T) {
	m := rowMesh(t, 3)
	m.Do(api.Op{Do: api.Send, A: 0, B: 1, Text: "x"})
	m.Do(api.Op{Do: api.Send, A: 2, B: 1, Text: "y"})
	wantDo(t, m, api.Op{Do: api.Deliver, A: 1}, "1: 30=2; to 30: reply ttl8 hops0 20/1 for 30 life6000")
	wantAir(t, m, "0>1 ask ttl1 hops0 id1 20/? from 10/2", "1>2 reply ttl8 hops0 20/1 for 30 life6000")
	wantDo(t, m, api.Op{Do: api.Deliver, A: 1}, `2: 20=1; to 20: data ttl8 id1 30 to 20 "y"`)
	wantDo(t, m, api.Op{Do: api.Deliver, A: 0}, "1: 10=2; to 10: reply ttl8 hops0 20/1 for 10 life6000")
	wantAir(t, m, `2>1 data ttl8 id1 30 to 20 "y"`, "1>0 reply ttl8 hops0 20/1 for 10 life6000")
	wantLinesOf(t, m, 1, "10+2/1 by 10 to 3000 []", "30+2/1 by 30 to 3000 []")
}

// P25: a frame for a node that does not run is gone. So it is where its sender does not run: it is heard.
func TestDeliverToStopped(t *testing.T) {
	m := rowMesh(t, 2)
	m.Do(api.Op{Do: api.Send, A: 0, B: 1, Text: "x"})
	m.Do(api.Op{Do: api.Twice, A: 0})
	m.Do(api.Op{Do: api.Crash, A: 1})
	wantDo(t, m, api.Op{Do: api.Deliver}, "")
	wantAir(t, m, "0>1 ask ttl1 hops0 id1 20/? from 10/2")
	wantWritten(t, m, 1, 0, "own 1")
	m.Do(api.Op{Do: api.Boot, A: 1})
	m.Do(api.Op{Do: api.Crash, A: 0})
	wantDo(t, m, api.Op{Do: api.Deliver}, "1: drop Silent")
	wantAir(t, m)
}

// threeAsks is node 0 and its frames to node 1, of the ids 1, 2, 3.
func threeAsks(t *testing.T) *mesh.Mesh {
	t.Helper()
	m := rowMesh(t, 2)
	manyAsks(t, m, 1, 3)
	return m
}

// P25: a frame is lost; a frame is under way twice, the copy last; no node does anything.
func TestDropAndTwice(t *testing.T) {
	for i := range 3 {
		m := threeAsks(t)
		wantDo(t, m, api.Op{Do: api.Drop, A: i}, "")
		if got := askIDs(t, m); !slices.Equal(got, slices.Delete(ids(1, 3), i, i+1)) {
			t.Errorf("without %d: %v", i, got)
		}
		m = threeAsks(t)
		wantDo(t, m, api.Op{Do: api.Twice, A: i}, "")
		if got := askIDs(t, m); !slices.Equal(got, append(ids(1, 3), i+1)) {
			t.Errorf("%d twice: %v", i, got)
		}
		wantDo(t, m, api.Op{Do: api.Deliver, A: 3}, fmt.Sprintf("1: 91=5; to 0: ask ttl1 hops2 id%d 90/? from 91/5", i+1))
		wantDo(t, m, api.Op{Do: api.Deliver, A: i}, "1: drop Again")
	}
}

// P25: a frame loses its last bytes, all of them at most; none, if the number is below 0.
func TestCut(t *testing.T) {
	for _, c := range []struct{ n, left int }{
		{0, 25}, {1, 24}, {24, 1}, {25, 0}, {26, 0}, {math.MaxInt, 0}, {-1, 25}, {-25, 25}, {math.MinInt, 25},
	} {
		m := threeAsks(t)
		whole := m.Air()
		wantDo(t, m, api.Op{Do: api.Cut, A: 1, N: c.n}, "")
		want := slices.Clone(whole)
		want[1].Bytes = want[1].Bytes[:c.left]
		if got := m.Air(); !slices.Equal(got, want) {
			t.Errorf("cut by %d: %v, want %v", c.n, got, want)
		}
		heard := "1: drop BadFrame"
		if c.left == 25 {
			heard = "1: 91=5; to 0: ask ttl1 hops2 id2 90/? from 91/5"
		}
		wantDo(t, m, api.Op{Do: api.Deliver, A: 1}, heard)
	}
}

// P25: a frame is cut once more, an empty one too; a copy is not cut with it.
func TestCutAgain(t *testing.T) {
	m := threeAsks(t)
	m.Do(api.Op{Do: api.Twice, A: 1})
	for _, left := range []int{18, 11, 4, 0, 0} {
		wantDo(t, m, api.Op{Do: api.Cut, A: 1, N: 7}, "")
		wantAir(t, m, "0>1 ask ttl2 hops1 id1 90/? from 91/5", fmt.Sprintf("0>1 %d bytes", left), "0>1 ask ttl2 hops1 id3 90/? from 91/5", "0>1 ask ttl2 hops1 id2 90/? from 91/5")
	}
	wantDo(t, m, api.Op{Do: api.Twice, A: 1}, "")
	wantDo(t, m, api.Op{Do: api.Deliver, A: 4}, "1: drop BadFrame")
}

// P25: a node hears any bytes, as if any other node had sent them, be there a link or not; what is under way stays.
func TestInject(t *testing.T) {
	m := rowMesh(t, 3)
	m.Do(api.Op{Do: api.Send, A: 0, B: 1, Text: "x"})
	m.Do(api.Op{Do: api.Crash, A: 2})
	frame := string(frameOf(t, request(1, 0, 1, 90, unknown, 91, 5)))
	for _, text := range []string{"", "x", frame[:24], frame + "\x00", strings.Repeat(frame, 1000), "\xff\xfe\xfd"} {
		wantDo(t, m, api.Op{Do: api.Inject, A: 0, B: 1, Text: text}, "0: drop BadFrame")
	}
	wantDo(t, m, api.Op{Do: api.Inject, A: 0, B: 0, Text: frame}, "0: drop BadFrame") // from itself
	wantDo(t, m, api.Op{Do: api.Inject, A: 0, B: 2, Text: frame}, "0: 91=5; drop NoTTL")
	wantLinesOf(t, m, 0, "91+5/1 by 30 to 3000 []")
	wantDo(t, m, api.Op{Do: api.Inject, A: 1, B: 0, Text: frame}, "1: 91=5; drop NoTTL")
	wantDo(t, m, inject(t, 1, 0, data(8, 1, 10, 20, "text")), `1: came 10 "text"`)
	wantAir(t, m, "0>1 ask ttl1 hops0 id1 20/? from 10/2")
}

// P26: a node that crashes does nothing and keeps its journal; it begins again out of that, at the time that it is, and is silent.
func TestCrashAndBoot(t *testing.T) {
	m := rowMesh(t, 2)
	m.Do(api.Op{Do: api.Send, A: 0, B: 1, Text: "x"})
	m.Do(inject(t, 0, 1, request(1, 0, 1, 90, unknown, 20, 7)))
	m.Do(inject(t, 0, 1, request(1, 0, 2, 90, unknown, 20, 9)))
	wantDo(t, m, api.Op{Do: api.Crash, A: 0}, "")
	wantWritten(t, m, 0, 0, "own 1; own 2; 20=7; 20=9")
	wantDo(t, m, api.Op{Do: api.Tick, N: 500}, "")
	wantAir(t, m, "0>1 ask ttl1 hops0 id1 20/? from 10/2")
	wantDo(t, m, api.Op{Do: api.Boot, A: 0}, "0: new; own 3; 20=10")
	wantWritten(t, m, 0, 0, "own 3; 20=10")
	wantLinesOf(t, m, 0, "20-10/0 by 0 to 0 []")
	if !m.Runs(0) {
		t.Error("it does not run")
	}
	wantDo(t, m, api.Op{Do: api.Tick, N: 1999}, "") // the search has gone
	wantDo(t, m, inject(t, 0, 1, data(8, 1, 20, 10, "x")), "0: drop Silent")
	wantDo(t, m, api.Op{Do: api.Tick, N: 1}, "")
	wantDo(t, m, inject(t, 0, 1, data(8, 1, 20, 10, "x")), `0: came 20 "x"`)
	// Once more: the number grows each time.
	for i := range 3 {
		wantDo(t, m, api.Op{Do: api.Crash, A: 0}, "")
		wantDo(t, m, api.Op{Do: api.Boot, A: 0}, fmt.Sprintf("0: new; own %d; 20=%d", 4+i, 11+i))
	}
}

// tornRequest is a request that has node 0 write two records, and answer.
func tornRequest(t *testing.T) api.Op {
	t.Helper()
	return inject(t, 0, 1, request(1, 0, 5, 10, 8, 20, 7))
}

// P26: so many bytes are written, in the midst of a record too; nothing else happens; the node stops. Behind it, the whole records count.
func TestTear(t *testing.T) {
	for _, c := range []struct {
		n    int
		more int // bytes that are no record
		want string
		boot string
	}{
		{math.MinInt, 0, "own 1", "own 2"},
		{-1, 0, "own 1", "own 2"},
		{0, 0, "own 1", "own 2"},
		{1, 1, "own 1", "own 2"},
		{12, 12, "own 1", "own 2"},
		{13, 0, "own 1; own 8", "own 9"},
		{14, 1, "own 1; own 8", "own 9"},
		{25, 12, "own 1; own 8", "own 9"},
		{26, 0, "own 1; own 8; 20=7", "own 9; 20=8"},
		{27, 0, "own 1; own 8; 20=7", "own 9; 20=8"},
		{math.MaxInt, 0, "own 1; own 8; 20=7", "own 9; 20=8"},
	} {
		m := rowMesh(t, 2)
		whole := rowMesh(t, 2)
		wantDo(t, whole, tornRequest(t), "0: own 8; 20=7; to 20: reply ttl8 hops0 10/8 for 20 life6000")
		wantNothing(t, m, api.Op{Do: api.Tear, A: 0, N: c.n})
		wantDo(t, m, tornRequest(t), "0: nothing")
		if m.Runs(0) || m.Routes(0) != nil {
			t.Errorf("torn at %d: runs %v, %v", c.n, m.Runs(0), m.Routes(0))
		}
		wantAir(t, m)
		wantWritten(t, m, 0, c.more, c.want)
		if journal := m.Journal(0); !slices.Equal(journal, whole.Journal(0)[:len(journal)]) {
			t.Errorf("torn at %d: %x, no beginning of %x", c.n, journal, whole.Journal(0))
		}
		wantDo(t, m, api.Op{Do: api.Boot, A: 0}, "0: new; "+c.boot)
		wantWritten(t, m, 0, 0, c.boot)
		// Just once.
		m.Do(api.Op{Do: api.Tick, N: 2000})
		wantDo(t, m, inject(t, 0, 1, request(1, 0, 6, 10, 20, 20, 9)), "0: own 20; 20=9; to 20: reply ttl8 hops0 10/20 for 20 life6000")
	}
}

// P26: a Tear is of one node; each kind of step that has it write is torn.
func TestTearSteps(t *testing.T) {
	for _, c := range []struct {
		op   api.Op
		want string
	}{
		{api.Op{Do: api.Send, A: 0, B: 2, Text: "x"}, "0: nothing"},
		{api.Op{Do: api.Tick, N: 3000}, "0: nothing | 1: 91=6"}, // routes end
		{api.Op{Do: api.Deliver}, "0: nothing"},
		{tornRequest(t), "0: nothing"},
	} {
		m := rowMesh(t, 3)
		m.Do(inject(t, 0, 1, request(1, 0, 1, 90, unknown, 20, 7)))
		m.Do(inject(t, 1, 0, request(3, 0, 1, 90, unknown, 91, 5)))
		m.Do(api.Op{Do: api.Tear, A: 0, N: 5})
		wantDo(t, m, c.op, c.want)
		if m.Runs(0) || !m.Runs(1) {
			t.Errorf("%s: 0 runs: %v, 1 runs: %v", opText(c.op), m.Runs(0), m.Runs(1))
		}
		wantWritten(t, m, 0, 5, "own 1; 20=7")
	}
}

// P26: of those that Tick, one is torn; the others do as ever.
func TestTearInTick(t *testing.T) {
	m := newMesh(t, tens(4), [2]int{0, 1}, [2]int{1, 2})
	for _, a := range []int{0, 1, 2} {
		m.Do(api.Op{Do: api.Send, A: a, B: 3, Text: "x"})
	}
	dropAll(m)
	m.Do(api.Op{Do: api.Tear, A: 1, N: 3})
	wantDo(t, m, api.Op{Do: api.Tick, N: 240}, "0: own 3; to 0: ask ttl3 hops0 id2 40/? from 10/3 | 1: nothing | 2: own 3; to 0: ask ttl3 hops0 id2 40/? from 30/3")
	wantAir(t, m, "0>1 ask ttl3 hops0 id2 40/? from 10/3", "2>1 ask ttl3 hops0 id2 40/? from 30/3")
	wantWritten(t, m, 1, 3, "own 1; own 2")
}

// P26: a journal that was to be replaced stays as it was, however many bytes there were to be written.
func TestTearReplaced(t *testing.T) {
	for _, n := range []int{-1, 0, 5, 13, 26, 39, 1000, math.MaxInt} {
		m := rowMesh(t, 2)
		want := "own 1"
		for i := range uint32(23) {
			m.Do(inject(t, 0, 1, request(1, 0, i, 90, unknown, 20, i)))
			want += fmt.Sprintf("; 20=%d", i)
		}
		wantWritten(t, m, 0, 0, want)
		m.Do(api.Op{Do: api.Tear, A: 0, N: n})
		wantDo(t, m, tornRequestOf(t, 23), "0: nothing")
		wantWritten(t, m, 0, 0, want)
		if m.Runs(0) {
			t.Errorf("torn at %d, it runs", n)
		}
		wantDo(t, m, api.Op{Do: api.Boot, A: 0}, "0: new; own 2; 20=23")
		wantWritten(t, m, 0, 0, "own 2; 20=23")
	}
	// Without a Tear it is replaced.
	m := rowMesh(t, 2)
	for i := range uint32(23) {
		m.Do(inject(t, 0, 1, request(1, 0, i, 90, unknown, 20, i)))
	}
	wantDo(t, m, tornRequestOf(t, 23), "0: new; own 1; 20=23; drop NoTTL")
	wantWritten(t, m, 0, 0, "own 1; 20=23")
}

// tornRequestOf has node 0 write one record.
func tornRequestOf(t *testing.T, seq uint32) api.Op {
	t.Helper()
	return inject(t, 0, 1, request(1, 0, seq, 90, unknown, 20, seq))
}

// P26: what a node does without writing happens as ever, and the Tear stays.
func TestTearWaits(t *testing.T) {
	m := rowMesh(t, 2)
	m.Do(inject(t, 0, 1, request(1, 0, 1, 90, unknown, 20, 7)))
	wantNothing(t, m, api.Op{Do: api.Tear, A: 0, N: 4})
	wantDo(t, m, api.Op{Do: api.Tick, N: 10}, "")
	wantDo(t, m, inject(t, 0, 1, data(8, 1, 20, 10, "x")), `0: came 20 "x"`)
	wantDo(t, m, inject(t, 0, 1, lose(api.Lost{Dest: 90})), "0: drop Stale")
	wantDo(t, m, api.Op{Do: api.Inject, A: 0, B: 1}, "0: drop BadFrame")
	wantDo(t, m, api.Op{Do: api.Send, A: 0, B: 0, Text: "x"}, "0: err 2")
	wantDo(t, m, api.Op{Do: api.Send, A: 0, B: 1, Text: "x"}, `0: to 20: data ttl8 id1 10 to 20 "x"`)
	wantAir(t, m, `0>1 data ttl8 id1 10 to 20 "x"`)
	wantDo(t, m, tornRequest(t), "0: nothing")
	wantWritten(t, m, 0, 4, "own 1; 20=7")
}

// P26: a second Tear counts instead of the first, be its number greater or less.
func TestTearAgain(t *testing.T) {
	for _, c := range [][2]int{{4, 9}, {9, 4}, {0, 4}, {4, 0}, {-5, 4}, {4, -5}, {100, 4}} {
		m := rowMesh(t, 2)
		m.Do(api.Op{Do: api.Tear, A: 0, N: c[0]})
		wantNothing(t, m, api.Op{Do: api.Tear, A: 0, N: c[1]})
		wantDo(t, m, tornRequest(t), "0: nothing")
		wantWritten(t, m, 0, max(0, c[1]), "own 1")
	}
}

// P26: Crash and Boot end a Tear: neither the boot nor what is written behind it is torn.
func TestTearEnds(t *testing.T) {
	m := rowMesh(t, 2)
	m.Do(api.Op{Do: api.Tear, A: 0, N: 4})
	wantDo(t, m, api.Op{Do: api.Crash, A: 0}, "")
	wantWritten(t, m, 0, 0, "own 1")
	wantDo(t, m, api.Op{Do: api.Boot, A: 0}, "0: new; own 2")
	m.Do(api.Op{Do: api.Tick, N: 2000})
	wantDo(t, m, tornRequest(t), "0: own 8; 20=7; to 20: reply ttl8 hops0 10/8 for 20 life6000")
	wantWritten(t, m, 0, 0, "own 2; own 8; 20=7")
}

// P26: a node that is torn as it is told that a link is gone: its frames that still follow go out, and it is told nothing any more.
func TestTearNotHeard(t *testing.T) {
	for _, n := range []int{0, 5, 13, 100} {
		more, want := n%13, "own 1; own 2; own 3; 30=1; 50=5; 60=8"
		if n >= 13 {
			more, want = 0, want+"; 50=6"
		}
		m := crossroads(t, "to 50")
		m.Do(api.Op{Do: api.Link, A: 0, B: 1})
		m.Do(api.Op{Do: api.Tear, A: 0, N: n})
		wantDo(t, m, api.Op{Do: api.Tick, N: 240}, "0: to 20: "+to50+"; to 40: "+to60+" | 0: nothing")
		wantAir(t, m, "0>3 "+to60)
		wantWritten(t, m, 0, more, want)

		m = crossroads(t, "to 50", "one more")
		m.Do(api.Op{Do: api.Link, A: 0, B: 1})
		m.Do(api.Op{Do: api.Link, A: 0, B: 3})
		m.Do(api.Op{Do: api.Tear, A: 0, N: n})
		wantDo(t, m, api.Op{Do: api.Tick, N: 240}, "0: to 20: "+to50+`; to 20: data ttl8 id2 10 to 50 "one more"; to 40: data ttl8 id3 10 to 60 "to 60" | 0: nothing`)
		wantAir(t, m)
		wantWritten(t, m, 0, more, want)
		if m.Runs(0) {
			t.Error("it runs")
		}
	}
	// What is torn itself sends nothing, and is told nothing.
	m := newMesh(t, tens(2))
	m.Do(api.Op{Do: api.Tear, A: 0, N: 100})
	wantDo(t, m, tornRequest(t), "0: nothing")
	wantWritten(t, m, 0, 0, "own 1; own 8; 20=7")
}
