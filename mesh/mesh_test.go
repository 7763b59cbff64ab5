package mesh_test

import (
	"fmt"
	"math"
	"reflect"
	"slices"
	"strings"
	"testing"

	"mesh/api"
	"mesh/mesh"
)

// newMesh is a mesh of nodes, of which those of each pair hear one another.
func newMesh(t testing.TB, addresses []uint32, pairs ...[2]int) *mesh.Mesh {
	t.Helper()
	m, err := mesh.New(addresses)
	if m == nil || err != api.OK {
		t.Fatalf("New(%v) = %v, %d", addresses, m, err)
	}
	for _, p := range pairs {
		if e := m.Do(api.Op{Do: api.Link, A: p[0], B: p[1], On: true}); e != nil {
			t.Fatalf("Link of %v: %v", p, e)
		}
	}
	return m
}

// tens is the addresses 10, 20, .. of so many nodes.
func tens(n int) (l []uint32) {
	for i := range n {
		l = append(l, uint32(10+10*i))
	}
	return l
}

// rowMesh is nodes 10, 20, .. in a row.
func rowMesh(t testing.TB, n int) *mesh.Mesh {
	t.Helper()
	var pairs [][2]int
	for i := range n - 1 {
		pairs = append(pairs, [2]int{i, i + 1})
	}
	return newMesh(t, tens(n), pairs...)
}

// eventsText is what happens, in short: of each event the number of the node and what it does, or why it was refused.
func eventsText(l []api.Event) string {
	var out []string
	for _, e := range l {
		what := outText(e.Out)
		if e.Err != api.OK {
			what = strings.Trim(fmt.Sprintf("err %d; %s", e.Err, what), "; ")
		}
		if reflect.DeepEqual(e.Out, api.Out{}) && e.Err == api.OK {
			what = "nothing"
		}
		out = append(out, fmt.Sprintf("%d: %s", e.Node, what))
	}
	return strings.Join(out, " | ")
}

// refused is a step that means no node that it may mean.
const refused = "0: err 5"

// opText is a step, in short.
func opText(op api.Op) string {
	names := [...]string{"Op 0", "Link", "Send", "Tick", "Deliver", "Drop", "Twice", "Cut", "Inject", "Crash", "Tear", "Boot"}
	name := fmt.Sprintf("Op %d", op.Do)
	if op.Do > 0 && op.Do < len(names) {
		name = names[op.Do]
	}
	return fmt.Sprintf("%s A %d, B %d, N %d, On %v, %q", name, op.A, op.B, op.N, op.On, op.Text)
}

func wantDo(t *testing.T, m *mesh.Mesh, op api.Op, want string) {
	t.Helper()
	if got := eventsText(m.Do(op)); got != want {
		t.Errorf("%s:\n%s, want\n%s", opText(op), got, want)
	}
}

// flightText is a frame under way, in short; of bytes that are no frame how many there are.
func flightText(f api.Flight) string {
	p, err := mesh.Decode([]byte(f.Bytes))
	if err != api.OK {
		return fmt.Sprintf("%d>%d %d bytes", f.From, f.To, len(f.Bytes))
	}
	return fmt.Sprintf("%d>%d %s", f.From, f.To, packetText(p))
}

func airText(m *mesh.Mesh) (l []string) {
	for _, f := range m.Air() {
		l = append(l, flightText(f))
	}
	return l
}

func wantAir(t *testing.T, m *mesh.Mesh, want ...string) {
	t.Helper()
	if got := airText(m); !slices.Equal(got, want) {
		t.Errorf("under way:\n%q, want\n%q", got, want)
	}
}

// wantLinesOf is the table of a node of a mesh.
func wantLinesOf(t *testing.T, m *mesh.Mesh, node int, want ...string) {
	t.Helper()
	var got []string
	for _, x := range m.Routes(node) {
		got = append(got, lineText(x))
	}
	if !slices.Equal(got, want) {
		t.Errorf("table of %d:\n%q, want\n%q", node, got, want)
	}
}

// wantWritten is what stands in a node's journal: records, and behind them some bytes that are none.
func wantWritten(t *testing.T, m *mesh.Mesh, node int, more int, want string) {
	t.Helper()
	journal := m.Journal(node)
	_, taken := mesh.ReadJournal(journal)
	got := outText(api.Out{Journal: string(journal[:taken])})
	if got != want || len(journal) != taken+more {
		t.Errorf("journal of %d: %s and %d bytes, want %s and %d", node, got, len(journal)-taken, want, more)
	}
}

// meshText is all that can be seen of a mesh.
func meshText(m *mesh.Mesh) string {
	var l []string
	for node := range api.MaxNodes {
		l = append(l, fmt.Sprintf("%d: %v %x", node, m.Runs(node), m.Journal(node)))
		for _, x := range m.Routes(node) {
			l = append(l, lineText(x))
		}
	}
	return strings.Join(append(l, airText(m)...), "\n")
}

// wantNothing: no event, and nothing that can be seen changes.
func wantNothing(t *testing.T, m *mesh.Mesh, op api.Op) {
	t.Helper()
	before := meshText(m)
	if e := m.Do(op); e != nil {
		t.Errorf("%s: %s, want nothing", opText(op), eventsText(e))
	}
	if got := meshText(m); got != before {
		t.Errorf("behind %s:\n%s, want\n%s", opText(op), got, before)
	}
}

// wantRefusedStep: ErrNode, and nothing that can be seen changes.
func wantRefusedStep(t *testing.T, m *mesh.Mesh, op api.Op) {
	t.Helper()
	before := meshText(m)
	if e := m.Do(op); !reflect.DeepEqual(e, []api.Event{{Err: api.ErrNode}}) {
		t.Errorf("%s: %s, want %s", opText(op), eventsText(e), refused)
	}
	if got := meshText(m); got != before {
		t.Errorf("behind %s:\n%s, want\n%s", opText(op), got, before)
	}
}

// inject has a node hear a packet of another.
func inject(t testing.TB, node, from int, p api.Packet) api.Op {
	t.Helper()
	return api.Op{Do: api.Inject, A: node, B: from, Text: string(frameOf(t, p))}
}

// dropAll has all that is under way be lost.
func dropAll(m *mesh.Mesh) {
	for range m.Air() {
		m.Do(api.Op{Do: api.Drop})
	}
}

// P23: no address, too many, the address 0, one that is there twice: wherever these stand.
func TestNewMeshNone(t *testing.T) {
	lists := [][]uint32{nil, {}, {0}, {0, 0}, {1, 1}, {0, 1}, tens(7), make([]uint32, 7), make([]uint32, 1000)}
	for i := range 6 {
		l := tens(6)
		l[i] = 0
		lists = append(lists, l)
		for j := range i {
			l := tens(6)
			l[i] = l[j]
			lists = append(lists, l)
		}
	}
	for _, l := range lists {
		if m, err := mesh.New(l); m != nil || err != api.ErrNode {
			t.Errorf("New(%v) = %v, %d", l, m, err)
		}
	}
}

// P23: each node runs, has a record of its number 1 and an empty table; nothing is under way.
func TestNewMesh(t *testing.T) {
	for _, l := range [][]uint32{{1}, {math.MaxUint32}, {2, 1}, {7, math.MaxUint32, 1 << 31}, tens(5), tens(6), {6, 5, 4, 3, 2, 1}} {
		m := newMesh(t, l)
		for node := range l {
			if !m.Runs(node) || m.Routes(node) != nil {
				t.Errorf("node %d of %v: %v, %v", node, l, m.Runs(node), m.Routes(node))
			}
			if got, want := m.Journal(node), unhex(t, "01 00000000 00000001 8675307b"); !slices.Equal(got, want) {
				t.Errorf("journal of %d of %v: %x, want %x", node, l, got, want)
			}
		}
		if air := m.Air(); air != nil {
			t.Errorf("under way in %v: %v", l, air)
		}
	}
}

// P23: nodes are numbered as their addresses stand, be they rising or not; no one hears another; the time is 0, and no node is silent.
func TestNewMeshBegins(t *testing.T) {
	m := newMesh(t, []uint32{30, 10, 20})
	wantDo(t, m, api.Op{Do: api.Send, A: 0, B: 1, Text: "x"}, "0: own 2; to 0: ask ttl1 hops0 id1 10/? from 30/2")
	wantAir(t, m)
	wantDo(t, m, inject(t, 1, 2, request(1, 0, 1, 10, unknown, 30, 2)), "1: 30=2; to 20: reply ttl8 hops0 10/1 for 30 life6000 | 1: 30=3") // told at once that 20 is not heard
	wantAir(t, m)
	wantLinesOf(t, m, 1, "30-3/1 by 20 to 0 []")
	m.Do(api.Op{Do: api.Link, A: 1, B: 2, On: true})
	wantDo(t, m, inject(t, 1, 2, request(1, 0, 2, 10, unknown, 30, 4)), "1: 30=4; to 20: reply ttl8 hops0 10/1 for 30 life6000")
	wantLinesOf(t, m, 1, "30+4/1 by 20 to 3000 []")
	wantDo(t, m, api.Op{Do: api.Tick, N: 239}, "")
	wantDo(t, m, api.Op{Do: api.Tick, N: 1}, "0: own 3; to 0: ask ttl3 hops0 id2 10/? from 30/3")
}

// P23: of a number that no node has: nothing, false.
func TestMeshNoSuchNode(t *testing.T) {
	for _, n := range []int{1, 3, 6} {
		m := rowMesh(t, n)
		for _, node := range []int{-1, -n, n, n + 1, 2 * n, 6, 7, math.MinInt, math.MaxInt, 1 << 32} {
			if m.Runs(node) || m.Routes(node) != nil || m.Journal(node) != nil {
				t.Errorf("of %d: node %d: %v, %v, %x", n, node, m.Runs(node), m.Routes(node), m.Journal(node))
			}
		}
		if !m.Runs(n-1) || len(m.Journal(n-1)) != 13 {
			t.Errorf("of %d: the last one: %v, %x", n, m.Runs(n-1), m.Journal(n-1))
		}
	}
}

// P23: a node that does not run has no table, but a journal.
func TestMeshStopped(t *testing.T) {
	m := rowMesh(t, 2)
	wantDo(t, m, inject(t, 0, 1, request(1, 0, 1, 90, unknown, 20, 7)), "0: 20=7; drop NoTTL")
	wantLinesOf(t, m, 0, "20+7/1 by 20 to 3000 []")
	wantDo(t, m, api.Op{Do: api.Crash, A: 0}, "")
	if m.Runs(0) || m.Routes(0) != nil || !m.Runs(1) {
		t.Errorf("0 runs: %v, 1 runs: %v, table %v", m.Runs(0), m.Runs(1), m.Routes(0))
	}
	wantWritten(t, m, 0, 0, "own 1; 20=7")
}

// P2: what is handed in is left as it was, and is not kept; each list that comes out is the caller's.
func TestMeshListsAreApart(t *testing.T) {
	addresses := tens(3)
	m := newMesh(t, addresses, [2]int{0, 1}, [2]int{1, 2})
	if !slices.Equal(addresses, tens(3)) {
		t.Errorf("New made %v of its addresses", addresses)
	}
	clear(addresses)
	wantDo(t, m, inject(t, 1, 0, request(3, 0, 1, 90, unknown, 10, 7)), "1: 10=7; to 0: ask ttl2 hops1 id1 90/? from 10/7")
	wantDo(t, m, inject(t, 1, 2, reply(8, 0, 90, 4, 10, 6000)), "1: 90=4; to 10: reply ttl7 hops1 90/4 for 10 life6000")
	before := meshText(m)
	for range 2 {
		clear(m.Journal(1)[:cap(m.Journal(1))])
		clear(m.Air()[:cap(m.Air())])
		l := m.Routes(1)
		for i := range l {
			clear(l[i].Before[:cap(l[i].Before)])
		}
		clear(l[:cap(l)])
		if got := meshText(m); got != before {
			t.Errorf("behind lists that were written into:\n%s, want\n%s", got, before)
		}
	}
	journal, air, table := m.Journal(1), m.Air(), m.Routes(1)
	journal, air = journal[:len(journal):len(journal)], air[:len(air):len(air)]
	journalWas, airWas, tableWas := slices.Clone(journal), slices.Clone(air), fmt.Sprint(table)
	events := m.Do(api.Op{Do: api.Send, A: 1, B: 2, Text: "x"})
	eventsWere := eventsText(events)
	for range 60 {
		m.Do(api.Op{Do: api.Cut, A: 0, N: 1})
		m.Do(api.Op{Do: api.Twice, A: 0})
		m.Do(api.Op{Do: api.Tick, N: 500})
	}
	if !slices.Equal(journal, journalWas) || !slices.Equal(air, airWas) || fmt.Sprint(table) != tableWas || eventsText(events) != eventsWere {
		t.Errorf("steps later on changed what came out: %x, %v, %v, %v", journal, air, table, events)
	}
}

// P2: events that the caller writes into; meshes that do not touch one another.
func TestMeshEventsAreApart(t *testing.T) {
	one, two := rowMesh(t, 3), rowMesh(t, 3)
	for range 2 {
		for _, e := range one.Do(api.Op{Do: api.Send, A: 0, B: 2, Text: "x"}) {
			clear(e.Frames[:cap(e.Frames)])
		}
	}
	wantAir(t, one, "0>1 ask ttl1 hops0 id1 30/? from 10/2")
	wantAir(t, two)
	wantDo(t, two, api.Op{Do: api.Tick, N: 300}, "")
	wantDo(t, one, api.Op{Do: api.Tick, N: 240}, "0: own 3; to 0: ask ttl3 hops0 id2 30/? from 10/3")
	wantDo(t, one, api.Op{Do: api.Crash, A: 1}, "")
	if !two.Runs(1) {
		t.Error("a node of another mesh stops")
	}
}

// P24: a step of no kind, whatever its numbers.
func TestDoNoKind(t *testing.T) {
	m := rowMesh(t, 3)
	m.Do(api.Op{Do: api.Send, A: 1, B: 0, Text: "x"})
	for _, do := range []int{0, 12, 13, -1, -8, 256 + api.Crash, math.MinInt, math.MaxInt} {
		for _, a := range []int{0, 1, -1, 3, math.MinInt, math.MaxInt} {
			wantNothing(t, m, api.Op{Do: do, A: a, B: a, N: a, On: true, Text: "x"})
		}
	}
}

// P24: a node that there is not, for each kind of step that means one.
func TestDoNoSuchNode(t *testing.T) {
	frame := string(frameOf(t, request(1, 0, 1, 90, unknown, 20, 7)))
	for _, none := range []int{-1, -3, 3, 4, 6, math.MinInt, math.MaxInt, 1 << 32} {
		m := rowMesh(t, 3)
		m.Do(api.Op{Do: api.Crash, A: 2})
		for _, op := range []api.Op{
			{Do: api.Link, A: none, B: 1, On: true},
			{Do: api.Link, A: 1, B: none},
			{Do: api.Link, A: none, B: none, On: true},
			{Do: api.Send, A: none, B: 1, Text: "x"},
			{Do: api.Send, A: 1, B: none, Text: "x"},
			{Do: api.Send, A: 1, B: none, Text: strings.Repeat("x", 17)},
			{Do: api.Send, A: none, B: none},
			{Do: api.Inject, A: none, B: 1, Text: frame},
			{Do: api.Inject, A: 1, B: none, Text: frame},
			{Do: api.Inject, A: none, B: none, Text: frame},
			{Do: api.Crash, A: none},
			{Do: api.Tear, A: none, N: 5},
			{Do: api.Boot, A: none},
		} {
			wantRefusedStep(t, m, op)
		}
	}
}

// P24: nodes that must run and do not, or must not run and do.
func TestDoRunsOrNot(t *testing.T) {
	m := rowMesh(t, 3)
	m.Do(api.Op{Do: api.Crash, A: 2})
	frame := string(frameOf(t, request(1, 0, 1, 90, unknown, 20, 7)))
	for _, op := range []api.Op{
		{Do: api.Send, A: 2, B: 1, Text: "x"},
		{Do: api.Send, A: 2, B: 2, Text: strings.Repeat("x", 17)},
		{Do: api.Inject, A: 2, B: 1, Text: frame},
		{Do: api.Crash, A: 2},
		{Do: api.Tear, A: 2, N: 5},
		{Do: api.Boot, A: 0},
		{Do: api.Boot, A: 1},
	} {
		wantRefusedStep(t, m, op)
	}
	// Those that may be stopped: of a link both, of Send and Inject B.
	wantNothing(t, m, api.Op{Do: api.Link, A: 2, B: 0, On: true})
	wantNothing(t, m, api.Op{Do: api.Link, A: 0, B: 2})
	wantDo(t, m, api.Op{Do: api.Send, A: 1, B: 2, Text: "x"}, "1: own 2; to 0: ask ttl1 hops0 id1 30/? from 20/2")
	wantDo(t, m, inject(t, 1, 2, request(1, 0, 1, 90, unknown, 30, 7)), "1: 30=7; drop NoTTL")
	wantDo(t, m, api.Op{Do: api.Boot, A: 2}, "2: new; own 2")
}

// P24: numbers that a step does not mean may be any.
func TestDoOtherNumbers(t *testing.T) {
	m := rowMesh(t, 2)
	for i, other := range []int{-1, 99, math.MinInt, math.MaxInt} {
		wantDo(t, m, api.Op{Do: api.Tick, A: other, B: other, N: 1, Text: "x"}, "")
		wantDo(t, m, api.Op{Do: api.Tear, A: 1, B: other, N: other}, "")
		wantDo(t, m, api.Op{Do: api.Crash, A: 1, B: other, N: other}, "")
		if e := m.Do(api.Op{Do: api.Boot, A: 1, B: other, N: other}); len(e) != 1 || e[0].Node != 1 || e[0].Err != api.OK {
			t.Errorf("Boot with B and N %d: %+v", other, e)
		}
		wantDo(t, m, inject(t, 0, 1, request(3, 0, uint32(i), 90, unknown, 0, 0)), fmt.Sprintf("0: to 0: ask ttl2 hops1 id%d 90/? from 0/0", i))
		wantDo(t, m, api.Op{Do: api.Twice, B: other, N: other}, "")
		wantDo(t, m, api.Op{Do: api.Drop, B: other, N: other}, "")
		wantDo(t, m, api.Op{Do: api.Deliver, B: other, N: other}, "1: drop Silent")
		wantAir(t, m)
	}
}

// flightSteps are those that mean a frame under way.
var flightSteps = []int{api.Deliver, api.Drop, api.Twice, api.Cut}

// P24: frames are meant modulo how many are under way; none by a negative number, and none where none is under way.
func TestDoFlights(t *testing.T) {
	m := rowMesh(t, 2)
	for _, do := range flightSteps {
		for _, a := range []int{0, 1, -1, math.MinInt, math.MaxInt} {
			wantNothing(t, m, api.Op{Do: do, A: a, N: 3})
		}
	}
	for i := range uint32(3) {
		m.Do(inject(t, 0, 1, request(3, 0, i, 90, unknown, 91, 5)))
	}
	for _, do := range flightSteps {
		for _, a := range []int{-1, -2, -3, -4, math.MinInt} {
			wantNothing(t, m, api.Op{Do: do, A: a, N: 3})
		}
	}
	ask := func(id int) string { return fmt.Sprintf("0>1 ask ttl2 hops1 id%d 90/? from 91/5", id) }
	wantDo(t, m, api.Op{Do: api.Twice, A: 3}, "") // the first one
	wantAir(t, m, ask(0), ask(1), ask(2), ask(0))
	wantDo(t, m, api.Op{Do: api.Drop, A: 6}, "")
	wantAir(t, m, ask(0), ask(1), ask(0))
	wantDo(t, m, api.Op{Do: api.Cut, A: math.MaxInt, N: 1}, "") // which has the rest 1
	wantAir(t, m, ask(0), "0>1 24 bytes", ask(0))
	wantDo(t, m, api.Op{Do: api.Deliver, A: 4}, "1: drop BadFrame")
	wantAir(t, m, ask(0), ask(0))
	wantDo(t, m, api.Op{Do: api.Deliver, A: 2}, "1: 91=5; to 0: ask ttl1 hops2 id0 90/? from 91/5")
	wantAir(t, m, ask(0), "1>0 ask ttl1 hops2 id0 90/? from 91/5")
}

// P24: a frame to all goes to each that its sender hears, by rising numbers, whether that runs or not; to no other.
func TestFrameToAll(t *testing.T) {
	m := newMesh(t, []uint32{60, 50, 40, 30, 20, 10}, [2]int{5, 3}, [2]int{3, 4}, [2]int{0, 3}, [2]int{1, 0}, [2]int{1, 2}, [2]int{2, 3})
	m.Do(api.Op{Do: api.Crash, A: 4})
	const ask = "ask ttl1 hops0 id1 60/? from 30/2"
	wantDo(t, m, api.Op{Do: api.Send, A: 3, B: 0, Text: "x"}, "3: own 2; to 0: "+ask)
	wantAir(t, m, "3>0 "+ask, "3>2 "+ask, "3>4 "+ask, "3>5 "+ask)
	wantDo(t, m, api.Op{Do: api.Send, A: 1, B: 5, Text: "x"}, "1: own 2; to 0: ask ttl1 hops0 id1 10/? from 50/2")
	if l := airText(m); len(l) != 6 || l[4][:3] != "1>0" || l[5][:3] != "1>2" {
		t.Errorf("under way: %q", l)
	}
}

// P24: a frame to one is under way to that alone, if its sender hears it, whether that runs or not.
func TestFrameToOne(t *testing.T) {
	for _, stopped := range []bool{false, true} {
		m := newMesh(t, tens(4), [2]int{1, 0}, [2]int{1, 2}, [2]int{1, 3})
		if stopped {
			m.Do(api.Op{Do: api.Crash, A: 2})
		}
		wantDo(t, m, inject(t, 1, 2, request(1, 0, 1, 20, unknown, 90, 7)), "1: 90=7; to 30: reply ttl8 hops0 20/1 for 90 life6000")
		wantAir(t, m, "1>2 reply ttl8 hops0 20/1 for 90 life6000")
		wantLinesOf(t, m, 1, "90+7/1 by 30 to 3000 []")
	}
}

// crossroads is node 0 at the time 0, which hears 1, 2 and 3. It has routes to 50 by 20 and to 60 by 40, both of which 30 uses; texts wait for 50 and 60 until 240, and what is due then writes nothing.
func crossroads(t *testing.T, texts ...string) *mesh.Mesh {
	t.Helper()
	m := newMesh(t, tens(6), [2]int{0, 1}, [2]int{0, 2}, [2]int{0, 3})
	for _, text := range texts {
		m.Do(api.Op{Do: api.Send, A: 0, B: 4, Text: text})
	}
	m.Do(api.Op{Do: api.Send, A: 0, B: 5, Text: "to 60"})
	m.Do(inject(t, 0, 2, request(1, 0, 1, 90, unknown, 30, 1)))
	m.Do(inject(t, 0, 1, reply(8, 0, 50, 5, 30, 6000)))
	m.Do(inject(t, 0, 3, reply(8, 0, 60, 8, 30, 6000)))
	dropAll(m)
	wantLinesOf(t, m, 0, "30+1/1 by 30 to 3000 [20 40]", "50+5/1 by 20 to 6000 [30]", "60+8/1 by 40 to 6000 [30]")
	wantWritten(t, m, 0, 0, "own 1; own 2; own 3; 30=1; 50=5; 60=8")
	return m
}

// The texts of crossroads, as they go out.
const (
	to50 = `data ttl8 id1 10 to 50 "to 50"`
	to60 = `data ttl8 id2 10 to 60 "to 60"`
)

// P24: a node that does not hear whom its frame is for is told so at once: an event of its own, whose frames go out ahead of those that still follow.
func TestFrameNotHeard(t *testing.T) {
	m := crossroads(t, "to 50")
	m.Do(api.Op{Do: api.Link, A: 0, B: 1})
	wantDo(t, m, api.Op{Do: api.Tick, N: 240}, "0: to 20: "+to50+"; to 40: "+to60+" | 0: 50=6; to 0: lose ttl1 [{50 6}]")
	wantAir(t, m, "0>2 lose ttl1 [{50 6}]", "0>3 lose ttl1 [{50 6}]", "0>3 "+to60)
	wantLinesOf(t, m, 0, "30+1/1 by 30 to 3000 [20 40]", "50-6/1 by 20 to 0 []", "60+8/1 by 40 to 6000 [30]")
	wantWritten(t, m, 0, 0, "own 1; own 2; own 3; 30=1; 50=5; 60=8; 50=6")

	m = crossroads(t, "to 50")
	m.Do(api.Op{Do: api.Link, A: 3, B: 0})
	wantDo(t, m, api.Op{Do: api.Tick, N: 240}, "0: to 20: "+to50+"; to 40: "+to60+" | 0: 60=9; to 0: lose ttl1 [{60 9}]")
	wantAir(t, m, "0>1 "+to50, "0>1 lose ttl1 [{60 9}]", "0>2 lose ttl1 [{60 9}]")
}

// P24: it is told so of each frame; where that is nothing new, it does nothing.
func TestFramesNotHeard(t *testing.T) {
	m := crossroads(t, "to 50")
	m.Do(api.Op{Do: api.Link, A: 0, B: 1})
	m.Do(api.Op{Do: api.Link, A: 0, B: 3})
	wantDo(t, m, api.Op{Do: api.Tick, N: 240}, "0: to 20: "+to50+"; to 40: "+to60+" | 0: 50=6; to 0: lose ttl1 [{50 6}] | 0: 60=9; to 0: lose ttl1 [{60 9}]")
	wantAir(t, m, "0>2 lose ttl1 [{50 6}]", "0>2 lose ttl1 [{60 9}]")

	m = crossroads(t, "to 50", "one more")
	m.Do(api.Op{Do: api.Link, A: 0, B: 1})
	wantDo(t, m, api.Op{Do: api.Tick, N: 240}, "0: to 20: "+to50+`; to 20: data ttl8 id2 10 to 50 "one more"; to 40: data ttl8 id3 10 to 60 "to 60" | 0: 50=6; to 0: lose ttl1 [{50 6}]`)
	wantAir(t, m, "0>2 lose ttl1 [{50 6}]", "0>3 lose ttl1 [{50 6}]", `0>3 data ttl8 id3 10 to 60 "to 60"`)
}

// P24: lines that end where no one uses them: an event without a frame.
func TestFrameNotHeardUnused(t *testing.T) {
	m := newMesh(t, tens(3), [2]int{0, 1})
	wantDo(t, m, inject(t, 0, 2, reply(8, 0, 20, 5, 10, 6000)), "0: 20=5")
	wantDo(t, m, api.Op{Do: api.Send, A: 0, B: 1, Text: "x"}, `0: to 30: data ttl8 id1 10 to 20 "x" | 0: 20=6`)
	wantAir(t, m)
	wantLinesOf(t, m, 0, "20-6/1 by 30 to 0 []")
}

// P24: a node that hears a frame and does nothing: no event.
func TestDoesNothing(t *testing.T) {
	m := rowMesh(t, 2)
	const known = "20+7/3 by 20 to 3000 []"
	wantDo(t, m, inject(t, 0, 1, request(1, 2, 1, 90, unknown, 20, 7)), "0: 20=7; drop NoTTL")
	wantLinesOf(t, m, 0, known)
	// Its table changes, but no number in it grows.
	wantDo(t, m, inject(t, 0, 1, reply(8, 0, 20, 7, 10, 6000)), "")
	wantLinesOf(t, m, 0, "20+7/1 by 20 to 6000 []")
	wantDo(t, m, api.Op{Do: api.Tick, N: 5999}, "")
	wantDo(t, m, api.Op{Do: api.Tick, N: 1}, "0: 20=8")
	wantDo(t, m, api.Op{Do: api.Tick, N: 60000}, "")
	// A text that only waits behind another one.
	wantDo(t, m, api.Op{Do: api.Send, A: 0, B: 1, Text: "a"}, "0: own 2; to 0: ask ttl1 hops0 id1 20/8 from 10/2")
	wantDo(t, m, api.Op{Do: api.Send, A: 0, B: 1, Text: "b"}, "")
	wantDo(t, m, inject(t, 0, 1, reply(8, 0, 20, 9, 10, 6000)), `0: 20=9; to 20: data ttl8 id1 10 to 20 "a"; to 20: data ttl8 id2 10 to 20 "b"`)
}

// P24: each thing that a node does makes an event, be it that alone.
func TestDoesSomething(t *testing.T) {
	m := rowMesh(t, 2)
	wantDo(t, m, inject(t, 0, 1, lose(api.Lost{Dest: 90})), "0: drop Stale")
	wantDo(t, m, inject(t, 0, 1, data(1, 1, 20, 10, "")), `0: came 20 ""`)
	wantDo(t, m, inject(t, 0, 1, reply(8, 0, 20, 7, 10, 6000)), "0: 20=7")
	wantDo(t, m, inject(t, 0, 1, data(8, 1, 90, 20, "x")), `0: to 20: data ttl7 id1 90 to 20 "x"`)
}

// manyAsks has node 0, which hears node 1 alone, tell on so many requests, whose ids rise from first on; so its frames can be told from one another.
func manyAsks(t *testing.T, m *mesh.Mesh, first, n uint32) {
	t.Helper()
	for id := first; id < first+n; id++ {
		if e := m.Do(inject(t, 0, 1, request(3, 0, id, 90, unknown, 91, 5))); len(e) != 1 || len(e[0].Frames) != 1 {
			t.Fatalf("request %d: %s", id, eventsText(e))
		}
	}
}

// askIDs are the ids of the requests under way.
func askIDs(t *testing.T, m *mesh.Mesh) (l []int) {
	t.Helper()
	for _, f := range m.Air() {
		p, _ := mesh.Decode([]byte(f.Bytes))
		l = append(l, int(p.ID))
	}
	return l
}

// ids are the numbers from first to last.
func ids(first, last int) (l []int) {
	for i := first; i <= last; i++ {
		l = append(l, i)
	}
	return l
}

// P24: 48 frames may be under way; with each one more the first one is lost.
func TestAirFull(t *testing.T) {
	m := rowMesh(t, 2)
	manyAsks(t, m, 1, 48)
	if got := askIDs(t, m); !slices.Equal(got, ids(1, 48)) {
		t.Errorf("48 requests: %v", got)
	}
	manyAsks(t, m, 49, 1)
	if got := askIDs(t, m); !slices.Equal(got, ids(2, 49)) {
		t.Errorf("49 requests: %v", got)
	}
	manyAsks(t, m, 50, 100)
	if got := askIDs(t, m); !slices.Equal(got, ids(102, 149)) {
		t.Errorf("149 requests: %v", got)
	}
	// The copy is the last one, so it stays where the first one goes.
	m.Do(api.Op{Do: api.Twice, A: 0})
	if got := askIDs(t, m); !slices.Equal(got, append(ids(103, 149), 102)) {
		t.Errorf("the first one twice: %v", got)
	}
	m.Do(api.Op{Do: api.Twice, A: 46})
	if got := askIDs(t, m); !slices.Equal(got, append(ids(104, 149), 102, 149)) {
		t.Errorf("another one twice: %v", got)
	}
}

// P24: a frame that comes makes room for one that goes out then; of a frame to all each one counts.
func TestAirFullToAll(t *testing.T) {
	m := newMesh(t, tens(4), [2]int{0, 1})
	manyAsks(t, m, 1, 48)
	wantDo(t, m, api.Op{Do: api.Deliver, A: 20}, "1: 91=5; to 0: ask ttl1 hops2 id21 90/? from 91/5")
	if got := askIDs(t, m); !slices.Equal(got, slices.Concat(ids(1, 20), ids(22, 48), []int{21})) {
		t.Errorf("a frame has come: %v", got)
	}
	m.Do(api.Op{Do: api.Link, A: 0, B: 2, On: true})
	m.Do(api.Op{Do: api.Link, A: 3, B: 0, On: true})
	m.Do(inject(t, 0, 1, request(3, 0, 77, 90, unknown, 91, 5)))
	if got := askIDs(t, m); !slices.Equal(got, slices.Concat(ids(4, 20), ids(22, 48), []int{21, 77, 77, 77})) {
		t.Errorf("to all three: %v", got)
	}
	if l := airText(m); l[45][:3] != "0>1" || l[46][:3] != "0>2" || l[47][:3] != "0>3" {
		t.Errorf("to all three: %q", l[45:])
	}
}

// Examples: nodes 10, 20, 30 in a row: 10 sends to 30.
func TestMeshInARow(t *testing.T) {
	m := rowMesh(t, 3)
	deliver := api.Op{Do: api.Deliver}
	wantDo(t, m, api.Op{Do: api.Send, A: 0, B: 2, Text: "hello"}, "0: own 2; to 0: ask ttl1 hops0 id1 30/? from 10/2")
	wantAir(t, m, "0>1 ask ttl1 hops0 id1 30/? from 10/2")
	wantDo(t, m, deliver, "1: 10=2; drop NoTTL")
	wantAir(t, m)
	wantDo(t, m, api.Op{Do: api.Tick, N: 239}, "")
	wantDo(t, m, api.Op{Do: api.Tick, N: 1}, "0: own 3; to 0: ask ttl3 hops0 id2 30/? from 10/3")
	wantDo(t, m, deliver, "1: 10=3; to 0: ask ttl2 hops1 id2 30/? from 10/3")
	wantAir(t, m, "1>0 ask ttl2 hops1 id2 30/? from 10/3", "1>2 ask ttl2 hops1 id2 30/? from 10/3")
	wantDo(t, m, deliver, "0: drop Again")
	wantDo(t, m, deliver, "2: 10=3; to 20: reply ttl8 hops0 30/1 for 10 life6000")
	wantDo(t, m, deliver, "1: 30=1; to 10: reply ttl7 hops1 30/1 for 10 life6000")
	wantDo(t, m, deliver, `0: 30=1; to 20: data ttl8 id1 10 to 30 "hello"`)
	wantDo(t, m, deliver, `1: to 30: data ttl7 id1 10 to 30 "hello"`)
	wantDo(t, m, deliver, `2: came 10 "hello"`)
	wantAir(t, m)
	wantLinesOf(t, m, 0, "30+1/2 by 20 to 6240 []")
	wantLinesOf(t, m, 1, "10+3/1 by 10 to 3240 [30]", "30+1/1 by 30 to 6240 [10]")
	wantLinesOf(t, m, 2, "10+3/2 by 20 to 3240 []")
	wantWritten(t, m, 0, 0, "own 1; own 2; own 3; 30=1")
}
