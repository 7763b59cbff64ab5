package mesh_test

import (
	"math/rand"
	"reflect"
	"slices"
	"testing"

	"mesh/api"
	"mesh/mesh"
)

// plainMesh does what P23 to P26 say, with a list of what is still to go out, so that a Mesh is held against something that is not of its making. Its nodes are those of the program, which plainNode is for.
type plainMesh struct {
	now     uint64
	address []uint32
	node    map[int]*mesh.Node // those that run
	journal map[int]string
	tears   map[int]int
	link    map[[2]int]bool
	air     []api.Flight
	events  []api.Event // of this step
}

func newPlainMesh(addresses []uint32) *plainMesh {
	p := &plainMesh{address: addresses, node: map[int]*mesh.Node{}, journal: map[int]string{}, tears: map[int]int{}, link: map[[2]int]bool{}}
	for i, a := range addresses {
		n, out, _ := mesh.NewNode(a, nil, 0)
		p.node[i], p.journal[i] = n, out.Journal
	}
	return p
}

// happens has a node do something, and all that comes of it.
func (p *plainMesh) happens(node int, out api.Out) {
	todo := p.does(node, out)
	for len(todo) > 0 {
		f := todo[0]
		todo = todo[1:]
		reached := 0
		for to := range p.address {
			if p.link[[2]int{min(node, to), max(node, to)}] && (f.To == 0 || f.To == p.address[to]) {
				p.air = append(p.air, api.Flight{From: node, To: to, Bytes: f.Bytes})
				reached++
			}
		}
		p.air = p.air[max(0, len(p.air)-48):]
		if n := p.node[node]; f.To != 0 && reached == 0 && n != nil {
			todo = append(p.does(node, n.Broken(p.now, f.To)), todo...)
		}
	}
}

// does writes, and tells which frames are to go out then.
func (p *plainMesh) does(node int, out api.Out) []api.Frame {
	if reflect.DeepEqual(out, api.Out{}) {
		return nil
	}
	if room, torn := p.tears[node]; torn && out.Journal != "" {
		if !out.Replace {
			p.journal[node] += out.Journal[:max(0, min(room, len(out.Journal)))]
		}
		delete(p.node, node)
		delete(p.tears, node)
		p.events = append(p.events, api.Event{Node: node})
		return nil
	}
	if out.Replace {
		p.journal[node] = ""
	}
	p.journal[node] += out.Journal
	p.events = append(p.events, api.Event{Node: node, Out: out})
	return slices.Clone(out.Frames)
}

// Do does a step.
func (p *plainMesh) Do(op api.Op) []api.Event {
	p.events = nil
	a, b := op.A >= 0 && op.A < len(p.address), op.B >= 0 && op.B < len(p.address)
	n := p.node[op.A]
	no := func() []api.Event { return []api.Event{{Err: api.ErrNode}} }
	switch op.Do {
	case api.Link:
		if !a || !b {
			return no()
		}
		p.link[[2]int{min(op.A, op.B), max(op.A, op.B)}] = op.On && op.A != op.B
	case api.Send:
		if n == nil || !b {
			return no()
		}
		out, err := n.Send(p.now, p.address[op.B], op.Text)
		if err != api.OK {
			return []api.Event{{Node: op.A, Err: err}}
		}
		p.happens(op.A, out)
	case api.Tick:
		if op.N < 1 || op.N > 60000 {
			return nil
		}
		p.now += uint64(op.N)
		for i := range p.address {
			if p.node[i] != nil {
				p.happens(i, p.node[i].Tick(p.now))
			}
		}
	case api.Inject:
		if n == nil || !b {
			return no()
		}
		p.happens(op.A, n.Receive(p.now, p.address[op.B], []byte(op.Text)))
	case api.Crash, api.Tear:
		if n == nil {
			return no()
		}
		if op.Do == api.Tear {
			p.tears[op.A] = op.N
		} else {
			delete(p.node, op.A)
			delete(p.tears, op.A)
		}
	case api.Boot:
		if n != nil || !a {
			return no()
		}
		n, out, _ := mesh.NewNode(p.address[op.A], []byte(p.journal[op.A]), p.now)
		p.node[op.A] = n
		p.happens(op.A, out)
	default:
		p.flight(op)
	}
	return p.events
}

func (p *plainMesh) flight(op api.Op) {
	if op.Do < api.Deliver || op.Do > api.Cut || op.A < 0 || len(p.air) == 0 {
		return
	}
	i := op.A % len(p.air)
	f := p.air[i]
	switch op.Do {
	case api.Twice:
		p.air = append(p.air, f)
		p.air = p.air[max(0, len(p.air)-48):]
		return
	case api.Cut:
		if op.N >= 0 {
			p.air[i].Bytes = f.Bytes[:max(0, len(f.Bytes)-op.N)]
		}
		return
	}
	p.air = append(p.air[:i:i], p.air[i+1:]...)
	if n := p.node[f.To]; op.Do == api.Deliver && n != nil {
		p.happens(f.To, n.Receive(p.now, p.address[f.From], []byte(f.Bytes)))
	}
}

// bothMeshes are a Mesh and a plainMesh.
type bothMeshes struct {
	mesh  *mesh.Mesh
	plain *plainMesh
	watch *rankWatch // nil where something was injected
}

// wantSame holds what can be seen of both against each other.
func (b *bothMeshes) wantSame(t *testing.T) {
	t.Helper()
	if got := b.mesh.Air(); !slices.Equal(got, b.plain.air) {
		t.Fatalf("under way: %v, want %v", got, b.plain.air)
	}
	for node := -1; node <= len(b.plain.address); node++ {
		n := b.plain.node[node]
		var lines []api.Route
		if n != nil {
			lines = n.Routes()
		}
		if got := b.mesh.Runs(node); got != (n != nil) {
			t.Fatalf("Runs(%d) = %v", node, got)
		}
		if got := b.mesh.Journal(node); string(got) != b.plain.journal[node] || len(got) > 25*13+8*13 {
			t.Fatalf("Journal(%d) = %x, want %x", node, got, b.plain.journal[node])
		}
		if got := b.mesh.Routes(node); !reflect.DeepEqual(got, lines) {
			t.Fatalf("Routes(%d) = %v, want %v", node, got, lines)
		}
	}
}

// do has both do a step.
func (b *bothMeshes) do(t *testing.T, op api.Op) {
	t.Helper()
	got, want := b.mesh.Do(op), b.plain.Do(op)
	if !reflect.DeepEqual(got, want) {
		t.Fatalf("%s: %s, want %s\n%#v, want\n%#v", opText(op), eventsText(got), eventsText(want), got, want)
	}
	b.wantSame(t)
	if op.Do == api.Inject {
		b.watch = nil
	}
	if b.watch != nil {
		b.watch.look(t)
	}
}

// plainOps are kinds of steps, of which some are done more often than others.
var plainOps = []int{
	api.Deliver, api.Deliver, api.Deliver, api.Deliver, api.Deliver, api.Deliver, api.Deliver, api.Deliver,
	api.Send, api.Send, api.Tick, api.Tick, api.Link, api.Link, api.Drop, api.Twice, api.Cut,
	api.Crash, api.Tear, api.Boot, api.Boot, 0, 12, -1,
	api.Inject, api.Inject, api.Inject,
}

// How many of plainOps a script may choose from, so that nothing is injected, or that no node stops either.
var (
	plainUninjected = slices.Index(plainOps, api.Inject)
	plainUnstopped  = slices.Index(plainOps, api.Crash)
)

// opOf is a step that thirteen bytes stand for.
func opOf(c []byte, air []api.Flight) api.Op {
	op := api.Op{Do: plainOps[int(c[0])%len(plainOps)], A: int(int8(c[1])), B: int(int8(c[2])), N: int(int8(c[3])), On: c[4]%4 > 0}
	switch op.Do {
	case api.Send:
		op.Text = "up to twenty letters"[:c[4]%20]
	case api.Tick:
		op.N = []int{1, 40, 80, 240, 240, 400, 560, 1000, 1500, 2000, 3000, 6000, 60000, 0, 60001, -1}[c[3]%16]
	case api.Inject:
		frame, _ := mesh.Encode(packetOf(c[4:12])) // of what is no packet: no bytes
		op.Text = string(frame)
		if len(air) > 0 && c[12]%4 == 0 {
			op.Text = air[int(c[5])%len(air)].Bytes
		}
	}
	return op
}

// meshesRun has both meshes begin and do steps, thirteen bytes each.
func meshesRun(t *testing.T, nodes uint8, steps []byte) {
	t.Helper()
	n := 1 + int(nodes)%6
	var addresses []uint32
	for i := range n {
		addresses = append(addresses, 1+uint32(i+int(nodes)/6)%6)
	}
	m := newMesh(t, addresses)
	b := &bothMeshes{mesh: m, plain: newPlainMesh(addresses), watch: watchRanks(m, addresses)}
	b.wantSame(t)
	for i := range n {
		b.do(t, api.Op{Do: api.Link, A: i, B: (i + 1) % n, On: true})
	}
	for ; len(steps) >= 13 && !t.Failed(); steps = steps[13:] {
		b.do(t, opOf(steps, b.plain.air))
	}
}

// P23 to P27: many steps, one behind the other.
func TestMeshesMany(t *testing.T) {
	random := rand.New(rand.NewSource(23))
	for range 400 {
		steps := make([]byte, 13*(200+random.Intn(300)))
		nodes := byte(random.Intn(36))
		kinds := []int{len(plainOps), plainUninjected, plainUnstopped}[random.Intn(3)]
		for i := range steps {
			steps[i] = byte(random.Intn(7))
			switch i % 13 {
			case 0:
				steps[i] = byte(random.Intn(kinds))
			case 1, 2:
				steps[i] = byte(random.Intn(1 + int(nodes)%6))
			case 3:
				steps[i] = byte(random.Intn(40))
			case 4:
				steps[i] = byte(random.Intn(256))
			}
			if random.Intn(300) == 0 {
				steps[i] = byte(random.Intn(256))
			}
		}
		meshesRun(t, nodes, steps)
		if t.Failed() {
			return
		}
	}
}

// P1, P23 to P27: any steps at all. (go test -fuzz FuzzMeshes ./mesh)
func FuzzMeshes(f *testing.F) {
	step := func(kind int, a, b, n, text byte) []byte {
		return []byte{byte(slices.Index(plainOps, kind)), a, b, n, text, 1, 2, 3, 4, 5, 6, 7, 1}
	}
	deliver := step(api.Deliver, 0, 0, 0, 0)
	f.Add(uint8(3), slices.Concat(
		step(api.Send, 0, 2, 0, 3), deliver, deliver, step(api.Tick, 0, 0, 3, 0),
		deliver, deliver, deliver, deliver, deliver, deliver, deliver, deliver,
		step(api.Link, 1, 2, 0, 0), step(api.Send, 0, 2, 0, 4), deliver, deliver, deliver,
	))
	f.Add(uint8(10), slices.Concat(
		step(api.Tear, 0, 0, 9, 0), step(api.Send, 0, 1, 0, 3), step(api.Boot, 0, 0, 0, 0), step(api.Crash, 1, 0, 0, 0), step(api.Tick, 0, 0, 9, 0),
		step(api.Send, 0, 1, 0, 1), step(api.Twice, 0, 0, 0, 0), step(api.Cut, 1, 0, 3, 0), step(api.Boot, 1, 0, 0, 0), deliver, deliver, step(api.Drop, 200, 0, 0, 0),
	))
	f.Add(uint8(255), slices.Concat(step(api.Inject, 0, 1, 0, 0), step(api.Inject, 1, 0, 0, 1), step(api.Inject, 0, 1, 0, 2), step(api.Inject, 0, 1, 0, 3), step(0, 0, 0, 0, 0)))
	f.Fuzz(meshesRun)
}
