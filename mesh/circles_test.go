package mesh_test

import (
	"math/rand"
	"slices"
	"testing"

	"mesh/api"
	"mesh/mesh"
)

// held is a node, by its number, and a destination that it has held a line of.
type held struct {
	node int
	dest uint32
}

// rankWatch holds a mesh against P27, behind each step.
type rankWatch struct {
	mesh      *mesh.Mesh
	addresses []uint32
	last      map[held][2]int64 // the rank of a line when it was seen last
	through   int               // how often a Valid line's neighbour was another than its destination, and ran
	behind    int               // how often a line was seen again behind a stop
	stopped   map[int]bool      // that have stopped since they were seen
}

func watchRanks(m *mesh.Mesh, addresses []uint32) *rankWatch {
	return &rankWatch{mesh: m, addresses: addresses, last: map[held][2]int64{}, stopped: map[int]bool{}}
}

// lessRank tells whether rank a is less than rank b.
func lessRank(a, b [2]int64) bool {
	return a[0] < b[0] || a[0] == b[0] && a[1] > b[1]
}

func (w *rankWatch) line(node int, dest uint32) (api.Route, bool) {
	l := w.mesh.Routes(node)
	i := slices.IndexFunc(l, func(x api.Route) bool { return x.Dest == dest })
	if i < 0 {
		return api.Route{}, false
	}
	return l[i], true
}

// wantRising: no rank of a line is less than it was, not by a stop either.
func (w *rankWatch) wantRising(t *testing.T) {
	t.Helper()
	for h, was := range w.last {
		if !w.mesh.Runs(h.node) {
			w.stopped[h.node] = true
			continue
		}
		x, there := w.line(h.node, h.dest)
		if !there || lessRank(rankPair(x), was) {
			t.Fatalf("node %d: the rank of its line of %d was %v; it is %s now", h.node, h.dest, was, lineText(x))
		}
		if w.stopped[h.node] {
			w.behind++
		}
	}
}

// wantGreaterNext: where a Valid line goes by a neighbour that is not the destination and runs, that has a line with a greater rank.
func (w *rankWatch) wantGreaterNext(t *testing.T, node int, x api.Route) {
	t.Helper()
	next := slices.Index(w.addresses, x.Next)
	if next < 0 || next == node {
		t.Fatalf("node %d: %s: no neighbour has that address", node, lineText(x))
	}
	if x.Next == x.Dest || !w.mesh.Runs(next) {
		return
	}
	w.through++
	y, there := w.line(next, x.Dest)
	if !there || !lessRank(rankPair(x), rankPair(y)) {
		t.Fatalf("node %d has %s, node %d has %s (%v), whose rank is not greater", node, lineText(x), next, lineText(y), there)
	}
}

func (w *rankWatch) look(t *testing.T) {
	t.Helper()
	w.wantRising(t)
	for node := range w.addresses {
		for _, x := range w.mesh.Routes(node) {
			if x.Valid {
				w.wantGreaterNext(t, node, x)
			}
			w.last[held{node, x.Dest}] = rankPair(x)
		}
		if w.mesh.Runs(node) {
			w.stopped[node] = false
		}
	}
}

// randomStep is a step with nothing injected: mostly frames come, in any order.
func randomStep(random *rand.Rand, n int) api.Op {
	op := api.Op{A: random.Intn(n), B: random.Intn(n)}
	switch k := random.Intn(100); {
	case k < 50:
		op.Do, op.A = api.Deliver, random.Intn(1000)*random.Intn(2) // the first one, or any
	case k < 62:
		op.Do, op.N = api.Tick, []int{1, 20, 80, 240, 240, 400, 560, 900, 1300, 2000, 3100, 7000}[random.Intn(12)]
	case k < 76:
		op.Do, op.Text = api.Send, "x"
	case k < 84:
		op.Do, op.On = api.Link, random.Intn(3) > 0
	case k < 87:
		op.Do, op.A = api.Drop, random.Intn(1000)
	case k < 91:
		op.Do, op.A = api.Twice, random.Intn(1000)
	case k < 92:
		op.Do, op.A, op.N = api.Cut, random.Intn(1000), random.Intn(5)
	case k < 94:
		op.Do = api.Crash
	case k < 96:
		op.Do, op.N = api.Tear, random.Intn(60)
	default:
		op.Do = api.Boot
	}
	return op
}

// P27: random scripts with nothing injected, among them stops, torn writes, and frames that are late, lost, cut, or come twice.
func TestNoCircles(t *testing.T) {
	random := rand.New(rand.NewSource(27))
	through, behind, torn, replaced, came := 0, 0, 0, 0, 0
	for script := range 200 {
		n := 3 + random.Intn(4)
		addresses := tens(n)
		random.Shuffle(n, func(i, j int) { addresses[i], addresses[j] = addresses[j], addresses[i] })
		m := newMesh(t, addresses)
		w := watchRanks(m, addresses)
		for range 2 * n {
			m.Do(api.Op{Do: api.Link, A: random.Intn(n), B: random.Intn(n), On: true})
		}
		for range 400 {
			op := randomStep(random, n)
			if script%2 == 0 && (op.Do == api.Crash || op.Do == api.Tear) && random.Intn(10) > 0 {
				continue // so that journals grow until they are replaced
			}
			for _, e := range m.Do(op) {
				came += len(e.Came)
				if e.Replace && op.Do != api.Boot {
					replaced++
				}
				if e.Journal == "" && e.Err == api.OK && !m.Runs(e.Node) {
					torn++
				}
			}
			w.look(t)
		}
		through, behind = through+w.through, behind+w.behind
	}
	if through < 10000 || behind < 1000 || torn < 300 || replaced < 50 || came < 500 {
		t.Errorf("the scripts tell too little: %d lines by others, %d lines behind a stop, %d torn writes, %d replaced journals, %d texts", through, behind, torn, replaced, came)
	}
}
