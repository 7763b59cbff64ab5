package mesh_test

import (
	"math"
	"math/rand"
	"testing"

	"mesh/mesh"
)

// plainTimers does what P8 says with a list that is looked through each time, so that Timers are held against something that is not of their making.
type plainTimers struct {
	times map[int]uint64 // by id
	whats map[int]int
	last  int
}

func newPlain() *plainTimers {
	return &plainTimers{times: map[int]uint64{}, whats: map[int]int{}}
}

func (p *plainTimers) Add(at uint64, what int) int {
	p.last++
	p.times[p.last], p.whats[p.last] = at, what
	return p.last
}

func (p *plainTimers) Cancel(id int) bool {
	_, ok := p.times[id]
	delete(p.times, id)
	return ok
}

func (p *plainTimers) Next(now uint64) (int, bool) {
	first := 0
	for id := 1; id <= p.last; id++ {
		at, ok := p.times[id]
		if ok && at <= now && (first == 0 || at < p.times[first]) {
			first = id
		}
	}
	if first == 0 {
		return 0, false
	}
	delete(p.times, first)
	return p.whats[first], true
}

func wantLen(t *testing.T, h *mesh.Timers, want int) {
	t.Helper()
	if got := h.Len(); got != want {
		t.Errorf("Len = %d, want %d", got, want)
	}
}

func wantAdd(t *testing.T, h *mesh.Timers, at uint64, what, want int) {
	t.Helper()
	if id := h.Add(at, what); id != want {
		t.Errorf("Add(%d, %d) = %d, want %d", at, what, id, want)
	}
}

func wantCancel(t *testing.T, h *mesh.Timers, id int, want bool) {
	t.Helper()
	if got := h.Cancel(id); got != want {
		t.Errorf("Cancel(%d) = %v, want %v", id, got, want)
	}
}

func wantNext(t *testing.T, h *mesh.Timers, now uint64, want int) {
	t.Helper()
	if what, ok := h.Next(now); what != want || !ok {
		t.Errorf("Next(%d) = %d, %v, want %d, true", now, what, ok, want)
	}
}

func wantNone(t *testing.T, h *mesh.Timers, now uint64) {
	t.Helper()
	if what, ok := h.Next(now); what != 0 || ok {
		t.Errorf("Next(%d) = %d, %v, want 0, false", now, what, ok)
	}
}

// P8: ids are 1, 2, .., also behind what has happened and what was cancelled; what comes back is what was put in.
func TestTimersIDs(t *testing.T) {
	h := mesh.NewTimers()
	wantAdd(t, h, 9, -1, 1)
	wantAdd(t, h, 1, math.MaxInt, 2)
	wantAdd(t, h, 5, math.MinInt, 3)
	wantNext(t, h, 1, math.MaxInt)
	wantAdd(t, h, 7, 0, 4)
	wantCancel(t, h, 4, true)
	wantAdd(t, h, 9, 8, 5)
	wantNext(t, h, 9, math.MinInt)
	wantNext(t, h, 9, -1)
	wantNext(t, h, 9, 8)
	wantNone(t, h, 9)
	wantAdd(t, h, 0, 3, 6)
}

// P8: of equal times the least id, whatever their whats and however they came in.
func TestTimersEqualTimes(t *testing.T) {
	h := mesh.NewTimers()
	for i := range 40 {
		wantAdd(t, h, 5, -i, i+1)
	}
	for i := range 40 {
		wantNext(t, h, 5, -i)
	}
	wantNone(t, h, 5)
	for i := range 40 {
		h.Add(uint64(i%4), i)
	}
	for i := range 40 {
		wantNext(t, h, 3, i%10*4+i/10)
	}
	wantLen(t, h, 0)
}

// P8: a time that is just reached, and one that is not; the least and the greatest time.
func TestTimersTimes(t *testing.T) {
	for _, at := range []uint64{1, 2, 1 << 31, 1<<32 - 1, 1 << 32, 1<<63 - 1, 1 << 63, math.MaxUint64} {
		h := mesh.NewTimers()
		h.Add(at, 7)
		wantNone(t, h, 0)
		wantNone(t, h, at-1)
		wantLen(t, h, 1)
		wantNext(t, h, at, 7)
		wantNone(t, h, math.MaxUint64)
	}
	h := mesh.NewTimers()
	h.Add(math.MaxUint64, 1)
	h.Add(1<<63, 2)
	h.Add(1<<63-1, 3)
	h.Add(0, 4)
	wantNext(t, h, 0, 4)
	wantNone(t, h, 1<<63-2)
	wantNext(t, h, math.MaxUint64, 3)
	wantNext(t, h, math.MaxUint64, 2)
	wantNext(t, h, math.MaxUint64, 1)
}

// P8: a time that lies behind one is as good; now may go back.
func TestTimersBackInTime(t *testing.T) {
	h := mesh.NewTimers()
	h.Add(10, 1)
	h.Add(20, 2)
	wantNext(t, h, 100, 1)
	h.Add(3, 3)
	wantNone(t, h, 2)
	wantNext(t, h, 19, 3)
	wantNone(t, h, 19)
	wantNext(t, h, 20, 2)
}

// P8: Cancel of what happened, was cancelled, or never was.
func TestTimersCancel(t *testing.T) {
	h := mesh.NewTimers()
	never := []int{0, -1, 1, 2, 100, math.MaxInt, math.MinInt}
	for _, id := range never {
		wantCancel(t, h, id, false)
	}
	h.Add(1, 10)
	h.Add(2, 20)
	h.Add(3, 30)
	for _, id := range []int{0, -1, -2, -3, 4, 10, math.MaxInt, math.MinInt} {
		wantCancel(t, h, id, false)
		wantLen(t, h, 3)
	}
	wantCancel(t, h, 2, true)
	wantLen(t, h, 2)
	wantCancel(t, h, 2, false)
	wantNext(t, h, 1, 10)
	wantCancel(t, h, 1, false)
	wantLen(t, h, 1)
	wantNext(t, h, 3, 30)
	wantCancel(t, h, 3, false)
	wantCancel(t, h, 2, false)
	wantNone(t, h, math.MaxUint64)
	wantLen(t, h, 0)
}

// P8: the one that is next, cancelled; and the only one.
func TestTimersCancelNext(t *testing.T) {
	h := mesh.NewTimers()
	h.Add(1, 10)
	h.Add(1, 20)
	wantCancel(t, h, 1, true)
	wantNext(t, h, 1, 20)
	h.Add(1, 30)
	wantCancel(t, h, 3, true)
	wantNone(t, h, math.MaxUint64)
	wantAdd(t, h, 1, 40, 4)
	wantNext(t, h, 1, 40)
}

// P8: Len behind each call.
func TestTimersLen(t *testing.T) {
	h := mesh.NewTimers()
	wantLen(t, h, 0)
	for i := range 10 {
		h.Add(uint64(10-i), i)
		wantLen(t, h, i+1)
	}
	wantNone(t, h, 0)
	wantLen(t, h, 10)
	wantCancel(t, h, 5, true)
	wantLen(t, h, 9)
	wantCancel(t, h, 5, false)
	wantLen(t, h, 9)
	for i := range 9 {
		if _, ok := h.Next(10); !ok {
			t.Error("nothing is due")
		}
		wantLen(t, h, 8-i)
	}
	wantNone(t, h, 10)
	wantLen(t, h, 0)
}

// P2: Timers do not touch one another.
func TestTimersApart(t *testing.T) {
	one, two := mesh.NewTimers(), mesh.NewTimers()
	wantAdd(t, one, 1, 10, 1)
	wantAdd(t, one, 2, 20, 2)
	wantAdd(t, two, 1, 30, 1)
	wantCancel(t, two, 2, false)
	wantCancel(t, one, 1, true)
	wantNext(t, two, 1, 30)
	wantNone(t, two, 9)
	wantNext(t, one, 9, 20)
}

// emptyBoth has all that is left happen, in both the same.
func emptyBoth(t *testing.T, h *mesh.Timers, p *plainTimers) {
	t.Helper()
	for {
		want, some := p.Next(math.MaxUint64)
		got, ok := h.Next(math.MaxUint64)
		if got != want || ok != some {
			t.Fatalf("Next = %d, %v, want %d, %v", got, ok, want, some)
		}
		if !some {
			wantLen(t, h, 0)
			return
		}
	}
}

// P8: one or two cancelled out of few, wherever they stand.
func TestTimersCancelAnywhere(t *testing.T) {
	random := rand.New(rand.NewSource(3))
	for range 400 {
		n := 1 + random.Intn(20)
		times := make([]uint64, n)
		for i := range times {
			times[i] = uint64(random.Intn(30))
		}
		for gone := 1; gone <= n; gone++ {
			h, p := mesh.NewTimers(), newPlain()
			for i, at := range times {
				wantAdd(t, h, at, 100+i, p.Add(at, 100+i))
			}
			wantCancel(t, h, gone, p.Cancel(gone))
			other := 1 + random.Intn(n)
			wantCancel(t, h, other, p.Cancel(other))
			emptyBoth(t, h, p)
		}
	}
}

// P8: many in and out.
func TestTimersMany(t *testing.T) {
	random := rand.New(rand.NewSource(4))
	h, p := mesh.NewTimers(), newPlain()
	for i := range 5000 {
		now := uint64(i / 4)
		switch random.Intn(6) {
		case 0:
			id := random.Intn(p.last+10) - 4
			wantCancel(t, h, id, p.Cancel(id))
		case 1, 2:
			want, some := p.Next(now)
			if got, ok := h.Next(now); got != want || ok != some {
				t.Fatalf("Next(%d) = %d, %v, want %d, %v", now, got, ok, want, some)
			}
		default:
			at := now + uint64(random.Intn(200))
			wantAdd(t, h, at, i, p.Add(at, i))
		}
		wantLen(t, h, len(p.times))
	}
	emptyBoth(t, h, p)
}

// P1, P8: so many that only a heap has them all happen, or be cancelled, in time.
func TestTimersGreat(t *testing.T) {
	const n = 300_000
	h := mesh.NewTimers()
	for i := range n {
		h.Add(uint64(n-i), i)
	}
	for id := 2; id <= n; id += 2 {
		wantCancel(t, h, id, true)
	}
	for i := n - 2; i >= 0; i -= 2 {
		wantNext(t, h, n, i)
	}
	wantLen(t, h, 0)
}

// P1, P8: any calls at all. (go test -fuzz FuzzTimers ./mesh)
func FuzzTimers(f *testing.F) {
	f.Add([]byte{0, 5, 0, 3, 0, 5, 1, 2, 2, 4, 2, 9, 1, 2})
	f.Add([]byte{0, 0, 0, 255, 2, 254, 2, 255, 1, 255})
	f.Fuzz(func(t *testing.T, calls []byte) {
		h, p := mesh.NewTimers(), newPlain()
		for i := 0; i+1 < len(calls); i += 2 {
			// A byte stands for the least or, from 128 on, for the greatest times and ids.
			n := uint64(int8(calls[i+1]))
			switch calls[i] % 3 {
			case 0:
				wantAdd(t, h, n, i, p.Add(n, i))
			case 1:
				wantCancel(t, h, int(n), p.Cancel(int(n)))
			case 2:
				want, some := p.Next(n)
				if got, ok := h.Next(n); got != want || ok != some {
					t.Fatalf("Next(%d) = %d, %v, want %d, %v", n, got, ok, want, some)
				}
			}
			wantLen(t, h, len(p.times))
		}
		emptyBoth(t, h, p)
	})
}
