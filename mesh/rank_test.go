package mesh

import (
	"math"
	"testing"

	"mesh/api"
)

// THE RANK (P10), asked from within: no call gives a line of Seq 0 that is not Valid, since a number has grown where a line is not Valid.
func TestRanks(t *testing.T) {
	rising := []api.Route{ // each one's rank is greater than those ahead of it
		{Hops: math.MaxInt},
		{Hops: 3},
		{Hops: 0},
		{Valid: true, Hops: 3},
		{Valid: true, Hops: 0},
		{Valid: true, Seq: 1, Hops: 4},
		{Seq: 2, Hops: 3},
		{Valid: true, Seq: 1, Hops: 2},
		{Valid: true, Seq: 1<<31 - 1},
		{Valid: true, Seq: 1 << 31},
		{Seq: math.MaxUint32},
		{Valid: true, Seq: math.MaxUint32, Hops: 255},
		{Valid: true, Seq: math.MaxUint32, Hops: math.MinInt},
	}
	for i, a := range rising {
		for j, b := range rising {
			if got := rankOf(a).greater(rankOf(b)); got != (i > j) {
				t.Errorf("rank of %v greater than that of %v: %v", a, b, got)
			}
		}
	}
	for _, same := range [][2]api.Route{
		{{Seq: 1, Hops: 3}, {Valid: true, Hops: 3}},
		{{Seq: math.MaxUint32, Hops: 3}, {Valid: true, Seq: math.MaxUint32 - 1, Hops: 3}},
		{{Dest: 1, Next: 2, Expires: 3, Before: []uint32{4}}, {Dest: 5, Next: 6, Expires: 7}},
	} {
		if a, b := rankOf(same[0]), rankOf(same[1]); a.greater(b) || b.greater(a) {
			t.Errorf("ranks of %v and %v are not the same", same[0], same[1])
		}
	}
}
