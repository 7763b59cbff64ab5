package mesh_test

import (
	"fmt"
	"math"
	"math/rand"
	"slices"
	"testing"

	"mesh/api"
	"mesh/mesh"
)

// lineText is a line in short: destination, + if Valid, number/hops, neighbour, time, who uses it.
func lineText(x api.Route) string {
	valid := "-"
	if x.Valid {
		valid = "+"
	}
	return fmt.Sprintf("%d%s%d/%d by %d to %d %d", x.Dest, valid, x.Seq, x.Hops, x.Next, x.Expires, x.Before)
}

func tableText(r *mesh.Routes) []string {
	var l []string
	for _, x := range r.List() {
		l = append(l, lineText(x))
	}
	return l
}

func wantTable(t *testing.T, r *mesh.Routes, want ...string) {
	t.Helper()
	if got := tableText(r); !slices.Equal(got, want) {
		t.Errorf("List:\n%q, want\n%q", got, want)
	}
}

func wantUpdate(t *testing.T, r *mesh.Routes, x api.Route, want api.Errno) {
	t.Helper()
	if err := r.Update(x.Dest, x.Seq, x.Hops, x.Next, x.Expires); err != want {
		t.Errorf("Update %s: %d, want %d", lineText(x), err, want)
	}
}

// wantRefused is wantUpdate of an error, with which nothing changes.
func wantRefused(t *testing.T, r *mesh.Routes, x api.Route, want api.Errno) {
	t.Helper()
	before := tableText(r)
	wantUpdate(t, r, x, want)
	wantTable(t, r, before...)
}

func wantFind(t *testing.T, r *mesh.Routes, dest uint32, now uint64, want string) {
	t.Helper()
	if x, ok := r.Find(dest, now); !ok || lineText(x) != want {
		t.Errorf("Find(%d, %d) = %s, %v, want %s", dest, now, lineText(x), ok, want)
	}
}

// wantNotFound: beside false the line is empty, its list too.
func wantNotFound(t *testing.T, r *mesh.Routes, dest uint32, now uint64) {
	t.Helper()
	if x, ok := r.Find(dest, now); ok || x.Before != nil || lineText(x) != lineText(api.Route{}) {
		t.Errorf("Find(%d, %d) = %s, %v, want nothing", dest, now, lineText(x), ok)
	}
}

func wantLose(t *testing.T, r *mesh.Routes, from uint32, l api.Lost, want bool) {
	t.Helper()
	if got := r.Lose(from, l); got != want {
		t.Errorf("Lose(%d, %v) = %v, want %v", from, l, got, want)
	}
}

func wantBroken(t *testing.T, r *mesh.Routes, next uint32, want ...api.Lost) {
	t.Helper()
	if got := r.Broken(next); !slices.Equal(got, want) {
		t.Errorf("Broken(%d) = %v, want %v", next, got, want)
	}
}

// learned is a table of node 5 with these lines, all of them Valid.
func learned(t *testing.T, lines ...api.Route) *mesh.Routes {
	t.Helper()
	r := mesh.NewRoutes(5, nil)
	for _, x := range lines {
		wantUpdate(t, r, x, api.OK)
		for _, n := range x.Before {
			r.Before(x.Dest, n)
		}
	}
	return r
}

// others is records of these addresses, of the number 1.
func others(addresses ...uint32) (l []api.Record) {
	for _, a := range addresses {
		l = append(l, api.Record{Addr: a, Seq: 1})
	}
	return l
}

// P9: what a journal's records make a table of.
func TestNewRoutes(t *testing.T) {
	const most = math.MaxUint32
	for _, c := range []struct {
		name string
		self uint32
		l    []api.Record
		want []string
	}{
		{"none", 5, nil, nil},
		{"an empty list", 5, []api.Record{}, nil},
		{"one", 5, []api.Record{{Addr: 7, Seq: 3}}, []string{"7-4/0 by 0 to 0 []"}},
		{"number 0", 5, []api.Record{{Addr: 7}}, []string{"7-1/0 by 0 to 0 []"}},
		{"one's own", 5, []api.Record{{Own: true, Seq: 3}, {Own: true, Addr: 7, Seq: 4}, {Own: true, Addr: 5, Seq: 5}}, nil},
		{"one's own, of the address of another", 5, []api.Record{{Own: true, Addr: 7, Seq: 9}, {Addr: 7, Seq: 2}, {Own: true, Seq: 8}}, []string{"7-3/0 by 0 to 0 []"}},
		{"self", 5, []api.Record{{Addr: 5, Seq: 3}, {Addr: 6, Seq: 1}, {Addr: 5, Seq: 4}}, []string{"6-2/0 by 0 to 0 []"}},
		{"several of one address", 5, []api.Record{{Addr: 7, Seq: 3}, {Addr: 2, Seq: 8}, {Addr: 7, Seq: 9}, {Addr: 2, Seq: 1}, {Addr: 7, Seq: 5}}, []string{"2-9/0 by 0 to 0 []", "7-10/0 by 0 to 0 []"}},
		{"numbers and addresses above the middle", 5, []api.Record{{Addr: 1 << 31, Seq: 1}, {Addr: 1<<31 - 1, Seq: 1}, {Addr: most, Seq: 1<<31 - 1}, {Addr: 1, Seq: 1 << 31}, {Addr: 1, Seq: 7}},
			[]string{"1-2147483649/0 by 0 to 0 []", "2147483647-2/0 by 0 to 0 []", "2147483648-2/0 by 0 to 0 []", "4294967295-2147483648/0 by 0 to 0 []"}},
		{"the greatest number stays", 5, []api.Record{{Addr: 7, Seq: most}, {Addr: 8, Seq: most - 1}, {Addr: 9, Seq: most - 2}},
			[]string{"7-4294967295/0 by 0 to 0 []", "8-4294967295/0 by 0 to 0 []", "9-4294967294/0 by 0 to 0 []"}},
		{"the address 0 of another", 5, []api.Record{{Addr: 3, Seq: 1}, {Addr: 0, Seq: 6}}, []string{"0-7/0 by 0 to 0 []", "3-2/0 by 0 to 0 []"}},
		{"the address 0 of self", 0, []api.Record{{Addr: 3, Seq: 1}, {Addr: 0, Seq: 6}}, []string{"3-2/0 by 0 to 0 []"}},
	} {
		t.Run(c.name, func(t *testing.T) { wantTable(t, mesh.NewRoutes(c.self, c.l), c.want...) })
	}
}

// P9: of more than 8 addresses those with the least ones, wherever they stand; one's own and self do not count.
func TestNewRoutesMany(t *testing.T) {
	for _, c := range []struct {
		name    string
		records []api.Record
		want    []uint32
	}{
		{"eight", others(18, 17, 16, 15, 14, 13, 12, 11), []uint32{11, 12, 13, 14, 15, 16, 17, 18}},
		{"nine", others(19, 18, 17, 16, 15, 14, 13, 12, 11), []uint32{11, 12, 13, 14, 15, 16, 17, 18}},
		{"nine, the greatest in the middle", others(11, 12, 13, 14, 1<<32-1, 15, 16, 17, 18), []uint32{11, 12, 13, 14, 15, 16, 17, 18}},
		{"self among the least", others(1, 2, 3, 4, 5, 6, 7, 8, 9, 10), []uint32{1, 2, 3, 4, 6, 7, 8, 9}},
		{"0 among the least", others(8, 7, 6, 4, 3, 2, 1, 0, 9), []uint32{0, 1, 2, 3, 4, 6, 7, 8}},
		{"one's own among the least", append([]api.Record{{Own: true, Seq: 1}, {Own: true, Addr: 1, Seq: 1}}, others(18, 17, 16, 15, 14, 13, 12, 11)...), []uint32{11, 12, 13, 14, 15, 16, 17, 18}},
		{"each of them twice", append(others(18, 17, 16, 15, 14, 13, 12, 11), others(11, 12, 13, 14, 15, 16, 17, 18)...), []uint32{11, 12, 13, 14, 15, 16, 17, 18}},
	} {
		var got []uint32
		for _, x := range mesh.NewRoutes(5, c.records).List() {
			got = append(got, x.Dest)
		}
		if !slices.Equal(got, c.want) {
			t.Errorf("%s: %v, want %v", c.name, got, c.want)
		}
	}
	var l []api.Record
	for i := range uint32(5000) {
		l = append(l, api.Record{Addr: 6000 - i, Seq: i}, api.Record{Addr: 6000 - i})
	}
	if x := mesh.NewRoutes(5, l).List(); len(x) != 8 || lineText(x[0]) != "1001-5000/0 by 0 to 0 []" || x[7].Dest != 1008 {
		t.Errorf("5000 addresses: %v", x)
	}
}

// P9: lines by rising destinations, however they came in.
func TestListRises(t *testing.T) {
	dests := []uint32{1 << 31, 3, 1<<32 - 1, 1, 1<<31 - 1, 9, 2, 1<<31 + 1}
	rising := slices.Sorted(slices.Values(dests))
	for range 50 {
		r := mesh.NewRoutes(5, others(dests[2], dests[3]))
		for _, d := range dests {
			wantUpdate(t, r, api.Route{Dest: d, Seq: 9, Expires: 1}, api.OK)
		}
		var got []uint32
		for _, x := range r.List() {
			got = append(got, x.Dest)
		}
		if !slices.Equal(got, rising) {
			t.Fatalf("List has %v, want %v", got, rising)
		}
	}
}

// P2, P9: records that are handed in are left as they were, and changing them later changes no table.
func TestRoutesHandedIn(t *testing.T) {
	room := []api.Record{{Addr: 7, Seq: 3}, {Own: true, Addr: 4, Seq: 2}, {Addr: 2, Seq: 1}, {Addr: 7, Seq: 4}, {Addr: 88, Seq: 88}}
	before := slices.Clone(room)
	r := mesh.NewRoutes(5, room[:4])
	if !slices.Equal(room, before) {
		t.Errorf("NewRoutes made %v of %v", room, before)
	}
	clear(room)
	wantTable(t, r, "2-2/0 by 0 to 0 []", "7-5/0 by 0 to 0 []")
}

// P2, P9, P11, P12: what comes out is the caller's: changing it, and what it has room for, changes no table and no other answer.
func TestRoutesAnswersAreApart(t *testing.T) {
	r := learned(t, api.Route{Dest: 2, Seq: 5, Hops: 3, Next: 7, Expires: 100, Before: []uint32{1, 3}}, api.Route{Dest: 4, Seq: 5, Hops: 3, Next: 8, Expires: 100, Before: []uint32{1, 3, 6}})
	want := tableText(r)
	ruin := func(b []uint32) {
		b = b[:cap(b)]
		for i := range b {
			b[i] = 99
		}
	}
	kept := r.List()
	for range 3 {
		found, ok := r.Find(2, 1)
		listed := r.List()
		if !ok || len(listed) != 2 {
			t.Fatalf("Find: %v, List: %v", ok, listed)
		}
		ruin(found.Before)
		for i := range listed {
			ruin(listed[i].Before)
		}
		clear(listed[:cap(listed)])
		wantTable(t, r, want...)
		wantFind(t, r, 2, 1, want[0])
	}
	found, _ := r.Find(2, 1)
	r.Before(2, 2)
	r.Before(4, 2)
	if got := lineText(found); got != want[0] {
		t.Errorf("a call later on makes %s of Find's %s", got, want[0])
	}
	if got := lineText(kept[0]) + lineText(kept[1]); got != want[0]+want[1] {
		t.Errorf("a call later on makes %s of List's %q", got, want)
	}
	wantTable(t, r, "2+5/3 by 7 to 100 [1 2 3]", "4+5/3 by 8 to 100 [1 2 3 6]")
	lost := r.Broken(7)
	clear(lost[:cap(lost)])
	wantTable(t, r, "2-6/3 by 7 to 0 []", "4+5/3 by 8 to 100 [1 2 3 6]")
}

// P2: tables do not touch one another.
func TestRoutesApart(t *testing.T) {
	l := others(2)
	one, two := mesh.NewRoutes(5, l), mesh.NewRoutes(6, l)
	wantUpdate(t, one, api.Route{Dest: 2, Seq: 3, Next: 7, Expires: 9}, api.OK)
	wantUpdate(t, one, api.Route{Dest: 6, Seq: 3, Next: 7, Expires: 9}, api.OK)
	wantTable(t, two, "2-2/0 by 0 to 0 []")
	wantBroken(t, two, 7)
	wantRefused(t, two, api.Route{Dest: 6, Seq: 3}, api.ErrOwn)
	wantTable(t, one, "2+3/0 by 7 to 9 []", "6+3/0 by 7 to 9 []")
}

// P10: a first line has all that is handed in, the least and the greatest numbers too.
func TestUpdateFirst(t *testing.T) {
	for _, x := range []api.Route{
		{Dest: 2, Seq: 5, Hops: 3, Next: 7, Expires: 100},
		{Dest: 1},
		{Dest: math.MaxUint32, Seq: math.MaxUint32, Hops: math.MaxInt, Next: math.MaxUint32, Expires: math.MaxUint64},
		{Dest: 2, Hops: math.MinInt},
		{Dest: 2, Seq: 1, Next: 5},
	} {
		r := learned(t, x)
		x.Valid = true
		wantTable(t, r, lineText(x))
	}
}

// P10: self and 0 are refused ahead of all else: where the table is full, and where a line of 0 is there.
func TestUpdateOwn(t *testing.T) {
	r := mesh.NewRoutes(5, nil)
	for _, dest := range []uint32{5, 0} {
		wantRefused(t, r, api.Route{Dest: dest, Seq: 9, Hops: 1, Next: 7, Expires: 9}, api.ErrOwn)
	}
	r = mesh.NewRoutes(5, others(0, 1, 2, 3))
	wantRefused(t, r, api.Route{Dest: 0, Seq: 9, Hops: 1, Next: 7, Expires: 9}, api.ErrOwn)
	wantRefused(t, r, api.Route{Dest: 0, Seq: 0, Hops: 1, Next: 7, Expires: 9}, api.ErrOwn)
	r = mesh.NewRoutes(5, others(1, 2, 3, 4, 6, 7, 8, 9))
	for _, dest := range []uint32{5, 0} {
		wantRefused(t, r, api.Route{Dest: dest, Seq: 9}, api.ErrOwn)
	}
	r = mesh.NewRoutes(0, nil)
	wantRefused(t, r, api.Route{Dest: 0, Seq: 9}, api.ErrOwn)
	wantUpdate(t, r, api.Route{Dest: 5, Seq: 9}, api.OK)
}

// P10: what is refused, and what is taken, of a line that is Valid, and of one that is not.
func TestUpdateRanks(t *testing.T) {
	const most = math.MaxUint32
	for _, c := range []struct {
		seq   uint32 // of the line
		hops  int
		valid bool
		seq2  uint32 // of Update
		hops2 int
		want  api.Errno
	}{
		{5, 3, true, 5, 3, api.ErrOld},
		{5, 3, true, 5, 4, api.ErrOld},
		{5, 3, true, 5, 2, api.OK},
		{5, 3, true, 6, 3, api.OK},
		{5, 3, true, 6, 255, api.OK},
		{5, 3, true, 4, 0, api.ErrOld},
		{5, 3, true, 4, 3, api.ErrOld},
		{5, 3, true, 0, 0, api.ErrOld},
		{0, 3, true, 0, 3, api.ErrOld},
		{0, 3, true, 0, 2, api.OK},
		{0, 3, true, 1, 9, api.OK},
		{most, 3, true, most, 3, api.ErrOld},
		{most, 3, true, most, 2, api.OK},
		{most, 3, true, 0, 0, api.ErrOld},
		{most - 1, 3, true, most, 9, api.OK},
		{1<<31 - 1, 3, true, 1 << 31, 9, api.OK},
		{1 << 31, 3, true, 1<<31 - 1, 0, api.ErrOld},
		{0, 0, true, most, 0, api.OK},
		{5, math.MaxInt, true, 5, math.MinInt, api.OK},
		{5, math.MinInt, true, 5, math.MaxInt, api.ErrOld},
		{5, 3, false, 5, 3, api.OK},
		{5, 3, false, 5, 255, api.OK},
		{5, 3, false, 4, 2, api.OK},
		{5, 3, false, 4, 3, api.ErrOld},
		{5, 3, false, 4, 4, api.ErrOld},
		{5, 3, false, 3, 0, api.ErrOld},
		{1, 3, false, 0, 2, api.OK},
		{1, 3, false, 0, 3, api.ErrOld},
		{most, 3, false, most, 9, api.OK},
		{most, 3, false, most - 1, 3, api.ErrOld},
		{most, 3, false, most - 1, 2, api.OK},
	} {
		first, second := api.Route{Dest: 2, Seq: c.seq, Hops: c.hops, Next: 7, Expires: 100}, api.Route{Dest: 2, Seq: c.seq2, Hops: c.hops2, Next: 8, Expires: 50}
		if !c.valid && c.seq < most {
			first.Seq-- // it grows as the line ends
		}
		r := learned(t, first, api.Route{Dest: 3, Seq: 1, Next: 9, Expires: 1})
		r.Before(2, 1)
		if !c.valid {
			r.Broken(7)
		}
		if c.want != api.OK {
			wantRefused(t, r, second, c.want)
			continue
		}
		wantUpdate(t, r, second, api.OK)
		second.Valid = true
		wantTable(t, r, lineText(second), "3+1/0 by 9 to 1 []")
	}
}

// P10: the least numbers, held against those of a journal's lines, which have grown. (Of Seq 0 that is not Valid: rank_test.go.)
func TestUpdateLeastRanks(t *testing.T) {
	r := mesh.NewRoutes(5, []api.Record{{Addr: 2}})
	wantTable(t, r, "2-1/0 by 0 to 0 []")
	wantRefused(t, r, api.Route{Dest: 2, Hops: 0}, api.ErrOld)
	wantRefused(t, r, api.Route{Dest: 2, Hops: 1}, api.ErrOld)
	wantUpdate(t, r, api.Route{Dest: 2, Seq: 0, Hops: -1, Next: 3}, api.OK)
	wantTable(t, r, "2+0/-1 by 3 to 0 []")
	r = mesh.NewRoutes(5, others(2))
	wantRefused(t, r, api.Route{Dest: 2, Seq: 1, Hops: 0}, api.ErrOld)
	wantUpdate(t, r, api.Route{Dest: 2, Seq: 2, Hops: 255}, api.OK)
}

// P10: a ninth line is refused, be the eight Valid or not; a line that is there is not.
func TestUpdateFull(t *testing.T) {
	r := mesh.NewRoutes(5, others(11, 12, 13))
	for dest := range uint32(5) {
		wantUpdate(t, r, api.Route{Dest: 21 + dest, Seq: 1, Hops: 1, Next: 7, Expires: 9}, api.OK)
	}
	full := func() {
		t.Helper()
		for _, dest := range []uint32{1, 14, 99, 1<<32 - 1} {
			wantRefused(t, r, api.Route{Dest: dest, Seq: 9, Hops: 1, Next: 7, Expires: 9}, api.ErrFull)
			wantRefused(t, r, api.Route{Dest: dest}, api.ErrFull)
		}
	}
	full()
	wantRefused(t, r, api.Route{Dest: 25, Seq: 1, Hops: 1}, api.ErrOld)
	wantRefused(t, r, api.Route{Dest: 13, Seq: 1, Hops: 0}, api.ErrOld)
	wantUpdate(t, r, api.Route{Dest: 25, Seq: 2, Hops: 1, Next: 7, Expires: 9}, api.OK)
	wantUpdate(t, r, api.Route{Dest: 13, Seq: 2, Hops: 1, Next: 7, Expires: 9}, api.OK)
	full()
	r.Expire(9)
	r.Broken(7)
	full()
}

// P10: a line that is renewed is Valid again and has no Before, be it of the same neighbour or of another.
func TestUpdateForgetsBefore(t *testing.T) {
	for _, next := range []uint32{7, 8} {
		r := learned(t, api.Route{Dest: 2, Seq: 5, Hops: 3, Next: 7, Expires: 100, Before: []uint32{1, 3}})
		wantUpdate(t, r, api.Route{Dest: 2, Seq: 5, Hops: 2, Next: next, Expires: 50}, api.OK)
		wantTable(t, r, fmt.Sprintf("2+5/2 by %d to 50 []", next))
		wantBroken(t, r, next)
		wantUpdate(t, r, api.Route{Dest: 2, Seq: 6, Hops: 9, Next: next, Expires: 60}, api.OK)
		wantTable(t, r, fmt.Sprintf("2+6/9 by %d to 60 []", next))
	}
}

// P11: of a line that is there and is not, that is not Valid, and by its time.
func TestFind(t *testing.T) {
	r := mesh.NewRoutes(5, others(0, 3, 5))
	wantUpdate(t, r, api.Route{Dest: 2, Seq: 5, Hops: 3, Next: 7, Expires: 100}, api.OK)
	r.Before(2, 9)
	for _, now := range []uint64{0, 1, 99} {
		wantFind(t, r, 2, now, "2+5/3 by 7 to 100 [9]")
	}
	for _, now := range []uint64{100, 101, 1 << 32, 1<<32 + 1, 1 << 63, math.MaxUint64} {
		wantNotFound(t, r, 2, now)
	}
	for _, dest := range []uint32{0, 1, 3, 4, 5, 7, 9, math.MaxUint32} {
		wantNotFound(t, r, dest, 0)
	}
	wantTable(t, r, "0-2/0 by 0 to 0 []", "2+5/3 by 7 to 100 [9]", "3-2/0 by 0 to 0 []")
	r.Broken(7)
	wantNotFound(t, r, 2, 0)
}

// P11: the least and the greatest times.
func TestFindTimes(t *testing.T) {
	for _, at := range []uint64{1, 1<<32 - 1, 1 << 32, 1<<63 - 1, 1 << 63, math.MaxUint64} {
		r := learned(t, api.Route{Dest: 2, Seq: 5, Expires: at})
		line := fmt.Sprintf("2+5/0 by 0 to %d []", at)
		wantFind(t, r, 2, 0, line)
		wantFind(t, r, 2, at-1, line)
		wantNotFound(t, r, 2, at)
		wantNotFound(t, r, 2, math.MaxUint64)
	}
	r := learned(t, api.Route{Dest: 2, Seq: 5})
	wantNotFound(t, r, 2, 0)
	wantTable(t, r, "2+5/0 by 0 to 0 []")
}

// P11: a greater time counts, an equal and a lesser one do not; a line whose time has come, but that has not ended, lives on.
func TestUse(t *testing.T) {
	r := learned(t, api.Route{Dest: 2, Seq: 5, Hops: 3, Next: 7, Expires: 100, Before: []uint32{1}}, api.Route{Dest: 4, Seq: 5, Hops: 3, Next: 7, Expires: 100})
	for _, c := range []struct {
		expires uint64
		want    string
	}{
		{0, "100"}, {99, "100"}, {100, "100"}, {101, "101"}, {100, "101"},
		{1 << 32, "4294967296"}, {1, "4294967296"}, {1 << 63, "9223372036854775808"}, {1<<63 - 1, "9223372036854775808"},
		{math.MaxUint64, "18446744073709551615"}, {0, "18446744073709551615"},
	} {
		r.Use(2, c.expires)
		wantTable(t, r, "2+5/3 by 7 to "+c.want+" [1]", "4+5/3 by 7 to 100 []")
	}
	wantNotFound(t, r, 4, 150)
	r.Use(4, 200)
	wantFind(t, r, 4, 150, "4+5/3 by 7 to 200 []")
}

// P11: a line that is not Valid, or is not there, is not used.
func TestUseNotValid(t *testing.T) {
	r := mesh.NewRoutes(5, others(0, 3))
	wantUpdate(t, r, api.Route{Dest: 2, Seq: 5, Hops: 3, Next: 7, Expires: 100}, api.OK)
	r.Expire(100)
	for _, dest := range []uint32{0, 2, 3, 4, 5, math.MaxUint32} {
		r.Use(dest, 500)
		r.Before(dest, 1)
		wantNotFound(t, r, dest, 1)
	}
	wantTable(t, r, "0-2/0 by 0 to 0 []", "2-6/3 by 7 to 0 []", "3-2/0 by 0 to 0 []")
}

// P11: neighbours that use a line: each once, four at most, rising, whatever they are.
func TestBefore(t *testing.T) {
	r := learned(t, api.Route{Dest: 2, Seq: 5, Hops: 3, Next: 7, Expires: 100}, api.Route{Dest: 4, Seq: 5, Hops: 3, Next: 7})
	for _, c := range []struct {
		neighbour uint32
		want      string
	}{
		{8, "[8]"}, {8, "[8]"}, {3, "[3 8]"}, {1<<32 - 1, "[3 8 4294967295]"}, {3, "[3 8 4294967295]"}, {4294967295, "[3 8 4294967295]"},
		{6, "[3 6 8 4294967295]"}, {6, "[3 6 8 4294967295]"}, {1, "[3 6 8 4294967295]"}, {7, "[3 6 8 4294967295]"}, {8, "[3 6 8 4294967295]"},
	} {
		r.Before(2, c.neighbour)
		wantTable(t, r, "2+5/3 by 7 to 100 "+c.want, "4+5/3 by 7 to 0 []")
	}
	// The line's own neighbour, its destination, self and 0 are neighbours as any; a line whose time has come is Valid until it ends.
	for _, n := range []uint32{7, 5, 4, 0} {
		r.Before(4, n)
	}
	wantTable(t, r, "2+5/3 by 7 to 100 [3 6 8 4294967295]", "4+5/3 by 7 to 0 [0 4 5 7]")
}

// P11: rising in each order of coming.
func TestBeforeOrder(t *testing.T) {
	random := rand.New(rand.NewSource(5))
	for range 200 {
		r := learned(t, api.Route{Dest: 2, Seq: 5, Expires: 9})
		var want []uint32
		for range random.Intn(9) {
			n := uint32(random.Intn(6)) << 29
			r.Before(2, n)
			if len(want) < 4 && !slices.Contains(want, n) {
				want = append(want, n)
			}
		}
		slices.Sort(want)
		wantTable(t, r, fmt.Sprintf("2+5/0 by 0 to 9 %d", want))
	}
}

// P12: the number of a line that ends, by the one that is told; Hops and Next stay; other lines do too.
func TestLoseNumbers(t *testing.T) {
	const most = math.MaxUint32
	for _, c := range []struct{ seq, told, want uint32 }{
		{5, 0, 6}, {5, 4, 6}, {5, 5, 6}, {5, 6, 6}, {5, 7, 7}, {5, 99, 99}, {5, most, most},
		{0, 0, 1}, {0, 1, 1}, {0, 2, 2},
		{1<<31 - 1, 0, 1 << 31}, {1<<31 - 1, 1<<31 + 1, 1<<31 + 1},
		{most - 1, 0, most}, {most - 1, most, most}, {most, 0, most}, {most, 7, most}, {most, most, most},
	} {
		r := learned(t, api.Route{Dest: 2, Seq: c.seq, Hops: 3, Next: 7, Expires: 100, Before: []uint32{1, 8}}, api.Route{Dest: 4, Seq: 5, Hops: 2, Next: 7, Expires: 90, Before: []uint32{1}})
		wantLose(t, r, 7, api.Lost{Dest: 2, Seq: c.told}, true)
		wantTable(t, r, fmt.Sprintf("2-%d/3 by 7 to 0 []", c.want), "4+5/2 by 7 to 90 [1]")
		wantLose(t, r, 7, api.Lost{Dest: 2, Seq: most}, false)
		wantTable(t, r, fmt.Sprintf("2-%d/3 by 7 to 0 []", c.want), "4+5/2 by 7 to 90 [1]")
	}
}

// P12: what a neighbour says of a line that is another's, that is not Valid, or is not there.
func TestLoseNothing(t *testing.T) {
	r := mesh.NewRoutes(5, others(0, 3))
	wantUpdate(t, r, api.Route{Dest: 2, Seq: 5, Hops: 3, Next: 7, Expires: 100}, api.OK)
	r.Before(2, 8)
	want := tableText(r)
	for _, c := range []struct {
		from uint32
		l    api.Lost
	}{
		{8, api.Lost{Dest: 2, Seq: 9}}, {0, api.Lost{Dest: 2, Seq: 9}}, {2, api.Lost{Dest: 2, Seq: 9}}, {5, api.Lost{Dest: 2, Seq: 5}},
		{7, api.Lost{}}, {7, api.Lost{Dest: 7, Seq: 9}}, {7, api.Lost{Dest: 5, Seq: 9}}, {7, api.Lost{Dest: 4, Seq: 9}},
		{0, api.Lost{Dest: 3, Seq: 9}}, {0, api.Lost{Dest: 0, Seq: 9}}, {7, api.Lost{Dest: 3, Seq: 9}}, {math.MaxUint32, api.Lost{Dest: math.MaxUint32, Seq: math.MaxUint32}},
	} {
		wantLose(t, r, c.from, c.l, false)
		wantTable(t, r, want...)
	}
	// One whose time has come, but that has not ended, is Valid yet.
	wantNotFound(t, r, 2, 100)
	wantLose(t, r, 7, api.Lost{Dest: 2, Seq: 9}, true)
	wantTable(t, r, "0-2/0 by 0 to 0 []", "2-9/3 by 7 to 0 []", "3-2/0 by 0 to 0 []")
}

// P12: all Valid lines by that neighbour end; those that others use are told, by rising destinations.
func TestBroken(t *testing.T) {
	for range 50 {
		r := learned(t,
			api.Route{Dest: 1 << 31, Seq: 1, Hops: 1, Next: 7, Expires: 100, Before: []uint32{1}},
			api.Route{Dest: 9, Seq: 5, Hops: 2, Next: 7, Expires: 10, Before: []uint32{1, 2, 3, 4}},
			api.Route{Dest: 2, Seq: 7, Hops: 3, Next: 7, Expires: 100},
			api.Route{Dest: 7, Seq: math.MaxUint32, Hops: 1, Next: 7, Expires: 100, Before: []uint32{0}},
			api.Route{Dest: 3, Seq: 0, Hops: 0, Next: 7, Expires: 0, Before: []uint32{9}},
			api.Route{Dest: 4, Seq: 8, Hops: 5, Next: 8, Expires: 100, Before: []uint32{1}},
			api.Route{Dest: 1, Seq: 8, Hops: 6, Next: 7, Expires: 100, Before: []uint32{1}},
		)
		wantLose(t, r, 7, api.Lost{Dest: 1, Seq: 3}, true)
		wantBroken(t, r, 7, api.Lost{Dest: 3, Seq: 1}, api.Lost{Dest: 7, Seq: math.MaxUint32}, api.Lost{Dest: 9, Seq: 6}, api.Lost{Dest: 1 << 31, Seq: 2})
		wantTable(t, r, "1-9/6 by 7 to 0 []", "2-8/3 by 7 to 0 []", "3-1/0 by 7 to 0 []", "4+8/5 by 8 to 100 [1]", "7-4294967295/1 by 7 to 0 []", "9-6/2 by 7 to 0 []", "2147483648-2/1 by 7 to 0 []")
		wantBroken(t, r, 7)
	}
}

// P12: neighbours by which no line goes, or no Valid one; nothing is told then.
func TestBrokenNothing(t *testing.T) {
	r := mesh.NewRoutes(5, others(0, 3))
	wantUpdate(t, r, api.Route{Dest: 2, Seq: 5, Hops: 3, Next: 7, Expires: 100}, api.OK)
	r.Before(2, 8)
	want := tableText(r)
	for _, next := range []uint32{0, 2, 3, 5, 8, math.MaxUint32} {
		wantBroken(t, r, next)
		wantTable(t, r, want...)
	}
	wantBroken(t, mesh.NewRoutes(5, nil), 7)
	wantBroken(t, r, 7, api.Lost{Dest: 2, Seq: 6})
	wantUpdate(t, r, api.Route{Dest: 2, Seq: 6, Hops: 3, Next: 7, Expires: 100}, api.OK)
	if l := r.Broken(7); l != nil {
		t.Errorf("Broken of what none uses = %v", l)
	}
	wantTable(t, r, "0-2/0 by 0 to 0 []", "2-7/3 by 7 to 0 []", "3-2/0 by 0 to 0 []")
}

// P12: by a line's time: ahead of it, at it, behind it.
func TestExpire(t *testing.T) {
	r := learned(t,
		api.Route{Dest: 2, Seq: 5, Hops: 3, Next: 7, Expires: 100, Before: []uint32{1}},
		api.Route{Dest: 4, Seq: 6, Hops: 2, Next: 7, Expires: 101},
		api.Route{Dest: 6, Seq: math.MaxUint32, Hops: 1, Next: 8, Expires: 100, Before: []uint32{1}},
		api.Route{Dest: 8, Seq: 0, Hops: 9, Next: 8, Expires: math.MaxUint64},
		api.Route{Dest: 9, Seq: 7, Hops: 9, Next: 8, Expires: 0},
	)
	wantStep := func(now uint64, want ...string) {
		t.Helper()
		r.Expire(now)
		wantTable(t, r, want...)
	}
	wantStep(0, "2+5/3 by 7 to 100 [1]", "4+6/2 by 7 to 101 []", "6+4294967295/1 by 8 to 100 [1]", "8+0/9 by 8 to 18446744073709551615 []", "9-8/9 by 8 to 0 []")
	wantStep(99, "2+5/3 by 7 to 100 [1]", "4+6/2 by 7 to 101 []", "6+4294967295/1 by 8 to 100 [1]", "8+0/9 by 8 to 18446744073709551615 []", "9-8/9 by 8 to 0 []")
	for range 3 {
		wantStep(100, "2-6/3 by 7 to 0 []", "4+6/2 by 7 to 101 []", "6-4294967295/1 by 8 to 0 []", "8+0/9 by 8 to 18446744073709551615 []", "9-8/9 by 8 to 0 []")
	}
	wantStep(math.MaxUint64-1, "2-6/3 by 7 to 0 []", "4-7/2 by 7 to 0 []", "6-4294967295/1 by 8 to 0 []", "8+0/9 by 8 to 18446744073709551615 []", "9-8/9 by 8 to 0 []")
	wantStep(math.MaxUint64, "2-6/3 by 7 to 0 []", "4-7/2 by 7 to 0 []", "6-4294967295/1 by 8 to 0 []", "8-1/9 by 8 to 0 []", "9-8/9 by 8 to 0 []")
}

// P12: the lines of a journal are not Valid, so none of them ends; an empty table has none.
func TestExpireNothing(t *testing.T) {
	r := mesh.NewRoutes(5, others(0, 3))
	r.Expire(math.MaxUint64)
	wantTable(t, r, "0-2/0 by 0 to 0 []", "3-2/0 by 0 to 0 []")
	r = mesh.NewRoutes(5, nil)
	r.Expire(math.MaxUint64)
	wantTable(t, r)
}

// plainRoutes does what P9 to P12 say with a list that is gone through each time, so that Routes are held against something that is not of their making.
type plainRoutes struct {
	self  uint32
	lines []api.Route // by rising destinations
}

func newPlainRoutes(self uint32, l []api.Record) *plainRoutes {
	p := &plainRoutes{self: self}
	for _, x := range l {
		if x.Own || x.Addr == self {
			continue
		}
		seq := x.Seq + 1
		if x.Seq == math.MaxUint32 {
			seq = math.MaxUint32
		}
		if line := p.line(x.Addr); line == nil {
			p.add(api.Route{Dest: x.Addr, Seq: seq})
		} else if seq > line.Seq {
			line.Seq = seq
		}
	}
	if len(p.lines) > 8 {
		p.lines = p.lines[:8]
	}
	return p
}

func (p *plainRoutes) add(x api.Route) {
	p.lines = append(p.lines, x)
	slices.SortFunc(p.lines, func(a, b api.Route) int { return int(int64(a.Dest) - int64(b.Dest)) })
}

func (p *plainRoutes) line(dest uint32) *api.Route {
	for i := range p.lines {
		if p.lines[i].Dest == dest {
			return &p.lines[i]
		}
	}
	return nil
}

func (p *plainRoutes) Update(x api.Route) api.Errno {
	line := p.line(x.Dest)
	switch {
	case x.Dest == 0 || x.Dest == p.self:
		return api.ErrOwn
	case line == nil && len(p.lines) == 8:
		return api.ErrFull
	case line == nil:
		p.add(x)
		return api.OK
	}
	have, new := int64(line.Seq), int64(x.Seq)
	if !line.Valid {
		have--
	}
	if new < have || new == have && x.Hops >= line.Hops {
		return api.ErrOld
	}
	*line = x
	return api.OK
}

func (p *plainRoutes) Find(dest uint32, now uint64) (api.Route, bool) {
	if line := p.line(dest); line != nil && line.Valid && line.Expires > now {
		return *line, true
	}
	return api.Route{}, false
}

func (p *plainRoutes) Use(dest uint32, expires uint64) {
	if line := p.line(dest); line != nil && line.Valid && expires > line.Expires {
		line.Expires = expires
	}
}

func (p *plainRoutes) Before(dest, neighbour uint32) {
	line := p.line(dest)
	if line == nil || !line.Valid || len(line.Before) == 4 || slices.Contains(line.Before, neighbour) {
		return
	}
	line.Before = append(line.Before, neighbour)
	slices.Sort(line.Before)
}

// end ends the Valid lines of which that is so: those that others used.
func (p *plainRoutes) end(told uint32, which func(api.Route) bool) (ended int, lost []api.Lost) {
	for i, x := range p.lines {
		if !x.Valid || !which(x) {
			continue
		}
		ended++
		seq := x.Seq
		if seq < math.MaxUint32 {
			seq++
		}
		if told > seq {
			seq = told
		}
		p.lines[i] = api.Route{Dest: x.Dest, Seq: seq, Hops: x.Hops, Next: x.Next}
		if len(x.Before) > 0 {
			lost = append(lost, api.Lost{Dest: x.Dest, Seq: seq})
		}
	}
	return ended, lost
}

// routesCall has both tables do one call, of the numbers that the bytes stand for.
func routesCall(t *testing.T, r *mesh.Routes, p *plainRoutes, b []byte) {
	t.Helper()
	// A byte stands for the least or, from 128 on, for the greatest numbers.
	small, wide := func(i int) uint32 { return uint32(int8(b[i])) }, func(i int) uint64 { return uint64(int8(b[i])) }
	dest := small(1)
	switch b[0] % 9 {
	case 0, 1, 2:
		x := api.Route{Dest: dest, Seq: small(2), Hops: int(int8(b[3])), Next: small(4) % 4, Valid: true, Expires: wide(5)}
		wantUpdate(t, r, x, p.Update(x))
	case 3:
		if x, ok := p.Find(dest, wide(5)); ok {
			wantFind(t, r, dest, wide(5), lineText(x))
		} else {
			wantNotFound(t, r, dest, wide(5))
		}
	case 4:
		r.Use(dest, wide(5))
		p.Use(dest, wide(5))
	case 5, 6:
		r.Before(dest, small(4))
		p.Before(dest, small(4))
	case 7:
		if b[3]%4 == 0 {
			r.Expire(wide(5))
			p.end(0, func(x api.Route) bool { return x.Expires <= wide(5) })
			return
		}
		ended, _ := p.end(small(2), func(x api.Route) bool { return x.Dest == dest && x.Next == small(4)%4 })
		wantLose(t, r, small(4)%4, api.Lost{Dest: dest, Seq: small(2)}, ended == 1)
	case 8:
		_, lost := p.end(0, func(x api.Route) bool { return x.Next == small(4)%4 })
		wantBroken(t, r, small(4)%4, lost...)
	}
}

// routesRun has both tables begin with records and do calls, six bytes each.
func routesRun(t *testing.T, self uint8, journal, calls []byte) {
	t.Helper()
	var l []api.Record
	for ; len(journal) >= 3; journal = journal[3:] {
		l = append(l, api.Record{Own: journal[0]%4 == 0, Addr: uint32(int8(journal[1])), Seq: uint32(int8(journal[2]))})
	}
	r, p := mesh.NewRoutes(uint32(self), l), newPlainRoutes(uint32(self), l)
	for {
		var want []string
		for _, x := range p.lines {
			want = append(want, lineText(x))
		}
		wantTable(t, r, want...)
		if t.Failed() || len(calls) < 6 {
			return
		}
		routesCall(t, r, p, calls[:6])
		calls = calls[6:]
	}
}

// P9 to P12: many calls, one behind the other.
func TestRoutesMany(t *testing.T) {
	random := rand.New(rand.NewSource(6))
	for range 400 {
		journal, calls := make([]byte, 3*random.Intn(14)), make([]byte, 6*100)
		for _, b := range [][]byte{journal, calls} {
			for i := range b {
				// Few numbers, so that calls meet; near 0 on both sides, so that the greatest are among them.
				b[i] = byte(random.Intn(14) - 3)
			}
		}
		for i := 0; i < len(calls); i += 6 {
			calls[i] = byte(random.Intn(9))
		}
		routesRun(t, uint8(random.Intn(6)), journal, calls)
	}
}

// P1, P9 to P12: any calls at all. (go test -fuzz FuzzRoutes ./mesh)
func FuzzRoutes(f *testing.F) {
	f.Add(uint8(5), []byte{1, 2, 3, 0, 4, 4, 1, 5, 5, 1, 2, 255}, []byte{0, 2, 4, 3, 1, 100, 5, 2, 0, 0, 3, 0, 8, 0, 0, 0, 1, 0, 0, 2, 4, 2, 2, 200})
	f.Add(uint8(0), []byte{1, 0, 0}, []byte{0, 0, 1, 1, 1, 1, 1, 7, 254, 1, 2, 9, 7, 7, 255, 1, 2, 0, 7, 0, 0, 0, 0, 255})
	f.Fuzz(routesRun)
}
