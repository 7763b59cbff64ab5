package mesh_test

import (
	"cmp"
	"math"
	"math/rand"
	"reflect"
	"slices"
	"testing"

	"mesh/api"
	"mesh/mesh"
)

// plainSeen is a request that a plainNode remembers.
type plainSeen struct {
	from, id uint32
	until    uint64
}

// plainSearch is a search of a plainNode.
type plainSearch struct {
	dest  uint32
	texts []string
	at    uint64 // its time
	set   int    // when that was set: behind so many others
	step  int    // what is to be done then
}

// plainSteps are the requests of a search, each with its TTL and the time to wait; behind them it ends.
var plainSteps = []struct {
	ttl  int
	wait uint64
}{{1, 240}, {3, 400}, {5, 560}, {8, 800}, {8, 1600}, {8, 3200}}

// plainNode does what P13 to P22 say, with lists that are gone through each time, so that a Node is held against something that is not of its making.
type plainNode struct {
	self, seq uint32
	silent    uint64
	table     *plainRoutes
	seen      []plainSeen  // in the order in which they came
	journal   []api.Record // what stands in it
	searches  []plainSearch
	sets      int      // of the times of searches
	asked     []uint64 // when its own requests went out
	sent      uint32   // data of its own

	now     uint64
	records []api.Record // of this call
	out     api.Out
}

func newPlainNode(self uint32, journal []byte, now uint64) (*plainNode, api.Out) {
	p := &plainNode{self: self, now: now}
	l, _ := mesh.ReadJournal(journal)
	for _, r := range l {
		if r.Own && r.Seq > p.seq {
			p.seq = r.Seq
		}
	}
	if p.seq < math.MaxUint32 {
		p.seq++
	}
	p.table = newPlainRoutes(self, l)
	if len(journal) > 0 {
		p.silent = now + 2000
	}
	out := p.end()
	out.Replace = len(journal) > 0
	return p, out
}

func (p *plainNode) begin(now uint64) {
	p.now, p.records, p.out = now, nil, api.Out{}
	p.table.end(0, func(x api.Route) bool { return x.Expires <= now })
	p.write()
}

func (p *plainNode) end() api.Out {
	p.write()
	if len(p.journal) > 24 {
		p.journal = mesh.Compact(p.journal)
		p.records, p.out.Replace = p.journal, true
	}
	p.out.Journal = string(written(p.records...))
	return p.out
}

func (p *plainNode) write() {
	want := []api.Record{{Own: true, Seq: p.seq}}
	for _, x := range p.table.lines {
		want = append(want, api.Record{Addr: x.Dest, Seq: x.Seq})
	}
	for _, r := range want {
		if !slices.ContainsFunc(p.journal, func(x api.Record) bool { return x.Own == r.Own && x.Addr == r.Addr && x.Seq >= r.Seq }) {
			p.journal, p.records = append(p.journal, r), append(p.records, r)
		}
	}
}

func (p *plainNode) drop(r api.Reason) { p.out.Dropped = append(p.out.Dropped, r) }

func (p *plainNode) send(to uint32, x api.Packet) {
	b, _ := mesh.Encode(x)
	p.out.Frames = append(p.out.Frames, api.Frame{To: to, Bytes: string(b)})
}

func (p *plainNode) seqOf(dest uint32) uint32 {
	if line := p.table.line(dest); line != nil {
		return line.Seq
	}
	return 0
}

func (p *plainNode) Broken(now uint64, next uint32) api.Out {
	p.begin(now)
	if _, lost := p.table.end(0, func(x api.Route) bool { return x.Next == next }); len(lost) > 0 {
		p.send(0, lose(lost...))
	}
	return p.end()
}

func (p *plainNode) Receive(now uint64, from uint32, frame []byte) api.Out {
	p.begin(now)
	x, err := mesh.Decode(frame)
	if err != api.OK || from == 0 || from == p.self {
		p.drop(api.BadFrame)
		return p.end()
	}
	if now < p.silent {
		if x.Kind == api.Data && x.Dest != p.self {
			p.send(from, lose(api.Lost{Dest: x.Dest, Seq: p.seqOf(x.Dest)}))
			p.silent = now + 2000
		}
		p.drop(api.Silent)
		return p.end()
	}
	switch x.Kind {
	case api.Request:
		p.request(from, x)
	case api.Reply:
		p.reply(from, x)
	case api.Lose:
		p.lose(from, x)
	case api.Data:
		p.data(from, x)
	}
	return p.end()
}

func (p *plainNode) remembered(x api.Packet) bool {
	for _, s := range p.seen {
		if s.from == x.From && s.id == x.ID && p.now < s.until {
			return true
		}
	}
	return false
}

func (p *plainNode) remember(x api.Packet) {
	p.seen = slices.DeleteFunc(p.seen, func(s plainSeen) bool { return s.from == x.From && s.id == x.ID })
	p.seen = append(p.seen, plainSeen{x.From, x.ID, p.now + 1280})
	if len(p.seen) > 16 {
		first := 0
		for i := range p.seen {
			if p.seen[i].until < p.seen[first].until {
				first = i
			}
		}
		p.seen = slices.Delete(p.seen, first, first+1)
	}
}

func (p *plainNode) request(from uint32, x api.Packet) {
	if x.From == p.self || p.remembered(x) {
		p.drop(api.Again)
		return
	}
	p.remember(x)
	hops := min(x.Hops+1, 255)
	switch p.table.Update(api.Route{Dest: x.From, Seq: x.FromSeq, Hops: hops, Next: from, Valid: true, Expires: p.now + 3000}) {
	case api.ErrFull:
		p.drop(api.NoRoom)
		return
	case api.ErrOld:
		p.table.Use(x.From, p.now+3000)
	}
	back, way := p.table.Find(x.From, p.now)
	to, found := p.table.Find(x.Dest, p.now)
	var answer api.Packet
	if x.Dest == p.self {
		if !x.Unknown && x.DestSeq > p.seq {
			p.seq = x.DestSeq
		}
		answer = reply(8, 0, p.self, p.seq, x.From, 6000)
	} else if found && (x.Unknown || to.Seq >= x.DestSeq) {
		answer = reply(8, to.Hops, x.Dest, to.Seq, x.From, uint32(to.Expires-p.now))
		if way {
			p.table.Before(x.Dest, back.Next)
		}
		p.table.Before(x.From, to.Next)
	} else if x.TTL == 1 {
		p.drop(api.NoTTL)
		return
	} else {
		x.TTL, x.Hops = x.TTL-1, hops
		if line := p.table.line(x.Dest); line != nil {
			if x.Unknown || line.Seq > x.DestSeq {
				x.DestSeq = line.Seq
			}
			x.Unknown = false
		}
		p.send(0, x)
		return
	}
	if !way {
		p.drop(api.NoRoute)
		return
	}
	p.send(back.Next, answer)
}

func (p *plainNode) reply(from uint32, x api.Packet) {
	if x.Dest == p.self {
		p.drop(api.Again)
		return
	}
	hops := min(x.Hops+1, 255)
	err := p.table.Update(api.Route{Dest: x.Dest, Seq: x.DestSeq, Hops: hops, Next: from, Valid: true, Expires: p.now + uint64(x.Life)})
	back, way := p.table.Find(x.From, p.now)
	switch {
	case err == api.ErrFull:
		p.drop(api.NoRoom)
	case x.From == p.self:
		if i := p.search(x.Dest); i >= 0 {
			p.release(i)
		}
		if err == api.ErrOld {
			p.drop(api.Stale)
		}
	case x.TTL == 1:
		p.drop(api.NoTTL)
	case !way:
		p.drop(api.NoRoute)
	default:
		p.send(back.Next, reply(x.TTL-1, hops, x.Dest, x.DestSeq, x.From, x.Life))
		p.table.Before(x.Dest, back.Next)
		p.table.Before(x.From, from)
		p.table.Use(x.From, p.now+3000)
	}
}

func (p *plainNode) lose(from uint32, x api.Packet) {
	ended := 0
	var told []api.Lost
	for _, l := range x.Lost {
		n, used := p.table.end(l.Seq, func(x api.Route) bool { return x.Dest == l.Dest && x.Next == from })
		ended += n
		told = append(told, used...)
	}
	if len(told) > 0 {
		p.send(0, lose(told...))
	}
	if ended == 0 {
		p.drop(api.Stale)
	}
}

func (p *plainNode) data(from uint32, x api.Packet) {
	to, found := p.table.Find(x.Dest, p.now)
	switch {
	case x.Dest == p.self:
		p.out.Came = append(p.out.Came, api.Text{From: x.From, Text: x.Payload})
	case x.TTL == 1:
		p.drop(api.NoTTL)
	case found:
		p.send(to.Next, data(x.TTL-1, x.ID, x.From, x.Dest, x.Payload))
		p.table.Use(x.Dest, p.now+3000)
		p.table.Use(x.From, p.now+3000)
	default:
		p.drop(api.NoRoute)
		if line := p.table.line(x.Dest); line != nil && line.Seq < math.MaxUint32 {
			line.Seq++
		}
		p.send(from, lose(api.Lost{Dest: x.Dest, Seq: p.seqOf(x.Dest)}))
	}
}

func (p *plainNode) search(dest uint32) int {
	return slices.IndexFunc(p.searches, func(s plainSearch) bool { return s.dest == dest })
}

// carry sends a text of its own, if there is a route.
func (p *plainNode) carry(dest uint32, text string) bool {
	to, found := p.table.Find(dest, p.now)
	if found {
		p.sent++
		p.send(to.Next, data(8, p.sent, p.self, dest, text))
		p.table.Use(dest, p.now+3000)
	}
	return found
}

// release sends what waits for the destination of search i, if there is a route; the search ends then.
func (p *plainNode) release(i int) bool {
	s := p.searches[i]
	if !p.carry(s.dest, s.texts[0]) {
		return false
	}
	for _, text := range s.texts[1:] {
		p.carry(s.dest, text)
	}
	p.searches = slices.Delete(p.searches, i, i+1)
	return true
}

func (p *plainNode) Send(now uint64, dest uint32, text string) (api.Out, api.Errno) {
	if len(text) > 16 {
		return api.Out{}, api.ErrLong
	}
	if dest == p.self || dest == 0 {
		return api.Out{}, api.ErrOwn
	}
	p.begin(now)
	if p.carry(dest, text) {
		return p.end(), api.OK
	}
	i := p.search(dest)
	if i < 0 {
		p.searches = append(p.searches, plainSearch{dest: dest, texts: []string{text}})
		p.ask(len(p.searches) - 1)
		return p.end(), api.OK
	}
	s := &p.searches[i]
	s.texts = append(s.texts, text)
	if len(s.texts) > 4 {
		s.texts = s.texts[1:]
		p.drop(api.Overflow)
	}
	return p.end(), api.OK
}

// ask does the step of search i.
func (p *plainNode) ask(i int) {
	s := &p.searches[i]
	p.sets++
	s.set = p.sets
	many := 0
	for _, at := range p.asked {
		if p.now < 1000 || at > p.now-1000 {
			many++
		}
	}
	s.at = p.now + 1000
	if many >= 5 {
		p.drop(api.TooMany)
		return
	}
	if p.now < p.silent {
		p.drop(api.Silent)
		return
	}
	if p.seq < math.MaxUint32 {
		p.seq++
	}
	p.write()
	p.asked = append(p.asked, p.now)
	x := request(plainSteps[s.step].ttl, 0, uint32(len(p.asked)), s.dest, unknown, p.self, p.seq)
	if line := p.table.line(s.dest); line != nil {
		x.Unknown, x.DestSeq = false, line.Seq
	}
	p.remember(x)
	p.send(0, x)
	s.at = p.now + plainSteps[s.step].wait
	s.step++
}

func (p *plainNode) Tick(now uint64) api.Out {
	p.begin(now)
	var due []plainSearch
	for _, s := range p.searches {
		if s.at <= now {
			due = append(due, s)
		}
	}
	slices.SortFunc(due, func(a, b plainSearch) int {
		return cmp.Or(cmp.Compare(a.at, b.at), cmp.Compare(a.set, b.set))
	})
	for _, s := range due {
		i := p.search(s.dest)
		switch {
		case p.release(i):
		case s.step < len(plainSteps):
			p.ask(i)
		default:
			for range s.texts {
				p.drop(api.NotFound)
			}
			p.searches = slices.Delete(p.searches, i, i+1)
		}
	}
	return p.end()
}

// bothNodes are a Node and a plainNode, with the journal that one keeps who does what they say.
type bothNodes struct {
	self    uint32
	now     uint64
	node    *mesh.Node
	plain   *plainNode
	journal []byte
}

func (b *bothNodes) boot(t *testing.T) {
	t.Helper()
	node, out, err := mesh.NewNode(b.self, b.journal, b.now)
	if err != api.OK {
		t.Fatalf("NewNode(%d): %d", b.self, err)
	}
	plain, want := newPlainNode(b.self, b.journal, b.now)
	b.node, b.plain = node, plain
	b.keep(t, out, want)
}

// keep holds what both do and have against each other.
func (b *bothNodes) keep(t *testing.T, out, want api.Out) {
	t.Helper()
	if !reflect.DeepEqual(out, want) {
		t.Fatalf("at %d: %s, want %s\n%#v, want\n%#v", b.now, outText(out), outText(want), out, want)
	}
	if out.Replace {
		b.journal = nil
	}
	b.journal = append(b.journal, out.Journal...)
	if len(b.journal) > 24*13 {
		t.Fatalf("a journal of %d bytes", len(b.journal))
	}
	var lines []string
	for _, x := range b.plain.table.lines {
		lines = append(lines, lineText(x))
	}
	wantLines(t, b.node, lines...)
	wantSeq(t, b.node, b.plain.seq)
}

// wantNoLess: no line's rank is less than it was, nor would it be behind a boot (P27; numbers at the greatest one aside).
func (b *bothNodes) wantNoLess(t *testing.T, was []api.Route) {
	t.Helper()
	booted, _, _ := mesh.NewNode(b.self, b.journal, b.now)
	for _, have := range [][]api.Route{b.node.Routes(), booted.Routes()} {
		for _, x := range was {
			i := slices.IndexFunc(have, func(y api.Route) bool { return y.Dest == x.Dest })
			if i < 0 {
				t.Fatalf("no line of %d any more: %v", x.Dest, have)
			}
			before, then := rankPair(x), rankPair(have[i])
			if x.Seq < math.MaxUint32 && (then[0] < before[0] || then[0] == before[0] && then[1] > before[1]) {
				t.Fatalf("the rank of %s became that of %s", lineText(x), lineText(have[i]))
			}
		}
		was = b.node.Routes()
	}
}

// rankPair is THE RANK of a line: its number, less 1 if it is not Valid, and its hops.
func rankPair(x api.Route) [2]int64 {
	if x.Valid {
		return [2]int64{int64(x.Seq), int64(x.Hops)}
	}
	return [2]int64{int64(x.Seq) - 1, int64(x.Hops)}
}

// packetOf is the packet that bytes stand for; some are none.
func packetOf(b []byte) api.Packet {
	// A byte stands for the least or, from 128 on, for the greatest numbers.
	n := func(i int) uint32 { return uint32(int8(b[i])) }
	ttl, hops := int(b[1]%10), int(b[2])
	switch b[0] % 4 {
	case 0:
		if b[3]%2 == 0 {
			return request(ttl, hops, n(4), n(5), unknown, n(6), n(7))
		}
		return request(ttl, hops, n(4), n(5), int64(n(3)), n(6), n(7))
	case 1:
		return reply(ttl, hops, n(5), n(7), n(6), uint32(int8(b[4]))*1000)
	case 2:
		return lose([]api.Lost{{Dest: n(2), Seq: n(3)}, {Dest: n(4), Seq: n(5)}, {Dest: n(6), Seq: n(7)}, {Dest: n(1), Seq: n(2)}}[:1+b[1]%4]...)
	}
	return data(ttl, n(4), n(6), n(5), "text"[:b[7]%5])
}

// call has both nodes do one call, of the numbers that the bytes stand for.
func (b *bothNodes) call(t *testing.T, c []byte) {
	t.Helper()
	b.now += []uint64{0, 0, 0, 1, 1, 40, 240, 300, 800, 999, 1280, 2000, 3000, 6000}[c[1]%14]
	from := uint32(int8(c[2]))
	was := b.node.Routes()
	switch {
	case c[0] < 120:
		frame, _ := mesh.Encode(packetOf(c[3:])) // of what is no packet: no bytes
		b.keep(t, b.node.Receive(b.now, from, frame), b.plain.Receive(b.now, from, frame))
	case c[0] < 160:
		text := "up to twenty letters"[:(c[3]^c[4])%20]
		out, err := b.node.Send(b.now, from, text)
		want, wantErr := b.plain.Send(b.now, from, text)
		if err != wantErr {
			t.Fatalf("Send(%d, %d, %q): %d, want %d", b.now, from, text, err, wantErr)
		}
		b.keep(t, out, want)
	case c[0] < 210:
		b.keep(t, b.node.Tick(b.now), b.plain.Tick(b.now))
	case c[0] < 235:
		b.keep(t, b.node.Broken(b.now, from), b.plain.Broken(b.now, from))
	case c[0] < 245:
		b.keep(t, b.node.Receive(b.now, from, c), b.plain.Receive(b.now, from, c))
	case c[0] < 248:
		b.journal = b.journal[:max(0, len(b.journal)-int(c[3]%4)/3)] // torn, now and then
		b.boot(t)
		return
	default:
		b.now = uint64(int8(c[3])) // anywhere, back too
		b.keep(t, b.node.Tick(b.now), b.plain.Tick(b.now))
	}
	b.wantNoLess(t, was)
}

// nodesRun has both nodes begin with a journal and do calls, eleven bytes each.
func nodesRun(t *testing.T, self uint8, journal, calls []byte) {
	t.Helper()
	b := &bothNodes{self: max(1, uint32(self)), journal: slices.Clone(journal)}
	b.boot(t)
	for ; len(calls) >= 11 && !t.Failed(); calls = calls[11:] {
		b.call(t, calls[:11])
	}
}

// P13 to P22: many calls, one behind the other.
func TestNodesMany(t *testing.T) {
	random := rand.New(rand.NewSource(7))
	for range 400 {
		calls := make([]byte, 11*200)
		few := 4 + random.Intn(9) // numbers, so that calls meet
		for i := range calls {
			switch i % 11 {
			case 0:
				calls[i] = byte(random.Intn(249))
			case 1:
				calls[i] = byte(random.Intn(7 + random.Intn(8)))
			case 4:
				calls[i] = byte(1 + random.Intn(9))
			default:
				calls[i] = byte(random.Intn(few))
			}
			if random.Intn(400) == 0 {
				calls[i] = byte(random.Intn(256))
			}
		}
		var journal []byte
		for range random.Intn(3) * random.Intn(8) {
			journal = append(journal, mesh.WriteRecord(api.Record{Own: random.Intn(4) == 0, Addr: uint32(random.Intn(12)), Seq: uint32(random.Intn(5))})...)
		}
		nodesRun(t, uint8(random.Intn(4)), journal, calls)
		if t.Failed() {
			return
		}
	}
}

// P1, P13 to P22: any journal and any calls at all. (go test -fuzz FuzzNodes ./mesh)
func FuzzNodes(f *testing.F) {
	f.Add(uint8(5), []byte{}, slices.Concat(
		[]byte{0, 0, 7, 0, 3, 1, 0, 1, 8, 3, 9}, // a request of 3 for 8
		[]byte{0, 0, 2, 1, 8, 3, 6, 8, 3, 4, 0}, // its reply
		[]byte{0, 0, 7, 3, 8, 0, 0, 1, 8, 3, 2}, // data of 3 for 8
		[]byte{210, 3, 2, 0, 0, 0, 0, 0, 0, 0, 0},
	))
	f.Add(uint8(5), []byte{}, slices.Concat(
		[]byte{120, 0, 9, 3, 0, 0, 0, 0, 0, 0, 0},
		[]byte{160, 6, 0, 0, 0, 0, 0, 0, 0, 0, 0},
		[]byte{0, 5, 2, 1, 8, 3, 6, 9, 5, 4, 0}, // a reply for 5
		[]byte{120, 0, 9, 5, 0, 0, 0, 0, 0, 0, 0},
		[]byte{160, 13, 0, 0, 0, 0, 0, 0, 0, 0, 0},
	))
	f.Add(uint8(5), []byte("no record"), slices.Concat(
		[]byte{0, 2, 7, 3, 3, 0, 0, 1, 8, 3, 9},
		[]byte{120, 2, 9, 3, 0, 0, 0, 0, 0, 0, 0},
		[]byte{160, 9, 0, 0, 0, 0, 0, 0, 0, 0, 0},
		[]byte{246, 1, 1, 3, 0, 0, 0, 0, 0, 0, 0},
		[]byte{255, 255, 255, 255, 255, 255, 255, 255, 255, 255, 255},
		[]byte{120, 0, 9, 3, 0, 0, 0, 0, 0, 0, 0},
		[]byte{160, 0, 0, 0, 0, 0, 0, 0, 0, 0, 0},
	))
	f.Add(uint8(1), written(api.Record{Own: true, Seq: 1<<32 - 1}, api.Record{Addr: 2, Seq: 1<<32 - 1}), slices.Concat(
		[]byte{0, 11, 7, 0, 3, 1, 1, 1, 1, 2, 255},
		[]byte{0, 0, 7, 2, 0, 7, 2, 255, 0, 0, 0},
		[]byte{120, 0, 2, 3, 0, 0, 0, 0, 0, 0, 0},
		[]byte{250, 0, 0, 200, 0, 0, 0, 0, 0, 0, 0},
	))
	f.Fuzz(nodesRun)
}
