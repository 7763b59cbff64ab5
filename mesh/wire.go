// Package mesh: routes on demand: see DOC.md.
package mesh

import "mesh/api"

const (
	unknownFlag = 8   // in the third byte of a request: DestSeq is not known
	maxByte     = 255 // of TTL and Hops
)

// Encode writes a packet as a frame (P3).
func Encode(p api.Packet) ([]byte, api.Errno) {
	if !isPacket(p) {
		return nil, api.ErrFrame
	}
	b := []byte{byte(p.TTL), byte(p.Kind), flags(p), 0, byte(count(p))}
	for _, n := range numbers(&p) {
		b = appendNumber(b, *n)
	}
	for _, l := range p.Lost {
		b = appendNumber(appendNumber(b, l.Dest), l.Seq)
	}
	return append(b, p.Payload...), api.OK
}

// Decode reads a frame (P4).
func Decode(b []byte) (p api.Packet, err api.Errno) {
	// The reader gives up by a panic, wherever it is in the frame: so no step of it has to look whether the one ahead of it went well.
	defer func() {
		if recover() != nil {
			p, err = api.Packet{}, api.ErrFrame
		}
	}()
	r := reader{rest: b}
	return r.packet(), api.OK
}

// numbers points at the numbers that a packet of its kind has, as they stand in the frame. Writing and reading both go by this list, so that they cannot differ.
func numbers(p *api.Packet) []*uint32 {
	switch p.Kind {
	case api.Request:
		return []*uint32{&p.ID, &p.Dest, &p.DestSeq, &p.From, &p.FromSeq}
	case api.Reply:
		return []*uint32{&p.Dest, &p.DestSeq, &p.From, &p.Life}
	case api.Data:
		return []*uint32{&p.ID, &p.Dest, &p.From}
	}
	return nil
}

func flags(p api.Packet) byte {
	if p.Unknown {
		return unknownFlag
	}
	return 0
}

// count is what the fifth byte says: by kind the hops, or how much follows the numbers.
func count(p api.Packet) int {
	switch p.Kind {
	case api.Lose:
		return len(p.Lost)
	case api.Data:
		return len(p.Payload)
	}
	return p.Hops
}

// fits tells whether a frame of that kind may have that count; what is no kind may have none.
func fits(k api.Kind, count int) bool {
	switch k {
	case api.Request, api.Reply:
		return count >= 0 && count <= maxByte
	case api.Lose:
		return count >= 1 && count <= api.MaxLost
	case api.Data:
		return count <= api.MaxPayload
	}
	return false
}

// isPacket tells whether there is a frame of p.
func isPacket(p api.Packet) bool {
	if p.TTL < 1 || p.TTL > maxByte || !fits(p.Kind, count(p)) {
		return false
	}
	if p.Unknown && p.DestSeq != 0 {
		return false
	}
	return isBlank(foreign(p))
}

// foreign is p without what its kind has: what is left must be blank.
func foreign(p api.Packet) api.Packet {
	for _, n := range numbers(&p) {
		*n = 0
	}
	switch p.Kind {
	case api.Request:
		p.Hops, p.Unknown = 0, false
	case api.Reply:
		p.Hops = 0
	case api.Lose:
		p.Lost = nil
	case api.Data:
		p.Payload = ""
	}
	return p
}

func isBlank(p api.Packet) bool {
	all := p.ID | p.Dest | p.DestSeq | p.From | p.FromSeq | p.Life
	return all == 0 && p.Hops == 0 && !p.Unknown && len(p.Lost) == 0 && p.Payload == ""
}

// appendNumber adds a number, its highest byte first.
func appendNumber(b []byte, n uint32) []byte {
	return append(b, byte(n>>24), byte(n>>16), byte(n>>8), byte(n))
}

// reader goes through a frame from its beginning; it panics where the frame is broken.
type reader struct {
	rest []byte
}

// require ends the reading, unless the frame is so.
func require(ok bool) {
	if !ok {
		panic(api.ErrFrame)
	}
}

func (r *reader) packet() api.Packet {
	p := api.Packet{TTL: r.one(), Kind: api.Kind(r.one())}
	flag := r.one()
	require(flag == 0 || flag == unknownFlag)
	p.Unknown = flag == unknownFlag
	require(r.one() == 0)
	n := r.one()
	for _, field := range numbers(&p) {
		*field = r.number()
	}
	switch p.Kind {
	case api.Request, api.Reply:
		p.Hops = n
	case api.Lose:
		p.Lost = r.lost(n)
	case api.Data:
		p.Payload = string(r.take(n))
	}
	// The bounds are those of Encode: what it would not write is no frame.
	require(len(r.rest) == 0 && isPacket(p))
	return p
}

func (r *reader) take(n int) []byte {
	require(len(r.rest) >= n)
	b := r.rest[:n]
	r.rest = r.rest[n:]
	return b
}

func (r *reader) one() int {
	return int(r.take(1)[0])
}

func (r *reader) number() uint32 {
	n := uint32(0)
	for _, b := range r.take(4) {
		n = n<<8 | uint32(b)
	}
	return n
}

func (r *reader) lost(n int) []api.Lost {
	l := make([]api.Lost, n)
	for i := range l {
		l[i] = api.Lost{Dest: r.number(), Seq: r.number()}
	}
	return l
}
