package mesh

import "mesh/api"

// hearer is what a node does with a packet of a kind, from a neighbour.
type hearer func(n *Node, a *act, from uint32, p api.Packet)

// hearers is the table of them, by kind.
func hearers() [api.Data + 1]hearer {
	return [...]hearer{
		api.Request: (*Node).hearRequest,
		api.Reply:   (*Node).hearReply,
		api.Lose:    (*Node).hearLose,
		api.Data:    (*Node).hearData,
	}
}

// hear does what a frame asks for (P14).
func (n *Node) hear(a *act, from uint32, frame []byte) {
	p, err := Decode(frame)
	switch {
	case err != api.OK || from == 0 || from == n.self:
		a.drop(api.BadFrame)
	case a.now < n.silentUntil:
		n.hearSilent(a, from, p)
	default:
		// Decode gives no kind but those of the table.
		hearers()[p.Kind](n, a, from, p)
	}
}

// hearSilent has who sends data by this node learn that there is no route, so that none goes by it when its silence ends (P14).
func (n *Node) hearSilent(a *act, from uint32, p api.Packet) {
	a.drop(api.Silent)
	if p.Kind == api.Data && p.Dest != n.self {
		n.loseOne(a, from, p.Dest)
		n.silentUntil = a.now + api.Quiet
	}
}

// hearRequest answers a request, or tells it on (P15).
func (n *Node) hearRequest(a *act, from uint32, p api.Packet) {
	q := question{from: p.From, id: p.ID}
	if p.From == n.self || n.seen.has(q, a.now) {
		a.drop(api.Again)
		return
	}
	n.seen.add(q, a.now+api.Seen)
	switch n.routes.Update(p.From, p.FromSeq, farther(p.Hops), from, a.now+api.Active) {
	case api.ErrFull:
		a.drop(api.NoRoom)
		return
	case api.ErrOld:
		n.routes.Use(p.From, a.now+api.Active)
	}
	route, found := n.routes.Find(p.Dest, a.now)
	switch {
	case p.Dest == n.self:
		n.answerForSelf(a, p)
	case found && (p.Unknown || route.Seq >= p.DestSeq):
		n.answerForOther(a, p, route)
	case p.TTL == 1:
		a.drop(api.NoTTL)
	default:
		n.askOn(a, p)
	}
}

func (n *Node) answerForSelf(a *act, p api.Packet) {
	// DestSeq is 0 if Unknown, so it raises nothing then.
	n.seq = max(n.seq, p.DestSeq)
	n.answer(a, api.Packet{Dest: n.self, DestSeq: n.seq, From: p.From, Life: api.Own})
}

func (n *Node) answerForOther(a *act, p api.Packet, route api.Route) {
	if back, found := n.routes.Find(p.From, a.now); found {
		n.routes.Before(p.Dest, back.Next)
	}
	n.routes.Before(p.From, route.Next)
	// Only where the time went back can Life be too great for its four bytes; it wraps round then.
	n.answer(a, api.Packet{Hops: route.Hops, Dest: p.Dest, DestSeq: route.Seq, From: p.From, Life: uint32(route.Expires - a.now)})
}

// answer sends a reply to who asked.
func (n *Node) answer(a *act, p api.Packet) {
	back, found := n.routes.Find(p.From, a.now)
	if !found {
		a.drop(api.NoRoute)
		return
	}
	p.TTL, p.Kind = api.Diameter, api.Reply
	a.send(back.Next, p)
}

// askOn tells a request on, with the greatest number that is known of its destination: an older route must not answer it.
func (n *Node) askOn(a *act, p api.Packet) {
	if seq, there := n.routes.number(p.Dest); there {
		p.DestSeq, p.Unknown = max(p.DestSeq, seq), false
	}
	p.TTL--
	p.Hops = farther(p.Hops)
	a.send(toAll, p)
}

// hearReply learns of a route, and tells it on to who asked (P16).
func (n *Node) hearReply(a *act, from uint32, p api.Packet) {
	if p.Dest == n.self {
		a.drop(api.Again)
		return
	}
	err := n.routes.Update(p.Dest, p.DestSeq, farther(p.Hops), from, a.now+uint64(p.Life))
	switch {
	case err == api.ErrFull:
		a.drop(api.NoRoom)
	case p.From == n.self:
		n.sendWaiting(a, p.Dest)
		if err == api.ErrOld {
			a.drop(api.Stale)
		}
	case p.TTL == 1:
		a.drop(api.NoTTL)
	default:
		n.replyOn(a, from, p)
	}
}

func (n *Node) replyOn(a *act, from uint32, p api.Packet) {
	back, found := n.routes.Find(p.From, a.now)
	if !found {
		a.drop(api.NoRoute)
		return
	}
	p.TTL--
	p.Hops = farther(p.Hops)
	a.send(back.Next, p)
	n.routes.Before(p.Dest, back.Next)
	n.routes.Before(p.From, from)
	n.routes.Use(p.From, a.now+api.Active)
}

// hearLose ends the routes that a neighbour has lost, and tells on what others use (P17).
func (n *Node) hearLose(a *act, from uint32, p api.Packet) {
	ended := false
	var told []api.Lost
	for _, l := range p.Lost {
		// Whether others use it has to be asked first: the end forgets them.
		used := n.routes.used(l.Dest)
		if !n.routes.Lose(from, l) {
			continue
		}
		ended = true
		if used {
			told = append(told, n.lost(l.Dest))
		}
	}
	if !ended {
		a.drop(api.Stale)
	}
	a.lose(toAll, told...)
}

// hearData has a text come, or sends it on (P18).
func (n *Node) hearData(a *act, from uint32, p api.Packet) {
	route, found := n.routes.Find(p.Dest, a.now)
	switch {
	case p.Dest == n.self:
		a.out.Came = append(a.out.Came, api.Text{From: p.From, Text: p.Payload})
	case p.TTL == 1:
		a.drop(api.NoTTL)
	case found:
		p.TTL--
		a.send(route.Next, p)
		n.routes.Use(p.Dest, a.now+api.Active)
		n.routes.Use(p.From, a.now+api.Active)
	default:
		a.drop(api.NoRoute)
		n.routes.grow(p.Dest)
		n.loseOne(a, from, p.Dest)
	}
}

// loseOne tells a neighbour that there is no route to a destination.
func (n *Node) loseOne(a *act, to, dest uint32) {
	a.lose(to, n.lost(dest))
}

// lost is a destination with the number of its line, 0 without one.
func (n *Node) lost(dest uint32) api.Lost {
	seq, _ := n.routes.number(dest)
	return api.Lost{Dest: dest, Seq: seq}
}

// farther is one hop more, as far as a frame can tell it.
func farther(hops int) int {
	return min(hops+1, maxByte)
}
