package mesh

import (
	"slices"
	"strings"

	"mesh/api"
)

// holdBack is the time until a request that may not go out is tried again.
const holdBack = 1000

// step is what a search does when its time has come and no route is there.
type step func(n *Node, a *act)

// search is for a route to a destination (P21).
type search struct {
	dest    uint32
	texts   []string // that wait for the route, in their order
	ttl     int      // of the request that is out, or is to go out
	retries int      // behind the first request with the greatest TTL
	timer   int      // the id of its timer
	due     step
}

// await has a text wait for a route, and a search for that begin, if none goes on (P20).
func (n *Node) await(a *act, dest uint32, text string) {
	s, goesOn := n.searches[dest]
	if !goesOn {
		s = &search{dest: dest, ttl: api.FirstTTL}
		n.searches[dest] = s
	}
	s.hold(a, text)
	if !goesOn {
		s.ask(n, a)
	}
}

// hold has a text wait, in the place of the first one, if there are too many.
func (s *search) hold(a *act, text string) {
	if len(s.texts) == api.MaxWaiting {
		s.texts = slices.Delete(s.texts, 0, 1)
		a.drop(api.Overflow)
	}
	// The text may be a piece of a long one, which would be kept with it.
	s.texts = append(s.texts, strings.Clone(text))
}

// ask has the search's request go out, or tries it again later.
func (s *search) ask(n *Node, a *act) {
	if why, held := n.holdsBack(a.now); held {
		a.drop(why)
		s.wait(n, a.now+holdBack, s.ask)
		return
	}
	n.request(a, s.dest, s.ttl)
	s.wait(n, a.now+s.patience(), s.widen)
}

// widen asks farther off, as no one near has answered, or once more, or gives up.
func (s *search) widen(n *Node, a *act) {
	switch wider := s.ttl + api.MoreTTL; {
	case wider <= api.LastTTL:
		s.ttl = wider
	case s.ttl < api.Diameter:
		s.ttl = api.Diameter
	case s.retries < api.Retries:
		s.retries++
	default:
		s.giveUp(n, a)
		return
	}
	s.ask(n, a)
}

func (s *search) giveUp(n *Node, a *act) {
	for range s.texts {
		a.drop(api.NotFound)
	}
	n.endSearch(s)
}

// wait has a step be done at a time, unless a route is there.
func (s *search) wait(n *Node, until uint64, due step) {
	s.timer = n.timers.Add(until, int(s.dest))
	s.due = due
}

// patience is how long an answer to the request is waited for: longer with each retry, as the nodes may have much to do.
func (s *search) patience() uint64 {
	return (2 * api.Traversal * uint64(s.ttl+2)) << s.retries
}

// holdsBack tells whether a request of one's own may not go out now, and why.
func (n *Node) holdsBack(now uint64) (api.Reason, bool) {
	switch {
	case n.pace.full(now):
		return api.TooMany, true
	case now < n.silentUntil:
		return api.Silent, true
	}
	return 0, false
}

// request asks all for a route.
func (n *Node) request(a *act, dest uint32, ttl int) {
	n.seq = grown(n.seq)
	n.lastRequest++
	// What goes out has to be written first: behind a stop no number may be told a second time.
	n.write(a)
	n.pace.add(a.now)
	n.seen.add(question{from: n.self, id: n.lastRequest}, a.now+api.Seen)
	seq, known := n.routes.number(dest)
	a.send(toAll, api.Packet{TTL: ttl, Kind: api.Request, Unknown: !known, ID: n.lastRequest, Dest: dest, DestSeq: seq, From: n.self, FromSeq: n.seq})
}

// sendText sends a text of one's own, if there is a route (P20).
func (n *Node) sendText(a *act, dest uint32, text string) bool {
	route, found := n.routes.Find(dest, a.now)
	if !found {
		return false
	}
	n.lastData++
	a.send(route.Next, api.Packet{TTL: api.Diameter, Kind: api.Data, ID: n.lastData, Dest: dest, From: n.self, Payload: text})
	n.routes.Use(dest, a.now+api.Active)
	return true
}

// sendWaiting sends all that waits for a destination, if there is a route; its search ends then.
func (n *Node) sendWaiting(a *act, dest uint32) bool {
	s, waits := n.searches[dest]
	_, found := n.routes.Find(dest, a.now)
	if !waits || !found {
		return false
	}
	for _, text := range s.texts {
		n.sendText(a, dest, text)
	}
	n.endSearch(s)
	return true
}

func (n *Node) endSearch(s *search) {
	n.timers.Cancel(s.timer)
	delete(n.searches, s.dest)
}

// goOn has all searches go on whose time has come (P22).
func (n *Node) goOn(a *act) {
	for _, s := range n.dueSearches(a.now) {
		if !n.sendWaiting(a, s.dest) {
			s.due(n, a)
		}
	}
}

// dueSearches takes out all whose time has come, in the order of the times. This is done ahead of their steps: near the greatest time the time of the next step wraps round, and would have come at once, again and again.
func (n *Node) dueSearches(now uint64) []*search {
	var l []*search
	for {
		dest, ok := n.timers.Next(now)
		if !ok {
			return l
		}
		l = append(l, n.searches[uint32(dest)])
	}
}
