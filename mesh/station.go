package mesh

import "mesh/api"

// station is a node's place in a mesh: what is there where the node does not run, too.
type station struct {
	address uint32
	journal []byte
	node    *Node              // nil while it does not run
	hears   [api.MaxNodes]bool // by the numbers of the others
	tears   bool               // what is written next is torn
	whole   int                // how many bytes of that are written
}

// boot has the node begin, out of its journal (P26). No address is 0, so nothing refuses it.
func (s *station) boot(now uint64) api.Out {
	node, out, _ := NewNode(s.address, s.journal, now)
	s.node = node
	return out
}

// stop has the node stop, by a Crash or as it is torn (P26). All but the journal is forgotten.
func (s *station) stop() {
	s.node, s.tears, s.whole = nil, false, 0
}

// tear has what is written next be torn behind some bytes (P26).
func (s *station) tear(whole int) {
	s.tears, s.whole = true, max(0, whole)
}

// write writes the journal. If that is torn, the node stops, and the answer is false.
func (s *station) write(out api.Out) bool {
	if out.Journal == "" && !out.Replace {
		return true
	}
	if s.tears {
		s.writeTorn(out)
		s.stop()
		return false
	}
	if out.Replace {
		s.journal = nil
	}
	s.journal = append(s.journal, out.Journal...)
	return true
}

// writeTorn writes the first bytes alone. A new journal takes the place of the old one as a whole or not at all, so a torn one does not.
func (s *station) writeTorn(out api.Out) {
	if !out.Replace {
		s.journal = append(s.journal, out.Journal[:min(s.whole, len(out.Journal))]...)
	}
}
