package mesh

import (
	"slices"

	"mesh/api"
)

// launch has a frame be under way, as the last one; of too many the first one is lost (P24).
func (m *Mesh) launch(f api.Flight) {
	m.air = append(m.air, f)
	if len(m.air) > api.MaxAir {
		m.land(0)
	}
}

// land has a frame be under way no more.
func (m *Mesh) land(i int) api.Flight {
	f := m.air[i]
	m.air = slices.Delete(m.air, i, i+1)
	return f
}

// doFlight does a step that means a frame under way (P24, P25).
func (m *Mesh) doFlight(op api.Op) []api.Event {
	if op.A < 0 || len(m.air) == 0 {
		return nil
	}
	i := op.A % len(m.air)
	switch op.Do {
	case api.Deliver:
		f := m.land(i)
		return m.hear(f.To, f.From, f.Bytes)
	case api.Drop:
		m.land(i)
	case api.Twice:
		m.launch(m.air[i])
	case api.Cut:
		m.cut(i, op.N)
	}
	return nil
}

// cut has a frame lose its last n bytes, all of them at most; none, if n is below 0 (P25).
func (m *Mesh) cut(i, n int) {
	f := &m.air[i]
	f.Bytes = f.Bytes[:len(f.Bytes)-min(max(0, n), len(f.Bytes))]
}
