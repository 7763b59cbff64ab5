package mesh

import (
	"slices"

	"mesh/api"
)

// paceSpan is for how long a request counts.
const paceSpan = 1000

// pace is when one's own requests went out: the greatest times, rising, no more of them than may count. The others need not be kept, even where the time goes back: if one of them counts, all of these do.
type pace struct {
	times []uint64
}

// full tells whether as many requests went out as may.
func (p *pace) full(now uint64) bool {
	return len(p.times) == api.MaxRate && (now < paceSpan || p.times[0] > now-paceSpan)
}

// add counts a request, where it is not full.
func (p *pace) add(now uint64) {
	if len(p.times) == api.MaxRate {
		p.times[0] = now
	} else {
		p.times = append(p.times, now)
	}
	slices.Sort(p.times)
}
