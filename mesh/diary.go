package mesh

import "mesh/api"

// diary is what a node has written into its journal since it began.
type diary struct {
	own     uint32
	others  map[uint32]uint32 // the greatest number, by destination
	records int               // that stand in the journal
}

func newDiary() diary {
	return diary{others: map[uint32]uint32{}}
}

// news is records of the numbers that are greater than all that was written of them; they count as written from now on.
func (d *diary) news(own uint32, lines []api.Route) []api.Record {
	var l []api.Record
	if own > d.own {
		d.own = own
		l = append(l, api.Record{Own: true, Seq: own})
	}
	for _, x := range lines {
		if seq, there := d.others[x.Dest]; !there || x.Seq > seq {
			d.others[x.Dest] = x.Seq
			l = append(l, api.Record{Addr: x.Dest, Seq: x.Seq})
		}
	}
	d.records += len(l)
	return l
}

// compact is the records of a journal that takes the place of all that was written.
func (d *diary) compact() []api.Record {
	l := []api.Record{{Own: true, Seq: d.own}}
	for dest, seq := range d.others {
		l = append(l, api.Record{Addr: dest, Seq: seq})
	}
	l = Compact(l)
	d.records = len(l)
	return l
}

// journalText is the bytes of records.
func journalText(l []api.Record) string {
	var b []byte
	for _, r := range l {
		b = append(b, WriteRecord(r)...)
	}
	return string(b)
}

// greatestOwn is the greatest one of one's own numbers, 0 without any.
func greatestOwn(l []api.Record) uint32 {
	seq := uint32(0)
	for _, r := range l {
		if r.Own {
			seq = max(seq, r.Seq)
		}
	}
	return seq
}
