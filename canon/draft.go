package canon

import (
	"ratchet/api"
	"ratchet/shape"
)

// draft gives ids to groups that come behind those of a catalog. It keeps to itself what is new, so that a refusal leaves a table as it was.
type draft struct {
	known  catalog
	fresh  catalog
	groups []api.RecType // the new ones, rolled up, in the order of their ids
	count  int           // how many ids there are, known and new
	most   int           // how many there may be
}

func newDraft(known catalog, count, most int) *draft {
	return &draft{known: known, fresh: newCatalog(), count: count, most: most}
}

// all tells the ids of a closed list's types, where there is no limit.
func (d *draft) all(l []api.RecType) []int {
	ids, _, _ := d.number(l)
	return ids
}

// number tells the ids of a closed list's types; or the place of the first group with which there would be too many.
func (d *draft) number(l []api.RecType) ([]int, int, bool) {
	return shape.Number(l, d.place)
}

// place tells the first id of a rolled up group, a new one if it is one with none ahead.
func (d *draft) place(r api.RecType) (int, bool) {
	key := shape.Text(r)
	for _, c := range []catalog{d.known, d.fresh} {
		if first, ok := c.firsts[key]; ok {
			return first, true
		}
	}
	if len(r.Types) > d.most-d.count {
		return 0, false
	}
	first := d.count
	d.fresh.firsts[key] = first
	d.groups = append(d.groups, r)
	d.count += len(r.Types)
	return first, true
}
