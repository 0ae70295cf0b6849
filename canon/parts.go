package canon

import (
	"maps"
	"slices"

	"ratchet/api"
	"ratchet/types"
)

// catalog holds the first id of each group, by its rolled up text.
type catalog struct{ firsts map[string]int }

func newCatalog() catalog { return catalog{firsts: map[string]int{}} }

func (c catalog) enter(more catalog) { maps.Copy(c.firsts, more.firsts) }

func (c catalog) copied() catalog { return catalog{firsts: maps.Clone(c.firsts)} }

// shelf holds types by their ids.
type shelf struct{ items []item }

// item is a type, with ids in the place of numbers, and where its group lies. Its lists are never changed, so that shelves may share them.
type item struct {
	sub         api.SubType
	first, many int
}

func (s *shelf) count() int { return len(s.items) }

func (s *shelf) item(id int) (item, api.Errno) {
	if id < 0 || id >= len(s.items) {
		return item{}, api.ErrNone
	}
	return s.items[id], api.OK
}

// lay gives the types of a rolled up group the next ids.
func (s *shelf) lay(r api.RecType) {
	first := len(s.items)
	// A group that was rolled up here speaks of no place that it lacks: nothing is refused.
	unrolled, _ := types.Unroll(r, first)
	for _, sub := range unrolled.Types {
		s.items = append(s.items, item{sub: sub, first: first, many: len(r.Types)})
	}
}

func (s *shelf) copied() shelf { return shelf{items: slices.Clone(s.items)} }
