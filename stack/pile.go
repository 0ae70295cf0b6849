package stack

// pile is a stack: operands lie on one, frames on another.
type pile[T any] struct{ items []T }

func (p *pile[T]) height() int { return len(p.items) }

func (p *pile[T]) push(l ...T) { p.items = append(p.items, l...) }

// nth is the n-th from the last one on, which is 0. It is asked for only where there is one.
func (p *pile[T]) nth(n int) *T { return &p.items[len(p.items)-1-n] }

// cut takes away what lies above a height. Till something is pushed over it, it stands behind the pile's end, so that the pile as it was can be laid back.
func (p *pile[T]) cut(height int) { p.items = p.items[:height] }

// copied tells a list in memory of its own.
func copied[T any](l []T) []T {
	out := make([]T, len(l))
	copy(out, l)
	return out
}
