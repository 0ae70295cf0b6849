package canon_test

import (
	"slices"

	"ratchet/api"
	"ratchet/types"
)

// one tells whether x of a and y of b are one by the chapter's words, group against group, without ids.
func one(a, b []api.RecType, x, y int) bool {
	_, g, i, _ := types.At(a, x)
	_, h, j, _ := types.At(b, y)
	return i == j && groupsOne(a, b, g, h)
}

func groupsOne(a, b []api.RecType, g, h int) bool {
	first, second := types.Count(a[:g]), types.Count(b[:h])
	numbers := func(n, m int) bool {
		if n >= first || m >= second {
			return n >= first && m >= second && n-first == m-second
		}
		return one(a, b, n, m)
	}
	return slices.EqualFunc(a[g].Types, b[h].Types, func(s, t api.SubType) bool { return alike(s, t, numbers) })
}

// alike holds two types of groups against each other; numbers says when two numbers tell the same.
func alike(s, t api.SubType, numbers func(n, m int) bool) bool {
	vals := func(v, w api.ValType) bool {
		if v.Num != api.TRef || w.Num != api.TRef {
			return v.Num == w.Num
		}
		if v.Heap < 0 || w.Heap < 0 {
			return v.Null == w.Null && v.Heap == w.Heap
		}
		return v.Null == w.Null && numbers(v.Heap, w.Heap)
	}
	fields := func(f, k api.Field) bool { return f.Mut == k.Mut && vals(f.Type, k.Type) }
	return s.Final == t.Final && s.Comp.Kind == t.Comp.Kind &&
		slices.EqualFunc(s.Supers, t.Supers, numbers) &&
		slices.EqualFunc(s.Comp.Params, t.Comp.Params, vals) &&
		slices.EqualFunc(s.Comp.Results, t.Comp.Results, vals) &&
		slices.EqualFunc(s.Comp.Fields, t.Comp.Fields, fields)
}
