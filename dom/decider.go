package dom

import "slices"

// decider gathers what each node depends on. It is asked of one node after the
// other, so that what it tells is rising.
type decider struct {
	tree
	told [][]int
	seen []int // of each node the last one that it was held against
}

func newDecider(next [][]int) *decider {
	return &decider{newTree(next), make([][]int, len(next)), slices.Repeat([]int{none}, len(next))}
}

// decide finds what depends on p, whose edges go to these.
func (d *decider) decide(p int, to ...int) {
	switch {
	case !slices.ContainsFunc(to, d.lost):
		for _, m := range to {
			d.rise(p, m)
		}
	case d.lost(p):
		d.add(p, p) // all postdominate p: one alone is p
	default:
		d.others(p)
	}
}

// rise finds what depends on p since an edge goes to m. What postdominates both
// is p's in the tree, and what lies above it.
func (d *decider) rise(p, m int) {
	if !isNode(m, len(d.tree)) {
		return
	}
	for n := m; n != d.tree[p] && d.seen[n] != p; n = d.tree[n] {
		d.add(p, n)
	}
}

// others finds what depends on p since an edge goes to where there is no way to
// Exit, and which all postdominate: all but what lies above p.
func (d *decider) others(p int) {
	for n := d.tree[p]; n != none; n = d.tree[n] {
		d.seen[n] = p
	}
	for n := range d.told {
		if d.seen[n] != p {
			d.add(p, n)
		}
	}
}

// add tells that n depends on p.
func (d *decider) add(p, n int) {
	d.seen[n] = p
	d.told[n] = append(d.told[n], p)
}
