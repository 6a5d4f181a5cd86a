package sequence

import (
	"cmp"
	"slices"

	"chartroom/api"
)

// A node is a cell with the nodes of those cells whose parent it is. The root, which has the zero ID, stands for the beginning of the list.
type node struct {
	cell     api.Cell
	children []*node
	below    int // how many cells are below it
}

// grow returns the root of cells, and false if they do not form a list.
func grow(cells []api.Cell) (root *node, ok bool) {
	if !agree(cells) {
		return nil, false
	}
	root = &node{}
	nodes := make([]node, len(cells))
	named := make(map[api.ID]*node, len(cells)+1)
	named[api.ID{}] = root
	for i, c := range cells {
		if !valid(c) || named[c.ID] != nil {
			return nil, false
		}
		nodes[i].cell = c
		named[c.ID] = &nodes[i]
	}
	for i, c := range cells {
		parent := named[c.After]
		if parent == nil {
			return nil, false
		}
		parent.children = append(parent.children, &nodes[i])
	}
	arrange(root)
	return root, root.below == len(cells) // cells whose chains of parents run in a circle are not below it
}

// agree tells whether cells of one operation have one time.
func agree(cells []api.Cell) bool {
	times := map[api.Dot]int{}
	for _, c := range cells {
		operation := api.Dot{Device: c.ID.Device, Seq: c.ID.Seq}
		if time, known := times[operation]; known && time != c.Time {
			return false
		}
		times[operation] = c.Time
	}
	return true
}

// arrange sorts the children of each node that can be reached from a root, and counts what is below it.
func arrange(root *node) {
	nodes := []*node{root} // each one after its parent
	for i := 0; i < len(nodes); i++ {
		nodes = append(nodes, nodes[i].children...)
	}
	for _, n := range slices.Backward(nodes) {
		sortDown(n.children, func(child *node) [4]int { return stamp(child.cell) })
		for _, child := range n.children {
			n.below += 1 + child.below
		}
	}
}

// list returns the cells below a root.
func list(root *node) []api.Cell {
	l := make([]api.Cell, root.below)
	var fill func(n *node, room []api.Cell)
	fill = func(n *node, room []api.Cell) {
		for len(room) > 0 {
			// The child with the most cells below it is left to the next round. As any other one has at most half of the cells, the calls are never nested deeply, however long the chains of parents are.
			last := largest(n.children)
			var lastRoom []api.Cell
			for _, child := range n.children {
				room[0] = child.cell
				own := room[1 : 1+child.below]
				room = room[1+child.below:]
				if child == last {
					lastRoom = own
				} else {
					fill(child, own)
				}
			}
			n, room = last, lastRoom
		}
	}
	fill(root, l)
	return l
}

// largest returns the first one of the nodes with the most cells below them.
func largest(nodes []*node) *node {
	return slices.MaxFunc(nodes, func(a, b *node) int { return cmp.Compare(a.below, b.below) })
}

// sortDown sorts a list by the stamps of its elements, the greatest one first.
func sortDown[T any](l []T, stamp func(T) [4]int) {
	slices.SortFunc(l, func(a, b T) int {
		x, y := stamp(a), stamp(b)
		return slices.Compare(y[:], x[:])
	})
}

// stamp returns the numbers by which siblings are ordered.
func stamp(c api.Cell) [4]int {
	return [4]int{c.Time, c.ID.Device, c.ID.Seq, c.ID.At}
}

// valid tells whether a cell is valid, apart from After: whatever is not valid there is the ID of no valid cell.
func valid(c api.Cell) bool {
	return validID(c.ID) &&
		c.Time >= 1 && c.Time <= api.MaxTime &&
		len(c.Value) <= api.MaxBody
}

func validID(id api.ID) bool {
	return id.Device >= 0 && id.Device < api.MaxDevices &&
		id.Seq >= 1 && id.Seq <= api.MaxSeq &&
		id.At >= 0 && id.At < api.MaxRun
}
