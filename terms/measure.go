package terms

import (
	"lychgate/api"
	"lychgate/types"
)

// Depth tells how many terms and types of t lie within one another, at most api.MaxDepth + 1.
func Depth(t api.Term) int {
	_, depth := measure(t)
	return depth
}

// Nodes tells how many terms there are in t, itself too, and how many types in those of its types that count, at most api.MaxNodes + 1.
func Nodes(t api.Term) int {
	nodes, _ := measure(t)
	return nodes
}

// tooGreat is what a tape is left with by panic.
type tooGreat struct{}

// A tape is laid through a term, and counts.
type tape struct{ nodes, depth int }

// note counts so many nodes more, the deepest of which is at depth.
func (m *tape) note(nodes, depth int) {
	m.nodes += nodes
	if m.nodes > api.MaxNodes {
		panic(tooGreat{})
	}
	m.depth = max(m.depth, depth)
}

func (m *tape) lay(t api.Term, depth int) {
	m.note(1, depth)
	for _, a := range typesOf(t) {
		m.note(types.Nodes(a), depth+types.Depth(a))
	}
	for _, kid := range t.Kids {
		m.lay(kid, depth+1)
	}
}

// measure tells Nodes and Depth of t. What is too great is left early: it may be without end.
func measure(t api.Term) (nodes, depth int) {
	var m tape
	defer func() {
		if cause := recover(); cause == (tooGreat{}) {
			nodes, depth = api.MaxNodes+1, api.MaxDepth+1
		} else if cause != nil {
			panic(cause)
		}
	}()
	m.lay(t, 1)
	return m.nodes, min(m.depth, api.MaxDepth+1)
}
