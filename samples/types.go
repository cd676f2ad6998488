// Package samples makes types and terms for the tests of the other packages: what is too great, what is too deep, what is none, and many that are always the same ones. Nothing of the program calls it.
package samples

import (
	"lychgate/api"
	"lychgate/scan"
	"lychgate/types"
)

// Of is the type of that kind with these parts.
func Of(kind int8, parts ...api.Type) api.Type { return api.Type{Kind: kind, Kids: parts} }

// Type is the type that a text tells.
func Type(text string) api.Type {
	words, err := scan.All(text)
	if err != nil {
		panic(err)
	}
	a, next, err := types.Read(words, 0)
	if err != nil || words[next].Kind != api.WordEnd {
		panic(text)
	}
	return a
}

// Chain is a type so many types deep, at whose end is bottom; each part beside that is int.
func Chain(kind int8, depth int, right bool, bottom api.Type) api.Type {
	for range depth - types.Depth(bottom) {
		if right {
			bottom = Of(kind, Of(api.Int), bottom)
		} else {
			bottom = Of(kind, bottom, Of(api.Int))
		}
	}
	return bottom
}

// Balanced is a type with so many leaves, no deeper than it must be: it has twice as many nodes, less one.
func Balanced(kind int8, leaves int, leaf api.Type) api.Type {
	if leaves == 1 {
		return leaf
	}
	return Of(kind, Balanced(kind, leaves-leaves/2, leaf), Balanced(kind, leaves/2, leaf))
}

// Full is a type of 2^depth - 1 nodes, whose parts are shared.
func Full(kind int8, depth int, bottom api.Type) api.Type {
	for range depth - 1 {
		bottom = Of(kind, bottom, bottom)
	}
	return bottom
}

// Endless is a type that lies within itself.
func Endless(kind int8) api.Type {
	kids := make([]api.Type, 2)
	kids[0], kids[1] = Of(api.Int), Of(kind, kids...)
	return kids[1]
}

// Spread is a with each of its parts changed.
func Spread(a api.Type, change func(api.Type) api.Type) api.Type {
	b := Of(a.Kind)
	for _, kid := range a.Kids {
		b.Kids = append(b.Kids, change(kid))
	}
	return b
}

// Lists are the places at which the lists of a type lie, each as often as it is in it.
func Lists(a api.Type) []*api.Type {
	if len(a.Kids) == 0 {
		return nil
	}
	all := []*api.Type{&a.Kids[0]}
	for _, kid := range a.Kids {
		all = append(all, Lists(kid)...)
	}
	return all
}

// ShortType is what a looks like: how its text begins, or what is wrong with it.
func ShortType(a api.Type) string {
	text, e := types.Text(a)
	if e != api.OK {
		return "a type with " + e.Error()
	}
	return begins(text)
}

// begins is as much of a text as a test tells.
func begins(text string) string {
	const most = 400
	return text[:min(len(text), most)]
}
