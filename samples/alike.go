package samples

import (
	"slices"

	"lychgate/api"
	"lychgate/types"
)

// Exactly tells whether x and y are the same in all fields, At too, and what does not count.
func Exactly(x, y api.Term) bool {
	return x.Kind == y.Kind && x.Name == y.Name && x.Arg == y.Arg && x.Num == y.Num && x.Label == y.Label && x.At == y.At &&
		types.Same(x.Type, y.Type) && types.Same(x.To, y.To) && slices.EqualFunc(x.Kids, y.Kids, Exactly)
}

// TypeLists are the places at which the lists of the types in x lie, each as often as it is in it.
func TypeLists(x api.Term) []*api.Type {
	all := append(Lists(x.Type), Lists(x.To)...)
	for _, kid := range x.Kids {
		all = append(all, TypeLists(kid)...)
	}
	return all
}

// TermLists are the places at which the lists of kids in x lie, each as often as it is in it.
func TermLists(x api.Term) []*api.Term {
	if len(x.Kids) == 0 {
		return nil
	}
	all := []*api.Term{&x.Kids[0]}
	for _, kid := range x.Kids {
		all = append(all, TermLists(kid)...)
	}
	return all
}

// Shares tells whether one of told is there twice, or one of others.
func Shares[T any](told, others []*T) bool {
	seen := map[*T]int{}
	for _, list := range slices.Concat(told, others) {
		seen[list]++
	}
	return slices.ContainsFunc(told, func(list *T) bool { return seen[list] > 1 })
}
