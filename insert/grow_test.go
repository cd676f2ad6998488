package insert_test

import (
	"math/rand"

	"lychgate/api"
	"lychgate/samples"
)

// A grower makes terms, always the same ones. They are static, and have the type that is wanted.
type grower struct {
	samples.Grower
	random *rand.Rand
}

func newGrower(seed int64) *grower {
	random := rand.New(rand.NewSource(seed))
	return &grower{samples.Grower{Dice: random, Ascribes: true}, random}
}

// someOpened is x with parts of one annotation of it, or of some, made unknown.
func (g *grower) someOpened(x api.Term) api.Term {
	count := 0
	annotated(x, func(a api.Type) api.Type { count++; return a })
	chosen := g.Intn(count + 1)
	return annotated(x, func(a api.Type) api.Type {
		chosen--
		if chosen == 0 || g.Intn(4) == 0 {
			return g.Opened(a)
		}
		return a
	})
}

// someCast is x, now and then with a Cast in it, most of which change nothing.
func (g *grower) someCast(x api.Term) api.Term {
	if g.Intn(12) == 0 {
		a := g.SomeType(2)
		return samples.Cast(a, a, 1+g.Intn(9), x)
	}
	return over(x, g.someCast)
}
