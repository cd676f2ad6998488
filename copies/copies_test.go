package copies_test

import (
	"testing"

	"lychgate/api"
	"lychgate/copies"
	"lychgate/samples"
	"lychgate/types"
)

// A copy is the same type, and has lists of its own, without the room behind the ends of others.
func TestType(t *testing.T) {
	room := []api.Type{samples.Of(api.Int), {Kind: api.Bool, Kids: make([]api.Type, 0, 3)}, samples.Of(77)}
	for _, a := range []api.Type{
		{}, samples.Of(api.Int), samples.Of(api.Bool), samples.Type("? -> ?"), samples.Type("(int -> ?) * (? + bool)"), samples.Of(api.Pair, room[:2]...), samples.Full(api.Sum, 9, room[1]),
		samples.Balanced(api.Fun, 4096, samples.Of(api.Int)), samples.Chain(api.Pair, 200, true, samples.Of(api.Int)), samples.Chain(api.Sum, 200, false, samples.Of(api.Unknown)),
	} {
		b, again := copies.Type(a), copies.Type(a)
		if !types.Same(a, b) {
			t.Errorf("%s: %s", samples.ShortType(a), samples.ShortType(b))
		}
		if samples.Shares(samples.Lists(b), append(samples.Lists(a), samples.Lists(again)...)) {
			t.Errorf("%s: a list is shared", samples.ShortType(a))
		}
		for _, list := range samples.Lists(b) {
			*list = samples.Of(99)
		}
		if !types.Same(a, again) || room[2].Kind != 77 {
			t.Errorf("now %s", samples.ShortType(a))
		}
	}
	if b := copies.Type(room[1]); cap(b.Kids) > 0 {
		t.Error("the room behind the end of an empty list is shared")
	}
}

// Of what is none the zero type is told.
func TestTypeOfNone(t *testing.T) {
	integer := samples.Of(api.Int)
	for _, a := range []api.Type{
		samples.Of(6), samples.Of(-1), samples.Of(api.Fun), samples.Of(api.Int, integer), samples.Of(api.Pair, integer), samples.Of(api.Sum, integer, samples.Of(9)),
		samples.Endless(api.Fun), samples.Chain(api.Fun, 201, true, integer), samples.Balanced(api.Fun, 4097, integer), samples.Full(api.Pair, 60, integer),
	} {
		if b := copies.Type(a); b.Kind != api.Unknown || len(b.Kids) > 0 {
			t.Errorf("%s: %s", samples.ShortType(a), samples.ShortType(b))
		}
	}
}
