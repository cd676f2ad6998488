package rules

import "lychgate/api"

// Around is what is around a term: names with their types. Of several of one name the last one counts.
type Around []Binding

// A Binding is a name with its type.
type Binding struct {
	name string
	of   api.Type
}

// Bind gives the binding of a name to its type.
func Bind(name string, of api.Type) Binding { return Binding{name, of} }

// With is what is around, and more behind it. It never writes into the room behind around's end: what is around another kid may lie there.
func (around Around) With(more ...Binding) Around {
	return append(around[:len(around):len(around)], more...)
}

// Of gives the type of a name, if it is around.
func (around Around) Of(name string) (api.Type, bool) {
	for n := len(around) - 1; n >= 0; n-- {
		if around[n].name == name {
			return around[n].of, true
		}
	}
	return api.Type{}, false
}
