package terms

import (
	"maps"
	"slices"
	"strings"

	"lychgate/api"
)

// Free gives the names in t that no binder around them binds, each once, rising byte by byte.
func Free(t api.Term) []string {
	if Check(t) != api.OK {
		return nil
	}
	s := search{bound: map[string]int{}, free: map[string]struct{}{}}
	s.through(t)
	return slices.Sorted(maps.Keys(s.free))
}

// A search goes through a term for names that are free.
type search struct {
	bound map[string]int // how many times binders around bind a name: an inner one may be left ahead of an outer one
	free  map[string]struct{}
}

func (s *search) through(t api.Term) {
	if t.Kind == api.Var && s.bound[t.Name] == 0 {
		s.free[strings.Clone(t.Name)] = struct{}{}
	}
	for n, kid := range t.Kids {
		names := binds(t, n)
		s.enter(names)
		s.through(kid)
		s.leave(names)
	}
}

func (s *search) enter(names []string) {
	for _, name := range names {
		s.bound[name]++
	}
}

func (s *search) leave(names []string) {
	for _, name := range names {
		s.bound[name]--
		if s.bound[name] == 0 {
			delete(s.bound, name)
		}
	}
}

// binds gives the names that t binds in its kid of that number.
func binds(t api.Term, kid int) []string {
	switch {
	case t.Kind == api.Lam, t.Kind == api.Let && kid == 1, t.Kind == api.Case && kid == 1:
		return []string{t.Name}
	case t.Kind == api.Case && kid == 2:
		return []string{t.Arg}
	case t.Kind == api.Rec:
		return []string{t.Name, t.Arg}
	}
	return nil
}
