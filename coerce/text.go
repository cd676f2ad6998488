package coerce

import (
	"strconv"
	"strings"

	"lychgate/api"
	"lychgate/types"
)

// The words between the two kids of a kind, each at its kind.
var betweens = [...]string{api.CoFun: "->", api.CoPair: "*", api.CoSum: "+", api.CoSeq: ";"}

// Text gives the words of c, with a blank between all; none, if c is no coercion, or they would be too long.
func Text(c api.Co) string {
	if !whole(c) {
		return ""
	}
	text := strings.Join(spell(nil, c), " ")
	if len(text) > api.MaxText {
		return ""
	}
	return text
}

// spell gives l, and the words of c behind it.
func spell(l []string, c api.Co) []string {
	switch c.Kind {
	case api.CoId:
		return append(l, "id", braced(c.Type))
	case api.CoFail:
		return append(l, "fail", braced(c.Type), braced(c.To), sided(c))
	case api.CoIn:
		return append(l, braced(c.Type), "!")
	case api.CoOut:
		return append(l, braced(c.Type), "?", sided(c))
	case api.CoSeq:
		return spellTwo(l, c)
	}
	return append(spellTwo(append(l, "("), c), ")")
}

func spellTwo(l []string, c api.Co) []string {
	return spell(append(spell(l, c.Kids[0]), betweens[c.Kind]), c.Kids[1])
}

func braced(a api.Type) string {
	text, _ := types.Text(a)
	return "{ " + text + " }"
}

// sided is the label of c, with its side.
func sided(c api.Co) string {
	digits := strconv.Itoa(c.Label)
	if c.Neg {
		return "-" + digits
	}
	return digits
}
