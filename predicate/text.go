package predicate

import (
	"strings"

	"geoprover/api"
	"geoprover/rational"
)

// Text returns the text of f, in which the argument i has the name names[i].
func Text(f api.Fact, names []string) (string, api.Errno) {
	if e := Right(f, len(names)); e != api.OK {
		return "", e
	}
	var parts []string
	for _, a := range f.Args {
		parts = append(parts, names[a])
	}
	if f.Kind == api.FactRatio {
		parts = append(parts, rational.Text(f.Ratio))
	}
	word, _ := shape(f.Kind)
	return word + "(" + strings.Join(parts, ", ") + ")", api.OK
}
