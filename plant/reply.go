package plant

import (
	"strconv"
	"strings"
)

// reply are the parts of a reply: words, numbers, truth values, and slices of
// words or numbers.
type reply []any

// text returns the reply as a string.
func (r reply) text() string {
	var words []string
	for _, part := range r {
		switch x := part.(type) {
		case string:
			words = append(words, x)
		case int:
			words = append(words, strconv.Itoa(x))
		case bool:
			words = append(words, yesOrNo(x))
		case []string:
			words = append(words, x...)
		case []int:
			for _, n := range x {
				words = append(words, strconv.Itoa(n))
			}
		}
	}
	return strings.Join(words, " ")
}

// yesOrNo returns the word for a truth value.
func yesOrNo(yes bool) string {
	if yes {
		return "yes"
	}
	return "no"
}
