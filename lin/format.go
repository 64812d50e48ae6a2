package lin

import (
	"strconv"
	"strings"

	"brocade/api"
)

// Format writes a valid form.
func Format(l api.Lin) string {
	if Validate(l) != api.OK {
		return ""
	}
	var b strings.Builder
	for _, m := range l.L {
		sign(&b, m.By < 0)
		if m.By != 1 && m.By != -1 {
			b.WriteString(digits(m.By) + "*")
		}
		b.WriteString(m.Name)
	}
	if l.K != 0 || len(l.L) == 0 {
		sign(&b, l.K < 0)
		b.WriteString(digits(l.K))
	}
	return b.String()
}

// sign joins a term to the text before it.
func sign(b *strings.Builder, negative bool) {
	switch {
	case b.Len() == 0 && negative:
		b.WriteString("-")
	case b.Len() == 0:
	case negative:
		b.WriteString(" - ")
	default:
		b.WriteString(" + ")
	}
}

// digits writes the magnitude, also that of -2^63.
func digits(n int64) string {
	if n < 0 {
		return strconv.FormatUint(-uint64(n), 10)
	}
	return strconv.FormatInt(n, 10)
}
