package nesttext_test

import (
	"testing"

	"brocade/loopnest"
	"brocade/nesttext"
)

func TestParse(t *testing.T) {
	const text = "a: frac[2] in\nt: int[2, 2] in\ns: fix(8, 4, even, sat)[] temp\nc: frac[2] out\nfor i < 2 {\n  if a[i] < c[0] & [i] == [1] {\n    c[i] = a[t[i, 0]]\n    for j < 3 vector {\n      c[i] sum= -a[0]\n    }\n  }\n}\nfor k < 2 unroll {\n  c[k] min= min(a[k], frac(1/2))\n  for l < 2 parallel {\n  }\n}\n"
	n, ok := nesttext.Parse(text)
	if got := loopnest.Format(n); !ok || got != text {
		t.Errorf("%s, %v", got, ok)
	}
	short, ok := nesttext.Parse("a: frac[2] in; for i < 2 { for j < 2 { } }")
	if !ok || len(short.Bufs) != 1 || len(short.Body[0].Body) != 1 {
		t.Error(short, ok)
	}
	for _, s := range []string{"for i < 2 {", "for i < 2", "}", "c[0]", "c[0] = ", "if a[0] {", "for i < x { }", "a: real[2] in", "c[0] == a[0]"} {
		if n, ok := nesttext.Parse(s); ok {
			t.Errorf("%q is read as %s", s, loopnest.Format(n))
		}
	}
}
