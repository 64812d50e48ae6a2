package split_test

import (
	"strings"
	"testing"

	"brocade/api"
	"brocade/interp"
	"brocade/loopnest"
	"brocade/nesttext"
	"brocade/split"
	"brocade/tensor"
)

func parse(t *testing.T, s string) api.Nest {
	t.Helper()
	n, ok := nesttext.Parse(s)
	if !ok {
		t.Fatalf("%q is no nest", s)
	}
	return n
}

const bufs = "a: frac[6] in; c: frac[6] out; "

func flat(n api.Nest) string {
	return strings.Join(strings.Fields(loopnest.Format(api.Nest{Body: n.Body})), " ")
}

// check compares a result, and holds that it computes the same memory (P36.5).
func check(t *testing.T, what string, n, got api.Nest, err api.Errno, want string, code api.Errno) {
	t.Helper()
	if err != code || err == api.OK && flat(got) != want || err != api.OK && !loopnest.Same(got, api.Nest{}) {
		t.Errorf("%s of %q = %q, %v; want %q, %v", what, flat(n), flat(got), err, want, code)
	}
	if err != api.OK {
		return
	}
	if _, err := loopnest.Validate(got); err != api.OK {
		t.Errorf("%s of %q is invalid", what, flat(n))
	}
	x := api.Tensor{Type: api.Type{Kind: api.KFrac}, Dims: []int{6}}
	for i := range 6 {
		x.Vals = append(x.Vals, api.Val{N: int64(i*i - 7), D: 1})
	}
	mem, _ := interp.InitMemory(n, []api.Named{{Name: "a", Tensor: x}})
	one, _, e1 := interp.Run(n, mem, api.MaxSteps)
	two, _, e2 := interp.Run(got, mem, api.MaxSteps)
	if e1 != e2 || e1 == api.OK && !tensor.Same(one[1].Tensor, two[1].Tensor) {
		t.Errorf("%s of %q: %v and %v", what, flat(n), e1, e2)
	}
}

const long = "for i < 6 { c[i] = a[i] }"

func TestSplit(t *testing.T) {
	for _, x := range []struct {
		s, loop      string
		by           int
		outer, inner string
		want         string
		err          api.Errno
	}{
		{long, "i", 2, "o", "k", "for o < 3 { for k < 2 { c[k + 2*o] = a[k + 2*o] } }", 0}, {long, "i", 4, "o", "k", "for o < 2 { for k < 4 { if [k + 4*o] < [6] { c[k + 4*o] = a[k + 4*o] } } }", 0}, {long, "i", 6, "i", "k", "for i < 1 { for k < 6 { c[6*i + k] = a[6*i + k] } }", 0}, {long, "i", 1, "o", "i", "for o < 6 { for i < 1 { c[i + o] = a[i + o] } }", 0}, {"for j < 1 { for i < 6 parallel { c[i] = a[-2*i + 10]; c[j] sum= a[i] } }", "i", 3, "o", "k", "", 0},
		{"for i < 6 { c[q] = a[i] }", "z", 0, "", "", "", api.ErrNotFound}, {long, "j", 0, "", "", "", api.ErrLoop}, {long, "i", 0, "", "", "", api.ErrArg}, {long, "i", 7, "", "", "", api.ErrArg}, {long, "i", 2, "O", "o", "", api.ErrName}, {long, "i", 2, "o", "sum", "", api.ErrName}, {long, "i", 2, "o", "o", "", api.ErrDuplicate}, {long, "i", 2, "i", "i", "", api.ErrDuplicate}, {long, "i", 2, "a", "k", "", api.ErrDuplicate}, {long, "i", 2, "o", "c", "", api.ErrDuplicate}, {long + "; for j < 2 { }", "i", 2, "j", "k", "", api.ErrDuplicate}, {"for i < 6 { c[9223372036854775807*i] = a[0] }", "i", 2, "o", "k", "", api.ErrRange},
	} {
		n := parse(t, bufs+x.s)
		got, err := split.Split(n, x.loop, x.by, x.outer, x.inner)
		if x.want == "" && x.err == api.OK {
			x.want = "for j < 1 { for o < 2 parallel { for k < 3 { c[k + 3*o] = a[-2*k - 6*o + 10] c[j] sum= a[k + 3*o] } } }"
		}
		check(t, "Split", n, got, err, x.want, x.err)
		if err == api.OK && strings.Contains(x.s, long) && x.by != 4 {
			back, err := split.Collapse(got, x.outer, x.loop)
			if !loopnest.Same(back, n) || err != api.OK {
				t.Errorf("Collapse of %q = %q, %v", flat(got), flat(back), err)
			}
		}
	}
	deep := parse(t, bufs+"for i < 6 { "+strings.Repeat("if a[0] < a[1] { ", 38)+"c[0] = a[i]"+strings.Repeat(" }", 39))
	if _, err := split.Split(deep, "i", 2, "o", "k"); err != api.ErrDepth {
		t.Error(err)
	}
}

func TestCollapse(t *testing.T) {
	two := "for i < 2 { for j < 3 { c[3*i + j] = a[-3*i - j + 5] } }"
	for _, x := range []struct {
		s, outer, name, want string
		err                  api.Errno
	}{
		{two, "i", "k", "for k < 6 { c[k] = a[-k + 5] }", 0}, {two, "i", "i", "for i < 6 { c[i] = a[-i + 5] }", 0}, {two, "i", "j", "for j < 6 { c[j] = a[-j + 5] }", 0}, {"for i < 2 vector { for j < 3 parallel { c[1] sum= a[2] } }", "i", "k", "for k < 6 vector { c[1] sum= a[2] }", 0},
		{"c[q] = a[0]", "i", "k", "", api.ErrNotFound}, {two, "q", "k", "", api.ErrLoop}, {two, "j", "k", "", api.ErrLoop}, {"for i < 2 { for j < 3 { }; c[0] = a[0] }", "i", "K", "", api.ErrLoop}, {"for i < 2 { if a[0] < a[1] { for j < 3 { } } }", "i", "k", "", api.ErrLoop}, {two, "i", "K", "", api.ErrName}, {two, "i", "a", "", api.ErrDuplicate}, {two + "; for k < 2 { }", "i", "k", "", api.ErrDuplicate}, {"for i < 256 { for j < 257 { c[i] = a[j] } }", "i", "k", "", api.ErrLimit}, {"for i < 256 { for j < 256 { c[0] = a[0] } }", "i", "k", "for k < 65536 { c[0] = a[0] }", 0},
		{"for i < 2 { for j < 3 { c[i + j] = a[0] } }", "i", "k", "", api.ErrLoop}, {"for i < 2 { for j < 3 { c[3*i + j] = a[j] } }", "i", "k", "", api.ErrLoop}, {"for i < 2 { for j < 3 { c[3*i] = a[0] } }", "i", "k", "", api.ErrLoop}, {"for i < 2 { for j < 3 { if [i] < [1] { c[0] = a[0] } } }", "i", "k", "", api.ErrLoop}, {"for i < 1 { for j < 3 { c[9223372036854775807*i + j] = a[0] } }", "i", "k", "", api.ErrLoop},
	} {
		n := parse(t, bufs+x.s)
		got, err := split.Collapse(n, x.outer, x.name)
		check(t, "Collapse", n, got, err, x.want, x.err)
	}
}

func TestPeel(t *testing.T) {
	for _, x := range []struct {
		s, loop    string
		many       int
		rest, want string
		err        api.Errno
	}{
		{long, "i", 2, "p", "for i < 2 { c[i] = a[i] } for p < 4 { c[p + 2] = a[p + 2] }", 0}, {long, "i", 1, "p", "for i < 1 { c[i] = a[i] } for p < 5 { c[p + 1] = a[p + 1] }", 0}, {"for j < 1 { for i < 6 parallel { if a[i] < a[0] { c[-i + 5] = a[i] } } }", "i", 5, "p", "for j < 1 { for i < 5 parallel { if a[i] < a[0] { c[-i + 5] = a[i] } } for p < 1 parallel { if a[p + 5] < a[0] { c[-p] = a[p + 5] } } }", 0},
		{"c[q] = a[0]", "i", 0, "", "", api.ErrNotFound}, {long, "j", 0, "", "", api.ErrLoop}, {"for i < 6 { if a[0] < a[1] { for j < 2 { } } }", "i", 0, "", "", api.ErrLoop}, {long, "i", 0, "", "", api.ErrArg}, {long, "i", 6, "", "", api.ErrArg}, {long, "i", 2, "P", "", api.ErrName}, {long, "i", 2, "i", "", api.ErrDuplicate}, {long, "i", 2, "c", "", api.ErrDuplicate}, {"for i < 6 { c[9223372036854775807*i] = a[0] }", "i", 2, "p", "", api.ErrRange},
	} {
		n := parse(t, bufs+x.s)
		got, err := split.Peel(n, x.loop, x.many, x.rest)
		check(t, "Peel", n, got, err, x.want, x.err)
	}
	full := parse(t, bufs+"for i < 6 { c[0] = a[i] }"+strings.Repeat("; c[0] = a[0]", 1997))
	if _, err := split.Peel(full, "i", 2, "p"); err != api.ErrLimit {
		t.Error(err)
	}
}

func TestRemoveGuards(t *testing.T) {
	const body = "{ c[i] = a[i] }"
	for cond, want := range map[string]int{
		"[i] < [6]": 1, "[i] < [5]": 0, "[i] <= [5]": 1, "[i] <= [4]": 0, "[0] <= [i]": 1, "[0] < [i]": 0, "[0] < [i + 1] & [i] <= [5]": 1, "[0] < [i + 1] & [i] <= [4]": 0, "[0] < [i] & [i] <= [5]": 0, "[0] <= [i] | [i] < [0]": 0, "![i] < [0]": 0, "[i] == [i]": 0, "[i] <= [i]": 1, "[i] < [i]": 0, "[i - 5] <= [-i + 5]": 1, "[i - 5] < [-i + 5]": 0, "int(0) <= [i]": 0, "[0] <= [1]": 1, "[-9223372036854775808] < [i]": 0, "[1] < [-9223372036854775807*i]": 0, "[-9223372036854775807*i] <= [9223372036854775807]": 1, "[1844674407370955161*i] <= [9223372036854775807]": 1, "[1844674407370955162*i] <= [9223372036854775807]": 0, "[2305843009213693952*i] <= [0]": 0, "[3689348814741910324*i] <= [5]": 0, "[1844674407370955161*i + 9223372036854775807] <= [0]": 0,
	} {
		n := parse(t, bufs+"for i < 6 { if "+cond+" "+body+" }")
		got, count := split.RemoveGuards(n)
		text := "for i < 6 { if " + cond + " " + body + " }"
		if want == 1 {
			text = "for i < 6 " + body
		}
		if flat(got) != text || count != want {
			t.Errorf("%s: %q, %d", cond, flat(got), count)
		}
	}
	n := parse(t, bufs+"for i < 6 { if [i] < [6] { if [0] <= [i] { if a[0] < a[1] { if [i] <= [5] { c[i] = a[i] } }; c[0] = a[0] } } }")
	got, count := split.RemoveGuards(n)
	check(t, "RemoveGuards", n, got, api.OK, "for i < 6 { if a[0] < a[1] { c[i] = a[i] } c[0] = a[0] }", api.OK)
	if count != 3 {
		t.Error(count)
	}
	if got, count := split.RemoveGuards(parse(t, bufs+"c[q] = a[0]")); count != 0 || !loopnest.Same(got, api.Nest{}) {
		t.Error(got, count)
	}
}
