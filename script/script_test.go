package script_test

import (
	"slices"
	"strings"
	"testing"

	"brocade/api"
	"brocade/script"
)

func same(a, b script.Item) bool {
	return a.Op == b.Op && a.Name == b.Name && a.Text == b.Text && slices.Equal(a.Names, b.Names) && slices.Equal(a.Sizes, b.Sizes)
}

func size(name string, n int64) api.Binding { return api.Binding{Name: name, Val: n} }

var all = []script.Item{
	{Op: 1, Name: "p", Text: "size n;\nanything at all\n"}, {Op: 1, Name: "q"}, {Op: 2, Name: "s", Text: "split i 2 o k\n"}, {Op: 3, Name: "g", Names: []string{"p", "out1", "a", "b"}}, {Op: 3, Name: "g", Names: []string{"p", "x"}}, {Op: 4, Name: "t", Names: []string{"p", "a"}}, {Op: 4, Name: "t", Names: []string{"p"}}, {Op: 5, Name: "a", Sizes: []api.Binding{size("", 2), size("", 0)}, Names: []string{"1", "-1/2", "/-"}}, {Op: 5, Name: "a"}, {Op: 6, Name: "p", Sizes: []api.Binding{size("n", 3), size("m", api.MaxNum)}}, {Op: 6, Name: "p", Names: []string{"s"}, Sizes: []api.Binding{size("n", 0)}}, {Op: 6, Name: "p"}, {Op: 7, Name: "p"}, {Op: 8, Name: "p", Sizes: []api.Binding{size("n", 3)}}, {Op: 8, Name: "with"},
}

const text = "program p\nsize n;\nanything at all\nend\nprogram q\nend\nschedule s\nsplit i 2 o k\nend\ngrad g p out1 a b\ngrad g p x\ntangent t p a\ntangent t p\ndata a 2 0 = 1 -1/2 /-\ndata a =\nrun p n=3 m=2147483647\nrun p with s n=0\nrun p\nshow p\ncheck p n=3\ncheck with\n"

func TestText(t *testing.T) {
	if got := script.Format(all); got != text {
		t.Errorf("%q", got)
	}
	got, lines, err := script.Parse(text)
	if !slices.EqualFunc(got, all, same) || lines != strings.Count(text, "\n") || err != api.OK {
		t.Error(got, lines, err)
	}
	for k, x := range []script.Item{
		{}, {Op: 9, Name: "p"}, {Op: -1, Name: "p"}, {Op: 1, Name: "P"}, {Op: 1}, {Op: 1, Name: "p", Text: "x"}, {Op: 1, Name: "p", Text: "x\nend\n"}, {Op: 2, Name: "p", Text: "end\n"}, {Op: 1, Name: "p", Names: []string{"a"}}, {Op: 1, Name: "p", Sizes: []api.Binding{size("n", 1)}}, {Op: 3, Name: "p", Names: []string{"a"}}, {Op: 3, Name: "p", Names: []string{"a", "B"}}, {Op: 3, Name: "p", Names: []string{"a", "b"}, Text: "x\n"}, {Op: 4, Name: "p"}, {Op: 4, Name: "p", Names: []string{"sum"}}, {Op: 4, Name: "p", Names: []string{"a"}, Sizes: []api.Binding{size("n", 1)}},
		{Op: 5, Name: "p", Names: []string{""}}, {Op: 5, Name: "p", Names: []string{"1 "}}, {Op: 5, Name: "p", Names: []string{"x"}}, {Op: 5, Name: "p", Sizes: []api.Binding{size("n", 1)}}, {Op: 5, Name: "p", Sizes: []api.Binding{size("", -1)}}, {Op: 6, Name: "p", Names: []string{"a", "b"}}, {Op: 6, Name: "p", Names: []string{"A"}}, {Op: 6, Name: "p", Sizes: []api.Binding{size("", 1)}}, {Op: 6, Name: "p", Sizes: []api.Binding{size("n", api.MaxNum+1)}}, {Op: 7, Name: "p", Names: []string{"a"}}, {Op: 7, Name: "p", Sizes: []api.Binding{size("n", 1)}}, {Op: 8, Name: "p", Names: []string{"a"}}, {Op: 8, Name: "p", Text: "\n"}, {Op: 8, Name: "p", Sizes: []api.Binding{size("n", -1)}},
	} {
		if script.Format([]script.Item{all[0], x}) != "" {
			t.Errorf("item %d must be invalid", k)
		}
		if out, at, err := script.RunItems([]script.Item{all[0], x, {}}); out != "" || at != 1 || err != api.ErrSyntax {
			t.Errorf("item %d: %q, %d, %v", k, out, at, err)
		}
	}
}

func TestParseErrors(t *testing.T) {
	for _, x := range []struct {
		s   string
		at  int
		err api.Errno
	}{
		{"show p", 0, api.ErrEOF}, {"show p\nshow", 1, api.ErrEOF}, {"program p\n", 1, api.ErrEOF}, {"program p\nx\n", 2, api.ErrEOF}, {"program p\nx", 1, api.ErrEOF}, {"program p\nend", 1, api.ErrEOF}, {"program p\nend\nend\n", 2, api.ErrSyntax}, {"show\n", 0, api.ErrSyntax}, {"show p q\n", 0, api.ErrSyntax}, {"show P\n", 0, api.ErrSyntax}, {"show p \n", 0, api.ErrSyntax}, {"show  p\n", 0, api.ErrSyntax}, {" show p\n", 0, api.ErrSyntax}, {"\n", 0, api.ErrSyntax}, {"show p\n\n", 1, api.ErrSyntax}, {"Show p\n", 0, api.ErrSyntax}, {"program p q\nend\n", 0, api.ErrSyntax}, {"program sum\nend\n", 0, api.ErrSyntax},
		{"grad g p\n", 0, api.ErrSyntax}, {"grad g p X\n", 0, api.ErrSyntax}, {"tangent g\n", 0, api.ErrSyntax}, {"tangent g p \n", 0, api.ErrSyntax}, {"data a 2\n", 0, api.ErrSyntax}, {"data a 02 = 1\n", 0, api.ErrSyntax}, {"data a x = 1\n", 0, api.ErrSyntax}, {"data a 2 = x\n", 0, api.ErrSyntax}, {"data a 2 = 1 = 2\n", 0, api.ErrSyntax}, {"data a 2 =\n", 1, 0}, {"data a 2 = \n", 0, api.ErrSyntax}, {"data a 2147483648 = 1\n", 0, api.ErrRange}, {"data a -1 = 1\n", 0, api.ErrRange}, {"data a -0 = 1\n", 0, api.ErrSyntax}, {"data a 99999999999999999999999 = 1\n", 0, api.ErrRange}, {"data a 2147483648 = x\n", 0, api.ErrSyntax}, {"data a 2147483648 x = 1\n", 0, api.ErrSyntax}, {"data A 2147483648 = 1\n", 0, api.ErrSyntax},
		{"run p with\n", 0, api.ErrSyntax}, {"run p with S\n", 0, api.ErrSyntax}, {"run p s n=1\n", 0, api.ErrSyntax}, {"run p n=\n", 0, api.ErrSyntax}, {"run p n\n", 0, api.ErrSyntax}, {"run p n=1=2\n", 0, api.ErrSyntax}, {"run p N=1\n", 0, api.ErrSyntax}, {"run p n=01\n", 0, api.ErrSyntax}, {"run p n=+1\n", 0, api.ErrSyntax}, {"run p n=2147483648\n", 0, api.ErrRange}, {"run p n=-1\n", 0, api.ErrRange}, {"run p n=-1 N=1\n", 0, api.ErrSyntax}, {"run p n=1 with s\n", 0, api.ErrSyntax}, {"check p with s\n", 0, api.ErrSyntax}, {"check p n=2147483648\n", 0, api.ErrRange}, {"show p\nrun p n=-1\nshow\n", 1, api.ErrRange},
		{strings.Repeat("show p\n", 256), 256, 0}, {strings.Repeat("show p\n", 257), 256, api.ErrLimit}, {strings.Repeat("program p\n\nend\n", 256) + "x", 768, api.ErrLimit}, {strings.Repeat(" ", 65537), 0, api.ErrLimit}, {strings.Repeat(" ", 65536), 0, api.ErrEOF}, {"", 0, 0},
	} {
		got, at, err := script.Parse(x.s)
		if at != x.at || err != x.err || err != api.OK && len(got) != 0 || err == api.OK && script.Format(got) != x.s {
			t.Errorf("Parse(%.40q) = %d, %v; want %d, %v", x.s, at, err, x.at, x.err)
		}
		if x.err != api.OK {
			if out, at, err := script.Run(x.s); out != "" || at != x.at || err != x.err {
				t.Errorf("Run(%.40q) = %q, %d, %v", x.s, out, at, err)
			}
		}
	}
}

const whole = `program p
size n; in a: frac[n]; in t: int[n];
def s: frac[] = sum i < n: a[i] * a[i];
def u: frac[i < n] = scan: a[t[i]];
out s, u;
end
schedule q
reverse s_i
end
schedule bad
reverse u_i
end
data a 3 = 1/2 -1 3
data t 3 = 2 1 5/2
run p n=3
run p with q n=3
run p with bad n=3
grad g p s a
data g_s = 2
run g n=3
tangent d p a
data d_a 3 = 1 0 1
run d n=3
show g
check p n=3
check p n=5000
run p n=2
`

const output = `program p ok
schedule q ok
schedule bad ok
data a ok
data t ok
run p ok
s = 41/4
u = [3, 2, 5]
run p ok
s = 41/4
u = [3, 2, 5]
run p error 18
grad g ok
data g_s ok
run g ok
g_a = [2, -4, 12]
tangent d ok
data d_a ok
run d ok
s = 41/4
u = [3, 2, 5]
d_s = 7
d_u = [1, 1, 2]
show g ok
size n;
in a: frac[n];
in t: int[n];
in g_s: frac[];
def s: frac[] = sum i < n: a[i] * a[i];
def u: frac[i < n] = scan: a[t[i]];
def g_a: frac[q0 < n] = sum i < n: if([i] == [q0], g_s[] * (frac(1) * a[i]), frac(0)) + if([i] == [q0], g_s[] * (frac(1) * a[i]), frac(0));
out g_a;
check p ok
check p error 15
run p error 15
`

func TestRun(t *testing.T) {
	out, failed, err := script.Run(whole)
	if out != output || failed != 3 || err != api.OK {
		t.Errorf("%s\n%d, %v", out, failed, err)
	}
	// The output of the first items is a prefix (58.4).
	items, _, _ := script.Parse(whole)
	for i := range items {
		part, _, err := script.RunItems(items[:i])
		if !strings.HasPrefix(output, part) || err != api.OK {
			t.Errorf("the first %d items print %q", i, part)
		}
	}
	if out, failed, err := script.RunItems(nil); out != "" || failed != 0 || err != api.OK {
		t.Error(out, failed, err)
	}
	show := script.Item{Op: 7, Name: "p"}
	if out, failed, err := script.RunItems(slices.Repeat([]script.Item{show}, 256)); out != strings.Repeat("show p error 9\n", 256) || failed != 256 || err != api.OK {
		t.Error(out, failed, err)
	}
	for at, l := range [][]script.Item{{{Op: 9, Name: "p"}}, {show, {Op: 7}, {}}, {show, show, {}}} {
		if out, first, err := script.RunItems(l); out != "" || first != at || err != api.ErrSyntax {
			t.Errorf("item %d is invalid, but: %q, %d, %v", at, out, first, err)
		}
	}
	if out, failed, err := script.RunItems(make([]script.Item, 257)); out != "" || failed != 0 || err != api.ErrLimit {
		t.Error(out, failed, err)
	}
}

func TestItemErrors(t *testing.T) {
	const p = "program p\nsize n; in a: int[n]; def s: int[] = sum i < n: a[i]; out s;\nend\n"
	for _, x := range []struct{ s, want string }{
		{"run p n=2\n", "run p error 9\n"}, {"show p\n", "show p error 9\n"}, {"check p\n", "check p error 9\n"}, {"grad g p s a\n", "grad g error 9\n"}, {"tangent g p\n", "tangent g error 9\n"}, {"program p\nsize\nend\nshow p\n", "program p error 6\nshow p error 9\n"}, {"program p\nout q;\nend\n", "program p error 9\n"}, {"schedule s\nx\nend\n", "schedule s error 5\n"}, {"program p\nend\nshow p\nschedule p\nend\ndata p = 1\nrun p with p\n", "program p ok\nshow p ok\nschedule p ok\ndata p ok\nrun p ok\n"},
		{"data a 0 =\n", "data a error 1\n"}, {"data a 5000 =\n", "data a error 2\n"}, {"data a 2 = 1\n", "data a error 1\n"}, {"data a = 1 2\n", "data a error 1\n"}, {"data a 2 = 1 2/4\n", "data a error 5\n"}, {"data a 2 = 99999999999 2/4\n", "data a error 3\n"}, {"data a = 1/2\n", "data a ok\n"}, {p + "run p n=2\n", "program p ok\nrun p error 9\n"}, {p + "data a 2 = 1 2\nrun p with z n=2\n", "program p ok\ndata a ok\nrun p error 9\n"}, {"program p\nin a: frac[1]; out a;\nend\ndata a 1 = 5\nrun p\n", "program p ok\ndata a ok\nrun p ok\na = [5]\n"}, {p + "run p with z n=2\n", "program p ok\nrun p error 9\n"}, {p + "data a 2 = 3/2 -3/2\nrun p n=2\n", "program p ok\ndata a ok\nrun p ok\ns = -1\n"}, {p + "data a 1 = 1\nrun p n=2\n", "program p ok\ndata a ok\nrun p error 15\n"}, {p + "data a 1 = 1\nrun p\n", "program p ok\ndata a ok\nrun p error 15\n"},
		{p + "grad g p s a\ngrad g p q\ntangent g p a\ntangent g p\n", "program p ok\ngrad g error 20\ngrad g error 9\ntangent g error 20\ntangent g ok\n"}, {p + "data a 2 = 1 2\ndata a 3 = 1\nschedule x\nunroll s_i\nend\nrun p with x n=2\nschedule x\nfuse s_i\nend\nrun p with x n=2\nrun p with x n=3\nprogram p\nbad\nend\nrun p n=2\n", "program p ok\ndata a ok\ndata a error 1\nschedule x ok\nrun p ok\ns = 3\nschedule x ok\nrun p error 19\nrun p error 19\nprogram p error 5\nrun p ok\ns = 3\n"}, {p + "data a 2 = 2147483647 1\nschedule x\nend\nrun p with x n=2\ncheck p n=2\ncheck p n=0\n", "program p ok\ndata a ok\nschedule x ok\nrun p error 3\ncheck p ok\ncheck p error 15\n"},
	} {
		out, failed, err := script.Run(x.s)
		if out != x.want || failed != strings.Count(x.want, " error ") || err != api.OK {
			t.Errorf("Run(%q) = %q, %d, %v; want %q", x.s, out, failed, err, x.want)
		}
	}
}
