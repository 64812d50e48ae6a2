package lexer_test

import (
	"slices"
	"strings"
	"testing"

	"brocade/api"
	"brocade/lexer"
)

func tok(kind, at int, text string) api.Token { return api.Token{Kind: kind, At: at, Text: text} }

func TestTokenize(t *testing.T) {
	const n, d, s = api.KName, api.KNum, api.KSign
	for _, x := range []struct {
		text string
		want []api.Token
	}{
		{"", nil}, {" \t\r\n", nil}, {"# only a comment", nil}, {"#\n#\n", nil},
		{"a[i+1]<=03 # end", []api.Token{tok(n, 0, "a"), tok(s, 1, "["), tok(n, 2, "i"), tok(s, 3, "+"), tok(d, 4, "1"), tok(s, 5, "]"), tok(s, 6, "<="), tok(d, 8, "03")}},
		{"1a", []api.Token{tok(d, 0, "1"), tok(n, 1, "a")}}, {"z9 9 190z", []api.Token{tok(n, 0, "z9"), tok(d, 3, "9"), tok(d, 5, "190"), tok(n, 8, "z")}}, {"sum size", []api.Token{tok(n, 0, "sum"), tok(n, 4, "size")}}, {"a_9b#x\ny", []api.Token{tok(n, 0, "a_9b"), tok(n, 7, "y")}},
		{"<==", []api.Token{tok(s, 0, "<="), tok(s, 2, "=")}}, {"===", []api.Token{tok(s, 0, "=="), tok(s, 2, "=")}}, {"=<", []api.Token{tok(s, 0, "="), tok(s, 1, "<")}}, {"< =", []api.Token{tok(s, 0, "<"), tok(s, 2, "=")}}, {"!=", []api.Token{tok(s, 0, "!"), tok(s, 1, "=")}},
		{"abcdefghijklmnop", []api.Token{tok(n, 0, "abcdefghijklmnop")}}, {strings.Repeat("7", 40), []api.Token{tok(d, 0, strings.Repeat("7", 40))}}, {"a\r\nb\tc", []api.Token{tok(n, 0, "a"), tok(n, 3, "b"), tok(n, 5, "c")}},
	} {
		got, at, err := lexer.Tokenize(x.text)
		if !slices.Equal(got, x.want) || at != 0 || err != api.OK {
			t.Errorf("Tokenize(%q) = %v, %d, %v", x.text, got, at, err)
		}
	}
	for _, c := range "()[]{},;:+-*/<=&|!.@" {
		got, _, err := lexer.Tokenize("x" + string(c))
		if err != api.OK || len(got) != 2 || got[1] != tok(s, 1, string(c)) {
			t.Errorf("symbol %c: %v, %v", c, got, err)
		}
	}
}

func TestTokenizeErrors(t *testing.T) {
	for _, x := range []struct {
		text string
		at   int
		err  api.Errno
	}{
		{"x >", 2, api.ErrSyntax}, {"A", 0, api.ErrSyntax}, {"_a", 0, api.ErrSyntax}, {"a\"", 1, api.ErrSyntax}, {"a\x00", 1, api.ErrSyntax}, {"é", 0, api.ErrSyntax}, {"aé", 1, api.ErrSyntax}, {"a\v", 1, api.ErrSyntax}, {"a\f", 1, api.ErrSyntax}, {"\xff", 0, api.ErrSyntax}, {"a~", 1, api.ErrSyntax},
		{"b abcdefghijklmnopq", 2, api.ErrLimit}, {"abcdefghijklmnopq >", 0, api.ErrLimit}, {"> abcdefghijklmnopq", 0, api.ErrSyntax}, {"1abcdefghijklmnopq", 1, api.ErrLimit}, {"abcdefghijklmnoA", 15, api.ErrSyntax},
		{strings.Repeat(" ", api.MaxText+1), 0, api.ErrLimit}, {">" + strings.Repeat(" ", api.MaxText), 0, api.ErrLimit}, {strings.Repeat(" ", api.MaxText-1) + ">", api.MaxText - 1, api.ErrSyntax},
	} {
		if got, at, err := lexer.Tokenize(x.text); len(got) != 0 || at != x.at || err != x.err {
			t.Errorf("Tokenize(%.20q) = %v, %d, %v", x.text, got, at, err)
		}
	}
	if got, at, err := lexer.Tokenize(strings.Repeat("+", api.MaxText)); len(got) != api.MaxText || at != 0 || err != api.OK {
		t.Error(len(got), at, err)
	}
}

func TestJoin(t *testing.T) {
	for _, text := range []string{"a[i+1]<=03 # end", "size n;in a:frac[n];#x\n def s:frac[]=sum i<n:a[i];out s;", "", "! = < == <= @ ."} {
		l, _, err := lexer.Tokenize(text)
		again, _, err2 := lexer.Tokenize(lexer.Join(l))
		if err != api.OK || err2 != api.OK || len(l) != len(again) {
			t.Fatalf("%q: %v, %v", text, l, again)
		}
		end := 0
		for i, x := range l {
			if x.Kind != again[i].Kind || x.Text != again[i].Text {
				t.Errorf("%q: token %d is %v and then %v", text, i, x, again[i])
			}
			if x.At < end || text[x.At:x.At+len(x.Text)] != x.Text {
				t.Errorf("%q: %v does not stand there", text, x)
			}
			between, _, err := lexer.Tokenize(text[end:x.At])
			if err != api.OK || len(between) != 0 {
				t.Errorf("%q: %q stands between tokens", text, text[end:x.At])
			}
			end = x.At + len(x.Text)
		}
	}
	if got := lexer.Join([]api.Token{tok(99, -5, "? x"), tok(0, 0, ""), tok(0, 0, "y")}); got != "? x  y" {
		t.Errorf("%q", got)
	}
	l, _, _ := lexer.Tokenize("a[i+1]<=03 # end")
	if lexer.Join(l) != "a [ i + 1 ] <= 03" || lexer.Join(nil) != "" {
		t.Error("Join")
	}
}

func TestNames(t *testing.T) {
	keywords := strings.Fields("size where in def out sum prod min max scan over if cast frac int fix ceil floor zero even sat wrap")
	for _, s := range keywords {
		if !lexer.IsKeyword(s) || lexer.IsName(s) {
			t.Errorf("%s is a keyword", s)
		}
	}
	for _, s := range []string{"a", "z", "a0", "a_", "sums", "abcdefghijklmnop", "even1", "i_j"} {
		if lexer.IsKeyword(s) || !lexer.IsName(s) {
			t.Errorf("%s is an identifier", s)
		}
	}
	for _, s := range []string{"", "A", "aB", "_a", "1a", "a-b", "a ", " a", "é", "aé", "abcdefghijklmnopq", "a\x00", "SUM"} {
		if lexer.IsKeyword(s) || lexer.IsName(s) {
			t.Errorf("%q is neither a keyword nor an identifier", s)
		}
	}
}
