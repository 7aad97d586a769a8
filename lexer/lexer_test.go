package lexer

import (
	"math/rand"
	"slices"
	"strings"
	"testing"

	"disjoint/api"
)

const keywords = "AND AS ASC BEGIN BETWEEN BY CHECK COMMIT COUNT CREATE DELETE DESC FOREIGN FROM GROUP IN INSERT INTEGER INTO IS JOIN KEY LENGTH LIKE LIMIT MAX MIN NOT NULL ON OR ORDER PRIMARY REFERENCES RELEASE ROLLBACK SAVEPOINT SELECT SET SUM TABLE TEXT TO UNIQUE UPDATE VALUES WHERE"

const symbols = "<> <= >= ( ) , ; . * + - / % = < >"

func TestExample(t *testing.T) {
	l, pos, e := Tokens("SELECT a.B<=-7 -- x")
	want := []Token{{Keyword, "SELECT", 0}, {Word, "a", 7}, {Symbol, ".", 8}, {Word, "b", 9}, {Symbol, "<=", 10}, {Symbol, "-", 12}, {Number, "7", 13}, {End, "", 19}}
	if !slices.Equal(l, want) || pos != 0 || e != api.OK {
		t.Errorf("Tokens = %v, %d, %d", l, pos, e)
	}
}

// single checks that s is one token.
func single(t *testing.T, s string, kind int, text string) {
	t.Helper()
	l, pos, e := Tokens(s)
	if !slices.Equal(l, []Token{{kind, text, 0}, {End, "", len(s)}}) || pos != 0 || e != api.OK {
		t.Errorf("Tokens(%q) = %v, %d, %d", s, l, pos, e)
	}
}

func TestWords(t *testing.T) {
	for _, k := range strings.Fields(keywords) {
		for _, s := range []string{k, strings.ToLower(k), k[:1] + strings.ToLower(k[1:])} {
			single(t, s, Keyword, k)
			if !IsKeyword(s) || IsName(s) {
				t.Errorf("%s is not a keyword", s)
			}
		}
		for _, s := range []string{k + "x", "x" + k, k + "_", k + "0"} {
			single(t, s, Word, strings.ToLower(s))
			if IsKeyword(s) {
				t.Errorf("%s is a keyword", s)
			}
		}
	}
	for _, s := range []string{"a", "Z", "aB_9_", "a_", "abcdefghijklmnopqrstuvwx", "ABCDEFGHIJKLMNOPQRSTUVWX"} {
		single(t, s, Word, strings.ToLower(s))
	}
	for _, s := range []string{"", "AND ", "ALTER", "\u017felect", "Nu\u0131l", "i\u017f", "\u212aEY", "AN", "\xff"} {
		if IsKeyword(s) {
			t.Errorf("%q is a keyword", s)
		}
	}
}

func TestNames(t *testing.T) {
	for _, s := range []string{"a", "z", "a0", "a_", "abcdefghijklmnopqrstuvwx", "selected", "is_"} {
		if !IsName(s) {
			t.Errorf("%q is not a name", s)
		}
	}
	for _, s := range []string{"", "A", "aB", "0a", "_a", "abcdefghijklmnopqrstuvwxy", "a b", "a-b", "a.b", "é", "aé", "`", "{", "a`", "a{", "a/", "a:", "select", "key"} {
		if IsName(s) {
			t.Errorf("%q is a name", s)
		}
	}
}

func TestNumbersAndSymbols(t *testing.T) {
	for _, s := range []string{"0", "1", "9", "10", "2147483647", "2147483648", "999999999"} {
		single(t, s, Number, s)
	}
	for _, s := range strings.Fields(symbols) {
		single(t, s, Symbol, s)
	}
	l, _, e := Tokens("<<=>=<>><==>;")
	want := []string{"<", "<=", ">=", "<>", ">", "<=", "=", ">", ";", ""}
	if len(l) != len(want) || e != api.OK {
		t.Fatalf("symbols: %v, %d", l, e)
	}
	for i, w := range want {
		if l[i].Text != w {
			t.Errorf("symbol %d is %q", i, l[i].Text)
		}
	}
}

func TestStrings(t *testing.T) {
	for text, s := range map[string]string{"": "''", "a": "'a'", "it's": "'it''s'", "'": "''''", "''": "''''''", " ~": "' ~'", "sixteen letters!": "'sixteen letters!'", "''''''''''''''''": "'" + strings.Repeat("''", 16) + "'", "--": "'--'"} {
		single(t, s, String, text)
		if Quote(text) != s {
			t.Errorf("Quote(%q) = %q", text, Quote(text))
		}
		if u, e := Unquote(s); u != text || e != api.OK {
			t.Errorf("Unquote(%q) = %q, %d", s, u, e)
		}
	}
	for _, s := range []string{"", "a", "'", "'a", "a'", "'a'b'", "'a' ", " 'a'", "''a", "'''", "'a''", "'\n'", "'\x7f'", "'é'", "'seventeen letters'", "'a'--"} {
		if u, e := Unquote(s); u != "" || e != api.ErrSyntax {
			t.Errorf("Unquote(%q) = %q, %d", s, u, e)
		}
	}
	for _, s := range []string{"seventeen letters", "\n", "\x1f", "\x7f", "é", "\x00"} {
		if Quote(s) != "" {
			t.Errorf("Quote(%q) = %q", s, Quote(s))
		}
	}
	if l, _, e := Tokens("'a' 'b'''"); e != api.OK || len(l) != 3 || l[1].Text != "b'" || l[1].Pos != 4 {
		t.Errorf("two strings: %v, %d", l, e)
	}
}

func TestErrors(t *testing.T) {
	for _, c := range []struct {
		s   string
		pos int
		e   api.Errno
	}{
		{"a !", 2, api.ErrSyntax}, {"_a", 0, api.ErrSyntax}, {"a\r", 1, api.ErrSyntax}, {"\x00", 0, api.ErrSyntax}, {"é", 0, api.ErrSyntax}, {"a é", 2, api.ErrSyntax}, {"\"a\"", 0, api.ErrSyntax}, {"a\v", 1, api.ErrSyntax}, {"!=", 0, api.ErrSyntax}, {"[", 0, api.ErrSyntax}, {"@", 0, api.ErrSyntax}, {":", 0, api.ErrSyntax},
		{"  00", 2, api.ErrSyntax}, {"01", 0, api.ErrSyntax}, {"1a", 0, api.ErrSyntax}, {"1_", 0, api.ErrSyntax}, {"1Z", 0, api.ErrSyntax}, {"(12x", 1, api.ErrSyntax}, {"0x", 0, api.ErrSyntax},
		{"2147483649", 0, api.ErrTooLarge}, {"x 3000000000", 2, api.ErrTooLarge}, {"10000000000", 0, api.ErrTooLarge}, {"99999999999999999999999999", 0, api.ErrTooLarge}, {"99999999999999999999x", 0, api.ErrSyntax}, {"00000000000000000000", 0, api.ErrSyntax},
		{"'a", 0, api.ErrSyntax}, {"x'", 1, api.ErrSyntax}, {"'a''", 0, api.ErrSyntax}, {"'a\n'", 0, api.ErrSyntax}, {"'\t'", 0, api.ErrSyntax}, {"'\x7f'", 0, api.ErrSyntax},
		{"'seventeen letters'", 0, api.ErrTooLarge}, {"'seventeen letters", 0, api.ErrSyntax}, {"'seventeen letters\n'", 0, api.ErrSyntax}, {" '" + strings.Repeat("''", 17) + "'", 1, api.ErrTooLarge},
		{"abcdefghijklmnopqrstuvwxy", 0, api.ErrTooLarge}, {"a ABCDEFGHIJKLMNOPQRSTUVWX_ !", 2, api.ErrTooLarge},
		{"a ! 'x", 2, api.ErrSyntax}, {"3000000000 !", 0, api.ErrTooLarge},
		{strings.Repeat(" ", api.MaxSource+1), api.MaxSource, api.ErrTooLarge}, {"!" + strings.Repeat("a", api.MaxSource), api.MaxSource, api.ErrTooLarge},
	} {
		if l, pos, e := Tokens(c.s); l != nil || pos != c.pos || e != c.e {
			t.Errorf("Tokens(%.40q) = %v, %d, %d", c.s, l, pos, e)
		}
	}
}

func TestWhiteSpaceAndComments(t *testing.T) {
	for _, s := range []string{"", " ", "\t\n ", "--", "-- x", "-- \x00\xff é 'a", "--\n", " -- a\n -- b\n", "---", strings.Repeat(" ", api.MaxSource)} {
		l, pos, e := Tokens(s)
		if !slices.Equal(l, []Token{{End, "", len(s)}}) || pos != 0 || e != api.OK {
			t.Errorf("Tokens(%.20q) = %v, %d, %d", s, l, pos, e)
		}
	}
	l, _, e := Tokens("a--b\nc- -d")
	if want := []Token{{Word, "a", 0}, {Word, "c", 5}, {Symbol, "-", 6}, {Symbol, "-", 8}, {Word, "d", 9}, {End, "", 10}}; !slices.Equal(l, want) || e != api.OK {
		t.Errorf("comments: %v, %d", l, e)
	}
}

// bare returns tokens without offsets.
func bare(l []Token) []Token {
	l = slices.Clone(l)
	for i := range l {
		l[i].Pos = 0
	}
	return l
}

// White space between tokens does not change them, and the tokens of a concatenation are those of the parts.
func TestConcatenation(t *testing.T) {
	r := rand.New(rand.NewSource(15))
	parts := append(strings.Fields(keywords+" "+symbols), "a", "b9_", "0", "12", "''", "'a b'", "'--'", "'it''s'")
	spaces := []string{" ", "\t", "\n", "  ", "-- c\n", " --'\n\n"}
	for range 2000 {
		var tight, loose strings.Builder
		var want []Token
		for range r.Intn(10) {
			p := parts[r.Intn(len(parts))]
			single, _, _ := Tokens(p)
			want = append(want, single[0])
			tight.WriteString(p + " ")
			// A comment directly behind a minus sign would begin with it.
			loose.WriteString(p + "\n")
			for range r.Intn(3) {
				loose.WriteString(spaces[r.Intn(len(spaces))])
			}
		}
		want = append(bare(want), Token{})
		l, _, e := Tokens(tight.String())
		m, _, e2 := Tokens(loose.String())
		if e != api.OK || e2 != api.OK || !slices.Equal(bare(l), want) || !slices.Equal(bare(m), want) {
			t.Fatalf("%q and %q have the tokens %v and %v", tight.String(), loose.String(), l, m)
		}
		both, _, _ := Tokens(loose.String() + tight.String())
		if !slices.Equal(bare(both), append(bare(m)[:len(m)-1], bare(l)...)) {
			t.Fatalf("the tokens of a concatenation: %v", both)
		}
		for i, x := range m {
			if i > 0 && x.Pos <= m[i-1].Pos {
				t.Fatal("the offsets do not ascend")
			}
		}
	}
}
