package rowcodec

import (
	"bytes"
	"math"
	"math/rand"
	"reflect"
	"strings"
	"testing"

	"disjoint/api"
	"disjoint/value"
)

var null = api.Value{}

var ascending = []api.Value{null, value.Int(math.MinInt64), value.Int(-256), value.Int(-1), value.Int(0), value.Int(1), value.Int(255), value.Int(256), value.Int(math.MaxInt64), value.Text(""), value.Text(" "), value.Text("a"), value.Text("a "), value.Text("aa"), value.Text("ab"), value.Text("b"), value.Text("~"), value.Text("~~~~~~~~~~~~~~~~")}

func TestEncode(t *testing.T) {
	for _, c := range []struct {
		v    api.Value
		want string
	}{
		{null, "\x01"}, {value.Int(-1), "\x02\x7f\xff\xff\xff\xff\xff\xff\xff"}, {value.Int(258), "\x02\x80\x00\x00\x00\x00\x00\x01\x02"}, {value.Int(math.MinInt64), "\x02\x00\x00\x00\x00\x00\x00\x00\x00"},
		{value.Text("ab"), "\x03ab\x00"}, {value.Text(""), "\x03\x00"},
		{value.Text("\x00a\x01\x02"), "\x03\x01\x01a\x01\x02\x02\x00"}, {value.Text("\xff"), "\x03\xff\x00"},
		{api.Value{Kind: 3, Int: 5, Text: "a"}, "\x01"}, {api.Value{Kind: -1}, "\x01"}, {api.Value{Int: 4, Text: "x"}, "\x01"},
		{api.Value{Kind: api.Integer, Int: -1, Text: "a"}, "\x02\x7f\xff\xff\xff\xff\xff\xff\xff"}, {api.Value{Kind: api.Text, Int: 3, Text: "a"}, "\x03a\x00"},
	} {
		if got := string(Encode(c.v)); got != c.want {
			t.Errorf("Encode(%v) = %q", c.v, got)
		}
		if got := string(EncodeRow(api.Row{value.Int(0), c.v, null})); got != "\x02\x80\x00\x00\x00\x00\x00\x00\x00"+c.want+"\x01" {
			t.Errorf("EncodeRow with %v = %q", c.v, got)
		}
	}
	if len(EncodeRow(nil)) != 0 {
		t.Error("EncodeRow(nil)")
	}
}

func TestOrder(t *testing.T) {
	r := rand.New(rand.NewSource(6))
	rows := []api.Row{nil}
	for range 300 {
		row := make(api.Row, r.Intn(4))
		for i := range row {
			row[i] = ascending[r.Intn(len(ascending))]
		}
		rows = append(rows, row)
	}
	for _, v := range ascending {
		rows = append(rows, api.Row{v})
	}
	for _, a := range rows {
		for _, b := range rows {
			if bytes.Compare(EncodeRow(a), EncodeRow(b)) != value.CompareRows(a, b) {
				t.Fatalf("the order of %v and %v", a, b)
			}
		}
		if back, e := DecodeRow(EncodeRow(a)); e != api.OK || value.CompareRows(back, a) != 0 {
			t.Fatalf("DecodeRow of %v = %v, %d", a, back, e)
		}
	}
	for i, a := range ascending {
		for j, b := range ascending {
			if i != j && strings.HasPrefix(string(Encode(a)), string(Encode(b))) {
				t.Errorf("the encoding of %v is a prefix of that of %v", b, a)
			}
		}
	}
}

func TestDecodeErrors(t *testing.T) {
	for _, s := range []string{"\x00", "\x04", "\xff", "\x02", "\x02\x00\x00\x00\x00\x00\x00\x00", "\x03", "\x03a", "\x03\n\x00", "\x03\x7f\x00", "\x03\x01\x01\x00", "\x03\x01\x02\x00", "\x03seventeen letters\x00", "\x01\x00", "\x03\x00\x00", "\x01\x03a"} {
		if r, e := DecodeRow([]byte(s)); r != nil || e != api.ErrSyntax {
			t.Errorf("DecodeRow(%q) = %v, %d", s, r, e)
		}
	}
	if r, e := DecodeRow(nil); len(r) != 0 || e != api.OK {
		t.Errorf("DecodeRow of nothing = %v, %d", r, e)
	}
	b := []byte("\x03ab\x00")
	r, _ := DecodeRow(b)
	b[1] = 'x'
	if !reflect.DeepEqual(r, api.Row{value.Text("ab")}) {
		t.Error("DecodeRow shares memory with its argument")
	}
}

func TestKey(t *testing.T) {
	r := api.Row{value.Int(1), value.Text("a"), null}
	join := func(l ...api.Value) string { return string(EncodeRow(api.Row(l))) }
	for _, c := range []struct {
		columns []int
		want    string
	}{{nil, ""}, {[]int{1}, join(r[1])}, {[]int{1, 0, 1}, join(r[1], r[0], r[1])}, {[]int{2, 3, -1, 0}, join(null, null, null, r[0])}, {[]int{math.MinInt, math.MaxInt}, "\x01\x01"}} {
		if got := Key(r, c.columns); got != c.want {
			t.Errorf("Key(%v) = %q", c.columns, got)
		}
	}
}

func TestEnd(t *testing.T) {
	for _, c := range []struct {
		prefix, want string
		ok           bool
	}{{"a\xff", "b", true}, {"a", "b", true}, {"ab\xff\xff", "ac", true}, {"\x00", "\x01", true}, {"\xfe", "\xff", true}, {"\xff\x00\xff", "\xff\x01", true}, {"", "", false}, {"\xff", "", false}, {"\xff\xff", "", false}} {
		if got, ok := End(c.prefix); got != c.want || ok != c.ok {
			t.Errorf("End(%q) = %q, %v", c.prefix, got, ok)
		}
	}
}

func TestNumber(t *testing.T) {
	for n, want := range map[int64]string{-1: "\x7f\xff\xff\xff\xff\xff\xff\xff", 0: "\x80\x00\x00\x00\x00\x00\x00\x00", math.MaxInt64: "\xff\xff\xff\xff\xff\xff\xff\xff", math.MinInt64: "\x00\x00\x00\x00\x00\x00\x00\x00", 0x0102030405060708: "\x81\x02\x03\x04\x05\x06\x07\x08"} {
		if Number(n) != want {
			t.Errorf("Number(%d) = %q", n, Number(n))
		}
		if m, e := ParseNumber(want); m != n || e != api.OK {
			t.Errorf("ParseNumber(%q) = %d, %d", want, m, e)
		}
	}
	for _, s := range []string{"", "1234567", "123456789"} {
		if m, e := ParseNumber(s); m != 0 || e != api.ErrSyntax {
			t.Errorf("ParseNumber(%q) = %d, %d", s, m, e)
		}
	}
}
