package store

import (
	"disjoint/api"
	"disjoint/rowcodec"
)

// numberSize is the number of bytes of a number.
const numberSize = 8

func appendRow(b []byte, r api.Row) []byte {
	e := rowcodec.EncodeRow(r)
	b = append(b, rowcodec.Number(int64(len(e)))...)
	return append(b, e...)
}

// Encode returns the encoding of a store.
func (s *Store) Encode() []byte {
	var b []byte
	for _, t := range s.tables {
		b = append(b, rowcodec.Number(t.Next())...)
		b = append(b, rowcodec.Number(int64(t.Len()))...)
		for id, r := range t.All() {
			b = append(b, rowcodec.Number(id)...)
			b = appendRow(b, r)
		}
	}
	return b
}

// EncodeChanges returns the encoding of changes.
func EncodeChanges(l []api.Change) []byte {
	b := []byte(rowcodec.Number(int64(len(l))))
	for _, c := range l {
		if !validRow(c.Old) || !validRow(c.New) {
			return nil
		}
		b = append(b, rowcodec.Number(int64(c.Table))...)
		b = append(b, rowcodec.Number(c.ID)...)
		b = appendRow(b, c.Old)
		b = appendRow(b, c.New)
	}
	return b
}

// decoder reads an encoding. After an error, it reads nothing more.
type decoder struct {
	b      []byte
	failed bool
}

// number reads a number.
func (d *decoder) number() int64 {
	if d.failed || len(d.b) < numberSize {
		d.failed = true
		return 0
	}
	n, _ := rowcodec.ParseNumber(string(d.b[:numberSize]))
	d.b = d.b[numberSize:]
	return n
}

// row reads the bytes of a row.
func (d *decoder) row() api.Row {
	n := d.number()
	if d.failed || n < 0 || n > int64(len(d.b)) {
		d.failed = true
		return nil
	}
	r, e := rowcodec.DecodeRow(d.b[:n])
	d.failed = e != api.OK
	d.b = d.b[n:]
	return r
}

// done reports whether everything was read without an error.
func (d *decoder) done() bool { return !d.failed && len(d.b) == 0 }

// Decode returns the store of an encoding.
func Decode(schema api.Schema, b []byte) (*Store, api.Errno) {
	s := New(schema)
	d := &decoder{b: b}
	for table := range s.tables {
		s.decodeTable(table, d)
	}
	if !d.done() {
		return nil, api.ErrSyntax
	}
	return s, api.OK
}

// decodeTable reads the rows of a table.
func (s *Store) decodeTable(table int, d *decoder) {
	next, count := d.number(), d.number()
	if next < 1 || next > maxNumber+1 || count < 0 {
		d.failed = true
		return
	}
	s.setNext(table, next)
	last := int64(0)
	for range count {
		id, r := d.number(), d.row()
		if d.failed || id <= last || id >= next || !s.storable(table, r) {
			d.failed = true
			return
		}
		s.tables[table].Put(id, r)
		last = id
	}
}

// DecodeChanges returns the changes of an encoding.
func DecodeChanges(b []byte) ([]api.Change, api.Errno) {
	d := &decoder{b: b}
	count := d.number()
	var l []api.Change
	for i := int64(0); i < count && !d.failed; i++ {
		l = append(l, api.Change{Table: int(d.number()), ID: d.number(), Old: d.row(), New: d.row()})
	}
	if count < 0 || !d.done() {
		return nil, api.ErrSyntax
	}
	return l, api.OK
}
