package message

import (
	"glebe/api"
	"glebe/entry"
	"glebe/point"
	"glebe/wire"
)

// writing: a visitor that writes. Whether what it is shown may be is not asked here, since all of it is read again.
type writing struct {
	content []byte
}

// put: what a layer below writes; nothing of what may not be.
func (w *writing) put(b []byte, _ api.Errno) { w.content = append(w.content, b...) }

func (w *writing) num(n *int) { w.put(wire.Num(*n)) }

func (w *writing) call(o *point.Op) { w.put(point.PutOp(*o)) }

func (w *writing) answer(a *point.Ans) { w.put(point.PutAns(*a)) }

func (w *writing) record(r *point.Rec) { w.put(point.PutRec(*r)) }

func (w *writing) chain(l *[]int) { w.put(entry.PutChain(*l)) }

func (w *writing) entry(e *entry.Entry) { w.put(entry.Put(*e)) }

// state: a text, but of any length, since a message may be and have too many bytes.
func (w *writing) state(b *[]byte) {
	w.put(wire.Num(len(*b)))
	w.put(*b, api.OK)
}

func (w *writing) must(bool) {}

// reading: a visitor that reads.
type reading struct {
	from *wire.Reader
}

func (r reading) num(n *int) { *n = r.from.Num() }

func (r reading) call(o *point.Op) { *o = point.TakeOp(r.from) }

func (r reading) answer(a *point.Ans) { *a = point.TakeAns(r.from) }

func (r reading) record(x *point.Rec) { *x = point.TakeRec(r.from) }

func (r reading) chain(l *[]int) { *l = entry.TakeChain(r.from) }

func (r reading) entry(e *entry.Entry) { *e = entry.Take(r.from) }

func (r reading) state(b *[]byte) { *b = []byte(r.from.Text(api.MaxNum)) }

func (r reading) must(so bool) {
	if !so {
		r.from.Fail(api.ErrForm)
	}
}

// read: the message of that kind that the content is, all of it, if it may be.
func read(kind int, content []byte) (Msg, bool) {
	m := Msg{Kind: kind}
	from := wire.Open(content)
	visit(reading{from}, &m)
	return m, from.Done() == api.OK
}

// written: the message's content, if it may be: if it is the same when it is read again. One that has what its Kind does not name is not, since that is not written.
func written(m Msg) ([]byte, bool) {
	var w writing
	shown := m
	visit(&w, &shown)
	again, right := read(m.Kind, w.content)
	return w.content, right && Same(m, again)
}

// Put: a message as bytes.
func Put(m Msg) ([]byte, api.Errno) {
	content, right := written(m)
	if !right {
		return nil, api.ErrArg
	}
	return wire.Frame(m.Kind, content)
}

// Get: the message that the bytes are.
func Get(b []byte) (Msg, api.Errno) {
	kind, content, e := wire.Unframe(b)
	if e != api.OK {
		return Msg{}, e
	}
	m, right := read(kind, content)
	if !right {
		return Msg{}, api.ErrForm
	}
	return m, api.OK
}
