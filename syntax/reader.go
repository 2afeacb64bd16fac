package syntax

import "warp/api"

// words are those of a text that are still to be read.
type words struct {
	left []api.Tok
	end  api.Pos
}

// misfit is the place of a word that can't stand there.
type misfit struct{ api.Pos }

// next tells the word that is next. Behind the last one it is of no kind, at the text's end: so words that end too soon are refused there.
func (w *words) next() api.Tok {
	if len(w.left) == 0 {
		return api.Tok{Pos: w.end}
	}
	return w.left[0]
}

// refuse gives up at the next word.
func (w *words) refuse() { panic(misfit{w.next().Pos}) }

// take goes on behind the next word, if it is that keyword or sign.
func (w *words) take(text string) bool {
	if w.next().Text != text {
		return false
	}
	w.left = w.left[1:]
	return true
}

// want goes on behind the next word, which must be that keyword or sign.
func (w *words) want(text string) {
	if !w.take(text) {
		w.refuse()
	}
}

// of goes on behind the next word, which must be of that kind.
func (w *words) of(kind api.TokKind) api.Tok {
	t := w.next()
	if t.Kind != kind {
		w.refuse()
	}
	w.left = w.left[1:]
	return t
}

func (w *words) name() string { return w.of(api.TokName).Text }

func (w *words) number() int64 { return w.of(api.TokNumber).Num }

// reader makes trees of the words that it embeds.
type reader struct {
	words
	forms map[string]func(*reader) api.Stmt
}

func (r *reader) program() []api.Decl {
	var l []api.Decl
	for r.next().Kind != api.TokNone {
		l = append(l, r.decl())
	}
	return l
}

func (r *reader) decl() api.Decl {
	d := api.Decl{Pos: r.next().Pos, Kind: r.declKind()}
	d.Name = r.name()
	switch d.Kind {
	case api.DeclVar:
		d.Num = r.start()
	case api.DeclArray, api.DeclChan:
		d.Num = r.number()
	case api.DeclThread:
		d.Body = r.block()
		return d
	}
	r.want(";")
	return d
}

func (r *reader) declKind() api.DeclKind {
	for k := api.DeclVar; k <= api.DeclThread; k++ {
		if r.take(declWords[k]) {
			return k
		}
	}
	r.refuse()
	return api.DeclNone
}

// start reads what a variable begins with.
func (r *reader) start() int64 {
	r.want("=")
	if r.take("-") {
		return -r.number()
	}
	return r.number()
}

func (r *reader) block() []api.Stmt {
	r.want("{")
	var l []api.Stmt
	for !r.take("}") {
		l = append(l, r.stmt())
	}
	return l
}

func (r *reader) stmt() api.Stmt {
	first := r.next()
	read := (*reader).assignment
	if first.Kind == api.TokWord {
		if read = r.forms[first.Text]; read == nil {
			r.refuse()
		}
		r.take(first.Text)
	}
	s := read(r)
	s.Pos = first.Pos
	return s
}
