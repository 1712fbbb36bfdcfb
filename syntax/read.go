package syntax

import "rummage/api"

// reader holds one token at a time: the next is looked at only when the one
// at hand has been taken, so that the first fault is the one that is told.
type reader struct {
	text  string
	now   token
	open  int // nots and brackets (not those of an "in") about the token at hand
	fault api.Errno
}

// Read tells what a filter's text says, or the error and its place (P3).
func Read(text string) (Tree, api.Errno, int) {
	if len(text) > api.MaxFilter {
		return Tree{}, api.ErrLong, 0
	}
	r := &reader{text: text, now: tokenFrom(text, 0)}
	tree, ok := r.whole()
	if !ok {
		return Tree{}, r.fault, r.now.at
	}
	return tree, api.OK, 0
}

// refuse notes that the token at hand may not stand where it stands.
func (r *reader) refuse(fault api.Errno) (Tree, bool) {
	r.fault = fault
	return Tree{}, false
}

// take goes on to the next token, and gives the one that was at hand.
func (r *reader) take() token {
	t := r.now
	r.now = tokenFrom(r.text, t.at+len(t.text))
	return t
}

// takeIf takes the token at hand if it is this one.
func (r *reader) takeIf(text string) bool {
	if r.now.text != text {
		return false
	}
	r.take()
	return true
}

func (r *reader) whole() (Tree, bool) {
	tree, ok := r.filter()
	if ok && r.now.kind != end {
		return r.refuse(api.ErrText)
	}
	return tree, ok
}

func (r *reader) filter() (Tree, bool) {
	return r.chain(Or, "or", r.all)
}

func (r *reader) all() (Tree, bool) {
	return r.chain(And, "and", r.part)
}

// chain reads links with the joint between each two.
func (r *reader) chain(kind Kind, joint string, link func() (Tree, bool)) (Tree, bool) {
	var parts []Tree
	for {
		part, ok := link()
		if !ok {
			return Tree{}, false
		}
		parts = append(parts, part)
		if !r.takeIf(joint) {
			return join(kind, parts), true
		}
	}
}

func (r *reader) part() (Tree, bool) {
	switch r.now.text {
	case "not":
		return r.stepDown(r.negation)
	case "(":
		return r.stepDown(r.bracket)
	}
	return r.test()
}

// stepDown notes the not or the bracket at hand as open while inner reads it.
// The defer takes the step back however inner ends.
func (r *reader) stepDown(inner func() (Tree, bool)) (Tree, bool) {
	if r.open == api.MaxDepth {
		return r.refuse(api.ErrDeep)
	}
	r.open++
	defer func() { r.open-- }()
	r.take()
	return inner()
}

// negation reads what stands behind a not.
func (r *reader) negation() (Tree, bool) {
	part, ok := r.part()
	if !ok {
		return Tree{}, false
	}
	return Tree{Kind: Not, Parts: []Tree{part}}, true
}

// bracket reads what stands behind an opening bracket, and the closing one.
func (r *reader) bracket() (Tree, bool) {
	tree, ok := r.filter()
	if ok && !r.takeIf(")") {
		return r.refuse(api.ErrText)
	}
	return tree, ok
}

func (r *reader) test() (Tree, bool) {
	if !r.now.isName() {
		return r.refuse(api.ErrText)
	}
	name := r.take()
	read := r.afterName()
	if read == nil {
		return r.refuse(api.ErrText)
	}
	operator := r.take()
	literals, ok := read()
	if !ok {
		return r.refuse(api.ErrText)
	}
	return Tree{
		Kind: Test,
		Name: name.text, NameAt: name.at,
		Operator: operator.text, OperatorAt: operator.at,
		Literals: literals,
	}, true
}

// afterName picks, by the token at hand, how a test goes on behind it; nil if
// no test goes on so.
func (r *reader) afterName() func() ([]Literal, bool) {
	switch r.now.text {
	case "in":
		return r.list
	case "like":
		return r.prefix
	case "is":
		return r.null
	}
	if r.now.compares() {
		return r.single
	}
	return nil
}

// list reads the brackets of an "in", and the literals between them.
func (r *reader) list() ([]Literal, bool) {
	if !r.takeIf("(") {
		return nil, false
	}
	var literals []Literal
	for {
		literal, ok := r.literal()
		if !ok {
			return nil, false
		}
		literals = append(literals, literal)
		if !r.takeIf(",") {
			return literals, r.takeIf(")")
		}
	}
}

func (r *reader) prefix() ([]Literal, bool) {
	if r.now.kind != quoted {
		return nil, false
	}
	return r.single()
}

func (r *reader) null() ([]Literal, bool) {
	return nil, r.takeIf("null")
}

func (r *reader) single() ([]Literal, bool) {
	literal, ok := r.literal()
	if !ok {
		return nil, false
	}
	return []Literal{literal}, true
}

func (r *reader) literal() (Literal, bool) {
	if r.now.kind != number && r.now.kind != quoted {
		return Literal{}, false
	}
	t := r.take()
	return Literal{Value: t.value(), At: t.at}, true
}
