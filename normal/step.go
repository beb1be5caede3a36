package normal

import (
	"splicery/api"
	"splicery/eval"
)

// normalForm returns the normal form of an expression.
func normalForm(e api.Expr) *node {
	t, root := grow(e)
	return t.normal(root)
}

// normal returns the normal form of a node.
func (t *tree) normal(x *node) *node {
	for i, kid := range x.kids {
		x.attach(i, t.normal(kid))
	}
	return t.settle(x)
}

// settle returns the normal form of a node whose kids are normal.
func (t *tree) settle(x *node) *node {
	switch {
	case x.kind == api.NOp:
		return settleOp(x)
	case x.kind == api.NIf && len(x.kids) == 3:
		return settleIf(x)
	case x.kind == api.NLet && len(x.kids) == 2:
		return t.settleLet(x)
	case x.kind == api.NField && len(x.kids) == 1:
		return settleField(x)
	case x.kind == api.NMatch && len(x.kids) > 0:
		return t.settleMatch(x)
	}
	return x
}

// settleOp is settle for an operation.
func settleOp(x *node) *node {
	if literal := x.calculated(); literal != nil {
		return literal
	}
	switch {
	case len(x.kids) == 2:
		return settlePair(x, x.kids[0], x.kids[1])
	case len(x.kids) == 1 && x.n == api.Not:
		if inner := x.kids[0]; inner.kind == api.NOp && inner.n == api.Not && len(inner.kids) == 1 {
			return inner.kids[0]
		}
	}
	return x
}

// settlePair is settle for an operation with two kids that are not both literals.
func settlePair(x, a, b *node) *node {
	switch {
	case (x.n == api.And || x.n == api.Or) && a.kind == api.NBool:
		return x.decided(a, b)
	case (x.n == api.And || x.n == api.Or) && b.kind == api.NBool:
		return x.decided(b, a)
	case x.n == api.Add && a.is(0), x.n == api.Mul && a.is(1):
		return b
	case x.n == api.Add && b.is(0), x.n == api.Sub && b.is(0), x.n == api.Mul && b.is(1):
		return a
	case commutes(x.n) && compare(b, a) < 0:
		x.attach(0, b)
		x.attach(1, a)
	}
	return x
}

// calculated returns the value of an operation whose kids are literals, as a literal; otherwise nil.
func (x *node) calculated() *node {
	for _, kid := range x.kids {
		if !kid.isLiteral() {
			return nil
		}
	}
	l := make([]api.Value, len(x.kids))
	for i, kid := range x.kids {
		l[i] = api.Value{Kind: api.VInt, N: kid.n}
		if kid.kind == api.NBool {
			l[i].Kind = api.VBool
		}
	}
	switch v := eval.Op(x.n, l); v.Kind {
	case api.VInt:
		return x.literal(api.NInt, v.N)
	case api.VBool:
		return x.literal(api.NBool, v.N)
	}
	return nil // the operation is not one of numbers or truth values
}

// isLiteral reports whether a node is a number or a truth value.
func (x *node) isLiteral() bool { return x.kind == api.NInt || x.kind == api.NBool }

// literal returns a literal that takes the place of a node.
func (x *node) literal(kind, n int) *node { return &node{kind: kind, n: n, id: x.id} }

// is reports whether a node is the number n.
func (x *node) is(n int) bool { return x.kind == api.NInt && x.n == n }

// decided returns the normal form of And or Or, one of whose kids is a literal: the other kid, unless the literal decides the result.
func (x *node) decided(literal, other *node) *node {
	decides := 0
	if x.n == api.Or {
		decides = 1
	}
	if literal.n != decides {
		return other
	}
	other.drop(nil)
	return x.literal(api.NBool, decides)
}

// commutes reports whether the operands of an operation can be exchanged.
func commutes(op int) bool {
	switch op {
	case api.Add, api.Mul, api.Same, api.And, api.Or:
		return true
	}
	return false
}

// settleIf is settle for a condition.
func settleIf(x *node) *node {
	then := x.kids[1]
	switch c := x.kids[0]; {
	case c.kind == api.NBool && c.n == 0:
		return x.only(x.kids[2])
	case c.kind == api.NBool, compare(then, x.kids[2]) == 0:
		return x.only(then)
	}
	return x
}

// only returns a node below x, and forgets all others.
func (x *node) only(kept *node) *node {
	x.drop(kept)
	return kept
}

// settleLet is settle for a NLet.
func (t *tree) settleLet(x *node) *node {
	a, b := x.kids[0], x.kids[1]
	switch {
	case x.count == 0:
		a.drop(nil)
		return b
	case a.isLiteral(), a.kind == api.NVar:
		b = t.replace(x, 0, a, b)
		a.drop(nil) // behind the replacement, which names what binds it
		return b
	}
	return x
}

// settleField is settle for a NField.
func settleField(x *node) *node {
	if rec := x.kids[0]; rec.kind == api.NRec && x.n >= 0 && x.n < len(rec.kids) {
		return x.only(rec.kids[x.n])
	}
	return x
}

// settleMatch is settle for a NMatch: of a NCase it becomes a NLet.
func (t *tree) settleMatch(x *node) *node {
	c := x.kids[0]
	if c.kind != api.NCase || len(c.kids) != 1 || c.n < 0 || c.n >= len(x.kids)-1 {
		return x
	}
	held, branch := c.kids[0], x.kids[1+c.n]
	for _, kid := range x.kids[1:] {
		kid.drop(branch)
	}
	let := &node{kind: api.NLet, id: x.id, kids: make([]*node, 2)}
	if c.n < len(x.names) {
		let.names = x.names[c.n : c.n+1]
	}
	if t.shared[x.id] && x.meets(branch) {
		let.id = t.fresh()
	}
	let.attach(0, held)
	let.attach(1, t.replace(x, c.n, &node{kind: api.NVar, binder: let}, branch))
	return t.settle(let)
}
