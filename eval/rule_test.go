package eval_test

import (
	"math/big"
	"slices"

	"splicery/api"
)

// The rule: evaluation by the chapter's words, with environments that are never changed, errors that are returned, and numbers without bounds.

// bindingByRule is a variable with its value.
type bindingByRule struct {
	id    api.ID
	n     int
	value api.Value
}

// bodyByRule returns the first definition with an ID; false, if there is none, or if it has no body.
func bodyByRule(p api.Prog, id api.ID) (api.Def, bool) {
	for _, d := range p.Defs {
		if d.ID == id {
			return d, slices.Contains([]int{api.KFun, api.KOn, api.KTest, api.KConv}, d.Kind)
		}
	}
	return api.Def{}, false
}

// callByRule returns what Call returns for args of the right types.
func callByRule(p api.Prog, id api.ID, args []api.Value, fuel int) (api.Value, int, api.Errno) {
	d, ok := bodyByRule(p, id)
	if !ok {
		return api.Value{}, 0, api.ErrNone
	}
	return ended(fuel, func(left *int) (api.Value, api.Errno) { return nodeByRule(p, slotsByRule(d, args), d.Body, left) })
}

// exprByRule returns what Expr returns.
func exprByRule(p api.Prog, e api.Expr, fuel int) (api.Value, int, api.Errno) {
	return ended(fuel, func(left *int) (api.Value, api.Errno) { return nodeByRule(p, nil, e, left) })
}

func ended(fuel int, run func(left *int) (api.Value, api.Errno)) (api.Value, int, api.Errno) {
	fuel = max(fuel, 0)
	left := fuel
	v, code := run(&left)
	if code != api.OK {
		return api.Value{}, 0, code
	}
	return v, fuel - left, api.OK
}

func slotsByRule(d api.Def, args []api.Value) []bindingByRule {
	var l []bindingByRule
	for i, s := range d.Slots {
		l = append(l, bindingByRule{s.ID, 0, args[i]})
	}
	return l
}

func sizeByRule(v api.Value) int {
	n := 1
	for _, kid := range v.Kids {
		n += sizeByRule(kid)
	}
	return n
}

func depthByRule(v api.Value) int {
	n := 1
	for _, kid := range v.Kids {
		n = max(n, 1+depthByRule(kid))
	}
	return n
}

// nodeByRule evaluates a node, and checks its value, of whatever kind it is.
func nodeByRule(p api.Prog, l []bindingByRule, e api.Expr, left *int) (api.Value, api.Errno) {
	if *left == 0 {
		return api.Value{}, api.ErrFuel
	}
	*left--
	v, code := kindByRule(p, l, e, left)
	if code != api.OK {
		return api.Value{}, code
	}
	if sizeByRule(v) > 256 || depthByRule(v) > 24 {
		return api.Value{}, api.ErrLimit
	}
	return v, api.OK
}

func kindByRule(p api.Prog, l []bindingByRule, e api.Expr, left *int) (api.Value, api.Errno) {
	switch e.Kind {
	case api.NInt:
		return api.Value{Kind: api.VInt, N: e.N}, api.OK
	case api.NBool:
		return api.Value{Kind: api.VBool, N: e.N}, api.OK
	case api.NVar:
		for _, b := range slices.Backward(l) {
			if b.id == e.Ref && b.n == e.N {
				return b.value, api.OK
			}
		}
		return api.Value{}, api.ErrDead
	case api.NIf, api.NLet, api.NMatch, api.NFold:
		return someByRule(p, l, e, left)
	}
	var kids []api.Value
	for _, kid := range e.Kids {
		v, code := nodeByRule(p, l, kid, left)
		if code != api.OK {
			return api.Value{}, code
		}
		kids = append(kids, v)
	}
	switch e.Kind {
	case api.NOp:
		return opByRule(e.N, kids), api.OK
	case api.NRec:
		return api.Value{Kind: api.VRec, Kids: kids}, api.OK
	case api.NField:
		return kids[0].Kids[e.N], api.OK
	case api.NCase:
		return api.Value{Kind: api.VCase, N: e.N, Kids: kids}, api.OK
	case api.NList:
		return api.Value{Kind: api.VList, Kids: kids}, api.OK
	}
	d, ok := bodyByRule(p, e.Ref)
	if !ok {
		return api.Value{}, api.ErrNone
	}
	return nodeByRule(p, slotsByRule(d, kids), d.Body, left)
}

// someByRule evaluates a node of a kind that evaluates its kids with other variables, or not all of them.
func someByRule(p api.Prog, l []bindingByRule, e api.Expr, left *int) (api.Value, api.Errno) {
	first, code := nodeByRule(p, l, e.Kids[0], left)
	if code != api.OK {
		return api.Value{}, code
	}
	bound := func(more ...bindingByRule) []bindingByRule { return slices.Concat(l, more) }
	switch e.Kind {
	case api.NIf:
		return nodeByRule(p, l, e.Kids[2-first.N], left)
	case api.NLet:
		return nodeByRule(p, bound(bindingByRule{e.ID, 0, first}), e.Kids[1], left)
	case api.NMatch:
		return nodeByRule(p, bound(bindingByRule{e.ID, first.N, first.Kids[0]}), e.Kids[1+first.N], left)
	}
	v, code := nodeByRule(p, l, e.Kids[1], left)
	for _, x := range first.Kids {
		if code == api.OK {
			v, code = nodeByRule(p, bound(bindingByRule{e.ID, 0, x}, bindingByRule{e.ID, 1, v}), e.Kids[2], left)
		}
	}
	return v, code
}

// opByRule returns the value of an operation.
func opByRule(n int, l []api.Value) api.Value {
	switch n {
	case api.Less:
		return boolean(l[0].N < l[1].N)
	case api.Same:
		return boolean(equal(l[0], l[1]))
	case api.And:
		return boolean(l[0].N+l[1].N == 2)
	case api.Or:
		return boolean(l[0].N+l[1].N >= 1)
	case api.Not:
		return boolean(l[0].N == 0)
	case api.Join:
		v := values()
		for _, x := range l {
			v.Kids = append(v.Kids, x.Kids...)
		}
		return v
	case api.Len:
		return number(len(l[0].Kids))
	}
	return number(numberByRule(n, l[0].N, l[1].N))
}

// numberByRule returns the number of an operation of numbers.
func numberByRule(n, left, right int) int {
	a, b, x := big.NewInt(int64(left)), big.NewInt(int64(right)), new(big.Int)
	most := big.NewInt(1 << 40)
	least := new(big.Int).Neg(most)
	down := func() *big.Int { // the quotient, rounded down
		q, m := new(big.Int).DivMod(a, b, new(big.Int)) // m is not negative
		if b.Sign() < 0 && m.Sign() > 0 {
			q.Sub(q, big.NewInt(1))
		}
		return q
	}
	switch n {
	case api.Add:
		x.Add(a, b)
	case api.Sub:
		x.Sub(a, b)
	case api.Mul:
		x.Mul(a, b)
	case api.Div:
		if right == 0 {
			return 0
		}
		return int(down().Int64())
	case api.Rem:
		if right == 0 {
			return 0
		}
		return int(x.Sub(a, x.Mul(b, down())).Int64())
	}
	switch {
	case x.Cmp(most) > 0:
		x = most
	case x.Cmp(least) < 0:
		x = least
	}
	return int(x.Int64())
}

// mostByRule returns what Most returns for a program without cycles.
func mostByRule(p api.Prog, id api.ID) int {
	d, ok := bodyByRule(p, id)
	if !ok {
		return -1
	}
	n := boundByRule(p, d.Body)
	switch {
	case n == nil:
		return -1
	case n.Cmp(big.NewInt(1<<40)) > 0:
		return 1 << 40
	}
	return int(n.Int64())
}

// boundByRule returns the bound of a node, however great it is; nil, if there is none.
func boundByRule(p api.Prog, e api.Expr) *big.Int {
	if e.Kind == api.NFold {
		return nil
	}
	sum, branch := big.NewInt(1), new(big.Int)
	for i, kid := range e.Kids {
		n := boundByRule(p, kid)
		switch {
		case n == nil:
			return nil
		case i == 0 || e.Kind != api.NIf && e.Kind != api.NMatch:
			sum.Add(sum, n)
		case n.Cmp(branch) > 0:
			branch = n
		}
	}
	if e.Kind == api.NCall {
		d, ok := bodyByRule(p, e.Ref)
		if !ok {
			return nil
		}
		n := boundByRule(p, d.Body)
		if n == nil {
			return nil
		}
		sum.Add(sum, n)
	}
	return sum.Add(sum, branch)
}
