package syntax

import "warp/api"

// operator is one that stands between two expressions.
type operator struct {
	sign string
	op   api.Op
}

const (
	alone = 2 // the rank of operators of which none stands beside another
	unary = 5 // the rank of all that has no operator between: it binds closer than each of them
)

// operators stand at their rank: those of a higher one bind closer.
var operators = [unary][]operator{
	{{"||", api.OpOr}},
	{{"&&", api.OpAnd}},
	{{"==", api.OpEq}, {"!=", api.OpNe}, {"<", api.OpLt}, {"<=", api.OpLe}},
	{{"+", api.OpAdd}, {"-", api.OpSub}},
	{{"*", api.OpMul}, {"/", api.OpDiv}, {"%", api.OpMod}},
}

// ranked finds the operator that is such, and its rank; there may be none.
func ranked(such func(operator) bool) (operator, int, bool) {
	for rank, l := range operators {
		for _, o := range l {
			if such(o) {
				return o, rank, true
			}
		}
	}
	return operator{}, 0, false
}

// lefts tells the least rank of what may stand, without parentheses, on the left of an operator of a rank.
func lefts(rank int) int {
	if rank == alone {
		return rank + 1
	}
	return rank
}

func (r *reader) expr() api.Expr { return r.above(0) }

// above reads an expression whose operators are at least of a rank. It calls itself for the right sides alone, not for each rank, as parentheses may stand one in the other by tens of thousands.
func (r *reader) above(least int) api.Expr {
	e, has := r.operand(), unary
	for {
		sign := r.next().Text
		o, rank, is := ranked(func(o operator) bool { return o.sign == sign })
		if !is || rank < least || has < lefts(rank) {
			return e
		}
		r.take(sign)
		e, has = api.Expr{Kind: api.ExprBin, Op: o.op, Args: []api.Expr{e, r.above(rank + 1)}}, rank
	}
}

// operand reads what stands on one side of an operator.
func (r *reader) operand() api.Expr {
	switch {
	case r.take("-"):
		return api.Expr{Kind: api.ExprNeg, Args: []api.Expr{r.operand()}}
	case r.take("!"):
		return api.Expr{Kind: api.ExprNot, Args: []api.Expr{r.operand()}}
	case r.take("("):
		e := r.expr()
		r.want(")")
		return e
	case r.next().Kind == api.TokNumber:
		return api.Expr{Kind: api.ExprNum, Num: r.number()}
	}
	e := api.Expr{Kind: api.ExprName, Name: r.name()}
	if r.take("[") {
		e.Kind, e.Args = api.ExprCell, []api.Expr{r.expr()}
		r.want("]")
	}
	return e
}
