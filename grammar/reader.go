package grammar

import (
	"slices"

	"quittance/api"
	"quittance/product"
	"quittance/throw"
)

// reader goes through the signs of a text, and puts together the product that they tell of.
type reader struct {
	tokens  []api.Token // those that are not read yet
	clauses []clause
	product api.Product
}

// newReader is one that has read nothing yet: its product has what counts without a clause.
func newReader(tokens []api.Token) *reader {
	r := &reader{tokens: tokens, product: api.Product{Over: api.HoldIt, Roll: api.Stay}}
	r.clauses = r.known()
	return r
}

// text reads all that there is.
func (r *reader) text() api.Product {
	first := r.tokens[0]
	r.expect("product")
	r.name()
	r.expect("{")
	r.group(1)
	r.end()
	throw.NeedAt(r.complete() && product.Check(r.product) == api.OK, api.ErrProduct, first.At)
	return r.product
}

func (r *reader) name() {
	token := r.take()
	need(product.Name(token.Text), token)
	r.product.Name = token.Text
}

// group reads what stands behind the { of a group that is so deep, and its }.
func (r *reader) group(depth int) {
	for {
		switch token := r.take(); token.Text {
		case "}":
			return
		case "{":
			throw.NeedAt(depth < api.MaxDepth, api.ErrDeep, token.At)
			r.group(depth + 1)
		default:
			r.clause(token)
		}
	}
}

// clause reads the one whose word this sign is, if it is any clause's.
func (r *reader) clause(token api.Token) {
	i := slices.IndexFunc(r.clauses, func(c clause) bool { return c.word == token.Text })
	need(i >= 0, token)
	c := &r.clauses[i]
	need(c.often || !c.told, token)
	c.told = true
	c.read()
	r.expect(";")
}

// complete tells whether all clauses that must be there have been read. Check does not see all of them:
// a rate that is missing is 0, and 0 may be.
func (r *reader) complete() bool {
	return !slices.ContainsFunc(r.clauses, func(c clause) bool { return c.must && !c.told })
}

// end needs nothing to be left.
func (r *reader) end() {
	token := r.take()
	need(token.Kind == api.TokEnd, token)
}

// expect reads a sign that is nothing but this.
func (r *reader) expect(text string) {
	token := r.take()
	need(token.Text == text, token)
}

// take is the next sign. Who takes the end needs it, or throws: it is never asked for more behind it.
func (r *reader) take() api.Token {
	token := r.tokens[0]
	r.tokens = r.tokens[1:]
	return token
}

// need throws ErrSyntax with the place of the sign, unless it may stand there.
func need(ok bool, token api.Token) {
	throw.NeedAt(ok, api.ErrSyntax, token.At)
}
