package printer

import (
	"strings"

	"quittance/api"
)

// writer puts together the text of a product that may be.
type writer struct {
	product api.Product
	text    strings.Builder
}

func newWriter(p api.Product) *writer {
	return &writer{product: p}
}

// all writes the whole text.
func (w *writer) all() string {
	w.text.WriteString("product " + w.product.Name + " {\n")
	for _, clause := range w.clauses() {
		clause()
	}
	w.text.WriteString("}\n")
	return w.text.String()
}

// line writes a clause: its word, and what stands behind it.
func (w *writer) line(words ...string) {
	w.text.WriteString("  " + strings.Join(words, " ") + ";\n")
}
