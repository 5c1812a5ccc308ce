package tree

import (
	"strconv"
	"strings"

	"sacristan/api"
	"sacristan/show"
)

// printer is who tells a node that may be: its text so far.
type printer struct {
	strings.Builder
	shapes map[uint8]shape
}

func (p *printer) node(n api.Node) {
	switch n.Kind {
	case api.NodeInt:
		p.WriteString(strconv.FormatInt(n.N, 10))
	case api.NodeBool:
		p.WriteString(strconv.FormatBool(n.N == 1))
	case api.NodeStr:
		p.WriteString(show.Quote(n.Text))
	case api.NodeUnit:
		p.WriteString("unit")
	case api.NodeVar:
		p.WriteString(n.Text)
	default:
		p.bracketed(n)
	}
}

func (p *printer) bracketed(n api.Node) {
	p.WriteByte('(')
	p.WriteString(strings.Join(p.opening(n), " "))
	for _, kid := range n.Kids {
		p.WriteByte(' ')
		p.node(kid)
	}
	p.WriteByte(')')
}

// opening is what stands ahead of a node's parts.
func (p *printer) opening(n api.Node) []string {
	head := p.shapes[n.Kind].head
	switch {
	case n.Kind == api.NodePrim:
		return []string{n.Text}
	case n.Kind == api.NodeFun:
		return []string{head, n.Text, "(" + strings.Join(n.Names, " ") + ")"}
	case n.Text != "":
		return append([]string{head, n.Text}, n.Names...)
	}
	return append([]string{head}, n.Names...)
}
