package value

import (
	"sync"

	"arbour/api"
)

// Names: the attributes' names.
type Names struct {
	once  sync.Once
	names [api.Attrs]string
}

// laid answers the names; those of a nil Names are laid for this call alone, as there is no place to keep them.
func (n *Names) laid() [api.Attrs]string {
	if n == nil {
		n = new(Names)
	}
	n.once.Do(func() {
		n.names = [api.Attrs]string{"a", "b", "c", "d"}
	})
	return n.names
}

// Name: one of them.
func (n *Names) Name(attr int) string {
	if attr < 0 || attr >= api.Attrs {
		return ""
	}
	names := n.laid()
	return names[attr]
}

// Attr: the attribute of a name.
func (n *Names) Attr(name string) int {
	for attr, known := range n.laid() {
		if known == name {
			return attr
		}
	}
	return -1
}
