package trie

import (
	"portcullis/addr"
	"portcullis/api"
)

// node of bits: which kids lead to it from the root are the first bits of its prefix.
type node struct {
	kids  [2]*node
	has   bool // whether its prefix has a value
	value int
}

// bit is which kid of a node at a depth leads on to an address.
func bit(a, depth int) int {
	return a >> (addr.Bits - 1 - depth) & 1
}

// half is the lower or the upper half of a prefix of more than one address.
func half(p api.Prefix, which int) api.Prefix {
	return api.Prefix{Addr: p.Addr | which<<(addr.Bits-1-p.Len), Len: p.Len + 1}
}

// find gives the node of a prefix, or nil.
func (n *node) find(p api.Prefix) *node {
	for depth := 0; n != nil && depth < p.Len; depth++ {
		n = n.kids[bit(p.Addr, depth)]
	}
	return n
}

// grow gives the node of a prefix, and makes those that are missing on the way.
func (n *node) grow(p api.Prefix) *node {
	for depth := range p.Len {
		which := bit(p.Addr, depth)
		if n.kids[which] == nil {
			n.kids[which] = &node{}
		}
		n = n.kids[which]
	}
	return n
}

// prune takes away, from the lowest on, the nodes on the way to a prefix that nothing needs any more.
func (n *node) prune(p api.Prefix, depth int) {
	if depth == p.Len {
		return
	}
	which := bit(p.Addr, depth)
	kid := n.kids[which]
	kid.prune(p, depth+1)
	if !kid.has && kid.kids[0] == nil && kid.kids[1] == nil {
		n.kids[which] = nil
	}
}

// over gives the pairs on the way to a prefix, its own too, which are those inside which it is.
func (n *node) over(p api.Prefix) []api.Pair {
	var l []api.Pair
	at := api.Prefix{}
	for {
		if n.has {
			l = append(l, api.Pair{Prefix: at, Value: n.value})
		}
		if at.Len == p.Len {
			return l
		}
		which := bit(p.Addr, at.Len)
		if n.kids[which] == nil {
			return l
		}
		n, at = n.kids[which], half(at, which)
	}
}

// list adds the pairs of a node, whose prefix is p, and of those below it: each ahead of its halves, so by Addr, then Len.
func (n *node) list(p api.Prefix, l []api.Pair) []api.Pair {
	if n.has {
		l = append(l, api.Pair{Prefix: p, Value: n.value})
	}
	for which, kid := range n.kids {
		if kid != nil {
			l = kid.list(half(p, which), l)
		}
	}
	return l
}
