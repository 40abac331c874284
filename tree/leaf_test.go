package tree_test

import (
	"math/rand"
	"strings"
	"testing"

	"probity/api"
	"probity/digest"
	"probity/tree"
)

// P10.1: strings that can be seen at a glance; the sums of the first ones are known.
func TestLeafExamples(t *testing.T) {
	checkHash(t, "Leaf of nothing", tree.Leaf(""), hashOf(t, "6e340b9cffb37a989ca544e6bb780a2c78901d3fb33738768511a30617afa01d"))
	for _, s := range []string{"", "a", "\x00", "\x01", "a\x00", "é", "\xff\xfe", "a\n", strings.Repeat("a", 63), strings.Repeat("a", 64), strings.Repeat("x", 100000)} {
		checkHash(t, "Leaf", tree.Leaf(s), digest.Sum("\x00"+s))
		checkHash(t, "Leaf", tree.Leaf(s), wordLeaf(s))
	}
}

// P10.1: strings of every length up to three blocks.
func TestLeafOfEveryLength(t *testing.T) {
	r := rand.New(rand.NewSource(1011))
	for length := range 200 {
		bytes := make([]byte, length)
		r.Read(bytes)
		checkHash(t, "Leaf", tree.Leaf(string(bytes)), wordLeaf(string(bytes)))
	}
}

// P10.1: all bytes of both hashes, in their order.
func TestNode(t *testing.T) {
	r := rand.New(rand.NewSource(1012))
	var zero api.Hash
	checkHash(t, "Node of zeros", tree.Node(zero, zero), digest.Sum("\x01"+strings.Repeat("\x00", 64)))
	for range 200 {
		a, b := randomHash(r), randomHash(r)
		checkHash(t, "Node", tree.Node(a, b), digest.Sum("\x01"+textOf(a)+textOf(b)))
		checkHash(t, "Node", tree.Node(b, a), wordNode(b, a))
		checkHash(t, "Node", tree.Node(a, a), wordNode(a, a))
	}
	for bit := range 256 {
		other := flipped(zero, bit)
		checkHash(t, "Node", tree.Node(other, zero), wordNode(other, zero))
		checkHash(t, "Node", tree.Node(zero, other), wordNode(zero, other))
	}
}

// P10.1: the first bytes keep strings and pairs apart, also a string of two hashes.
func TestLeavesAreNoNodes(t *testing.T) {
	r := rand.New(rand.NewSource(1013))
	for range 100 {
		a, b := randomHash(r), randomHash(r)
		node := tree.Node(a, b)
		for _, s := range []string{textOf(a) + textOf(b), "\x01" + textOf(a) + textOf(b), textOf(a), textOf(node)} {
			if tree.Leaf(s) == node {
				t.Errorf("the leaf of %q is a node", s)
			}
		}
		if node == tree.Node(b, a) {
			t.Error("a node does not know the order of its hashes")
		}
	}
}
