// Package latticekeys: keys that are wrapped, and signatures, by lattices: see DOC.md.
package latticekeys
