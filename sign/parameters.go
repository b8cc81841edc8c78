// Package sign has signatures: ML-DSA (DOC.md, P15 to P19). What is wrong with what it is given it throws: a panic with an api.Errno.
package sign

import (
	"math/bits"

	"latticekeys/api"
	"latticekeys/lattice"
	"latticekeys/parts"
	"latticekeys/ring"
	"latticekeys/throw"
)

const (
	q          = api.Great
	seedBytes  = 32 // of what keys are made of, of rho, of key and of the random bytes of a signature
	hashBytes  = 64 // of hashes of keys and of messages, and of the seeds that secrets and masks are drawn from
	publicBits = 10 // of a coefficient in a public key
)

type (
	poly   = ring.Poly[uint32]
	vector = lattice.Vector[uint32]
)

// Parameters are what a set says of signatures, and the ring that it counts in. K is also the number of the matrix's rows.
type Parameters struct {
	parts.Set
	l              int // columns of the matrix
	eta            int // the greatest number of a secret
	gamma1         int // the greatest number of a mask
	tau            int // coefficients of a ball that are not 0
	challengeBytes int
	ring           *ring.Ring[uint32]
}

// New throws ErrSet, unless there is such a set.
func New(set int) *Parameters {
	hints, err := parts.New(set)
	throw.Unless(err == nil, api.ErrSet)
	p := &Parameters{Set: hints, ring: ring.Great()}
	switch set {
	case 44:
		p.l, p.eta, p.gamma1, p.tau, p.challengeBytes = 4, 2, 1<<17, 39, 32
	case 65:
		p.l, p.eta, p.gamma1, p.tau, p.challengeBytes = 5, 4, 1<<19, 49, 48
	case 87:
		p.l, p.eta, p.gamma1, p.tau, p.challengeBytes = 7, 2, 1<<19, 60, 64
	}
	return p
}

// beta is how far a ball times a secret can be from 0.
func (p *Parameters) beta() int { return p.tau * p.eta }

// highBits are how many a high part takes.
func (p *Parameters) highBits() int { return bits.Len(uint((q-1)/(2*p.Gamma) - 1)) }

func (p *Parameters) secretRange() span { return span{p.eta, p.eta} }

func (p *Parameters) maskRange() span { return span{p.gamma1 - 1, p.gamma1} }

// lowRange is that of Halve's low parts.
func lowRange() span { return span{4095, 4096} }

func (p *Parameters) secretKeyBytes() int {
	return 2*seedBytes + hashBytes + (p.l+p.K)*p.secretRange().bytes() + p.K*lowRange().bytes()
}

func (p *Parameters) publicKeyBytes() int { return seedBytes + p.K*ring.PackedBytes(publicBits) }

func (p *Parameters) signatureBytes() int {
	return p.challengeBytes + p.l*p.maskRange().bytes() + p.HintBytes()
}
