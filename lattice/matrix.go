package lattice

import (
	"math/bits"
	"sync"

	"latticekeys/api"
	"latticekeys/ring"
	"latticekeys/sponge"
)

// Matrix is rows of transformed polynomials.
type Matrix[W ring.Word] struct {
	ring *ring.Ring[W]
	rows []Vector[W]
}

// entry is a polynomial on its way to its place in a matrix.
type entry[W ring.Word] struct {
	row, column int
	f           ring.Poly[W]
}

// Draw makes the matrix that a seed stands for: at (i, j) is MATRIX(rho, i, j).
func Draw[W ring.Word](r *ring.Ring[W], rho string, rows, columns int) *Matrix[W] {
	m := blank(r, rows, columns)
	for e := range entries(r, rho, rows, columns) {
		m.rows[e.row][e.column] = e.f
	}
	return m
}

func blank[W ring.Word](r *ring.Ring[W], rows, columns int) *Matrix[W] {
	m := &Matrix[W]{ring: r, rows: make([]Vector[W], rows)}
	for i := range m.rows {
		m.rows[i] = make(Vector[W], columns)
	}
	return m
}

// entries has each entry drawn by a goroutine of its own. The channel has room for all, so that none waits for a reader and all have ended when it is handed out.
func entries[W ring.Word](r *ring.Ring[W], rho string, rows, columns int) <-chan entry[W] {
	drawn := make(chan entry[W], rows*columns)
	var all sync.WaitGroup
	for i := range rows {
		for j := range columns {
			all.Add(1)
			go func() {
				defer all.Done()
				seed := rho + string([]byte{byte(j), byte(i)})
				drawn <- entry[W]{i, j, uniform(r.Q(), sponge.Stream(128, seed))}
			}()
		}
	}
	all.Wait()
	close(drawn)
	return drawn
}

// uniform takes as many numbers of three bytes of the stream as fit there, each with q's bits; were those that are not below q taken modulo q, the small ones would come more often.
func uniform[W ring.Word](q W, stream sponge.Sponge) ring.Poly[W] {
	var f ring.Poly[W]
	var three [3]byte
	width := bits.Len32(uint32(q))
	for n := 0; n < api.N; {
		stream.Fill(three[:])
		held := uint32(three[0]) | uint32(three[1])<<8 | uint32(three[2])<<16
		for range 24 / width {
			a := W(held & (1<<width - 1))
			held >>= width
			if a < q && n < api.N {
				f[n] = a
				n++
			}
		}
	}
	return f
}

// Times multiplies by a transformed vector, which is as long as a row.
func (m *Matrix[W]) Times(v Vector[W]) Vector[W] {
	out := make(Vector[W], len(m.rows))
	for i, row := range m.rows {
		out[i] = Dot(m.ring, row, v)
	}
	return out
}

// Transposed has rows for columns. There must be a row.
func (m *Matrix[W]) Transposed() *Matrix[W] {
	out := blank(m.ring, len(m.rows[0]), len(m.rows))
	for i, row := range m.rows {
		for j, f := range row {
			out.rows[j][i] = f
		}
	}
	return out
}
