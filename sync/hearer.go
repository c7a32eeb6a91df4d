package sync

import (
	"portcullis/api"
)

// Hearer gives notes in order.
type Hearer struct {
	seq   int
	waits map[int]api.Note // by Seq, each above seq
}

// NewHearer makes one.
func NewHearer() *Hearer { return &Hearer{waits: map[int]api.Note{}} }

// Hear a note.
func (h *Hearer) Hear(n api.Note) ([]api.Note, error) {
	if err := check(n); err != nil {
		return nil, err
	}
	if n.Seq == 0 {
		return nil, api.ErrRange
	}
	if n.Seq-h.seq > api.MaxList {
		return nil, api.ErrFull
	}
	if _, came := h.waits[n.Seq]; n.Seq > h.seq && !came {
		h.waits[n.Seq] = n
	}
	return h.next(), nil
}

// Seq of the last that came out.
func (h *Hearer) Seq() int { return h.seq }

// next gives out the notes for which nothing has to be waited any more.
func (h *Hearer) next() []api.Note {
	var out []api.Note
	for {
		n, came := h.waits[h.seq+1]
		if !came {
			return out
		}
		delete(h.waits, n.Seq)
		h.seq = n.Seq
		out = append(out, n)
	}
}
