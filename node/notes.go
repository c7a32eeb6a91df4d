package node

import (
	"portcullis/api"
	"portcullis/sync"
)

// Notes to the other one.
func (n *Node) Notes(now int) ([]byte, error) {
	if err := n.goOn(now); err != nil {
		return nil, err
	}
	due, err := n.teller.Due(now)
	if err != nil {
		return nil, err
	}
	// Got has no number of its own, so it is not told again: the next Notes have one anyway.
	due = append(due, api.Note{What: api.Got, Seq: n.hearer.Seq()})
	var all []byte
	for _, note := range due {
		b, err := sync.Encode(note)
		if err != nil {
			return nil, err
		}
		all = append(all, b...)
	}
	return all, nil
}

// Note of the other one.
func (n *Node) Note(b []byte, now int) error {
	if err := n.goOn(now); err != nil {
		return err
	}
	for len(b) > 0 {
		note, used, err := sync.Read(b)
		if err != nil {
			// Also where more could come: what comes is whole.
			return api.ErrSyntax
		}
		n.hear(note, now)
		b = b[used:]
	}
	return nil
}

// hear a note. What has a number of the other one's Teller is heard in that order, so that it counts once, and nothing waits behind a gap that never closes; a Got's number is this node's, and a Want of number 0 has none.
func (n *Node) hear(note api.Note, now int) {
	switch {
	case note.What == api.Got:
		// A number that was never told is an error, which changes nothing: it is not to be told to anybody either.
		_ = n.teller.Heard(note.Seq)
	case note.What == api.Want && note.Seq == 0:
		n.heed(note, now)
	default:
		// What the hearer refuses does not come out.
		next, _ := n.hearer.Hear(note)
		for _, note := range next {
			n.heed(note, now)
		}
	}
}

// heed what a note says.
func (n *Node) heed(note api.Note, now int) {
	switch note.What {
	case api.Put:
		// What the table has no room for, or knows better, it does not adopt.
		_, _ = n.flows.Adopt(note.Flow, now)
	case api.Gone:
		n.flows.Drop(note.Flow.Key)
	case api.Want:
		n.tellFlows(now)
		n.tell(api.Note{What: api.All}, now)
	}
}

// tell the other one; what the teller refuses is not told.
func (n *Node) tell(note api.Note, now int) {
	_, _ = n.teller.Tell(note, now)
}

func (n *Node) tellFlows(now int) {
	for _, f := range n.flows.All() {
		n.tell(api.Note{What: api.Put, Flow: f}, now)
	}
}

func (n *Node) tellGone(keys []api.Key, now int) {
	for _, k := range keys {
		n.tell(api.Note{What: api.Gone, Flow: api.Flow{Key: k}}, now)
	}
}
