package node

import (
	"portcullis/api"
	"portcullis/seg"
	"portcullis/wire"
)

// Packet that comes.
func (n *Node) Packet(b []byte, way, now int) ([]byte, error) {
	if err := n.goOn(now); err != nil {
		return nil, err
	}
	if way != api.In && way != api.Out {
		return nil, api.ErrRange
	}
	// A Standby puts pieces together, too, so that it can go on with them once it is Master.
	p, done, err := n.take(b, now)
	if err != nil {
		return nil, err
	}
	if !done || n.role != api.Master {
		return nil, nil
	}
	return n.forward(p, way, now)
}

// take what comes in, a step on, till there is a whole packet of it.
func (n *Node) take(b []byte, now int) (whole api.Packet, done bool, err error) {
	next, err := wire.Step(b)
	if err != nil {
		return api.Packet{}, false, err
	}
	p, _, err := wire.Read(next)
	if err != nil {
		return api.Packet{}, false, err
	}
	return n.pieces.Add(p, now)
}

// forward a whole packet, if it may pass.
func (n *Node) forward(p api.Packet, way, now int) ([]byte, error) {
	k, s, err := seg.KeyOf(p)
	if err != nil {
		return nil, err
	}
	out, err := wire.Encode(p)
	if err != nil {
		return nil, err
	}
	if !n.passes(k, s, way, now) {
		n.log(api.Blocked, k, now)
		return nil, api.ErrState
	}
	n.log(api.Passed, k, now)
	return out, nil
}

// passes tells whether a segment may pass; where a flow is kept of it, the other node is to know.
func (n *Node) passes(k api.Key, s api.Segment, way, now int) bool {
	f, kept, err := n.enter(k, s, way, now)
	if err != nil {
		return false
	}
	if kept {
		n.tell(api.Note{What: api.Put, Flow: f}, now)
	}
	return true
}

// enter brings a segment to its flow, if there is one: then the rules are not asked, whatever they have become since it began. Else they tell whether it passes, and whether it begins a flow.
func (n *Node) enter(k api.Key, s api.Segment, way, now int) (f api.Flow, kept bool, err error) {
	if _, err := n.flows.Get(k); err == nil {
		f, err := n.flows.Offer(k, s, now)
		return f, true, err
	}
	pass, keep, number, err := n.rules.Judge(k, way)
	if err != nil {
		return api.Flow{}, false, err
	}
	if !pass {
		return api.Flow{}, false, api.ErrState
	}
	if !keep {
		return api.Flow{}, false, nil
	}
	f, err = n.flows.Begin(k, s, number, now)
	return f, true, err
}
