package sync

import (
	"iter"
	"slices"
)

// nobody owns a mutex that no thread has.
const nobody = -1

type mutex struct{ owner int }

// condition has the threads that wait there.
type condition struct{ queue[int] }

// channel has the values in it; sent counts all that ever were.
type channel struct {
	queue[int64]
	room, sent int
}

// parts are all that there are. Those of no Sync, or of one that no call made, are not made, and empty.
type parts struct {
	made    bool
	mutexes []mutex
	conds   []condition
	chans   []channel
}

// lay makes so many parts.
func lay(mutexes, conds int, rooms ...int) parts {
	p := parts{
		made:    true,
		mutexes: slices.Repeat([]mutex{{owner: nobody}}, mutexes),
		conds:   make([]condition, conds),
		chans:   make([]channel, len(rooms)),
	}
	for i, room := range rooms {
		p.chans[i].room = room
	}
	return p
}

func (s *Sync) whole() *parts {
	if s == nil {
		return &parts{}
	}
	return &s.parts
}

// waiting goes over the threads that wait, whatever for.
func (p *parts) waiting() iter.Seq[int] {
	return func(yield func(int) bool) {
		for i := range p.conds {
			for t := range p.conds[i].each() {
				if !yield(t) {
					return
				}
			}
		}
	}
}

// waits tells whether that thread waits.
func (p *parts) waits(thread int) bool {
	for t := range p.waiting() {
		if t == thread {
			return true
		}
	}
	return false
}

// copied are the same parts, that go on apart.
func (p *parts) copied() parts {
	q := *p
	q.mutexes, q.conds, q.chans = slices.Clone(p.mutexes), slices.Clone(p.conds), slices.Clone(p.chans)
	for i := range q.conds {
		q.conds[i].part()
	}
	for i := range q.chans {
		q.chans[i].part()
	}
	return q
}

func (p *parts) same(q *parts) bool {
	return p.made == q.made &&
		slices.Equal(p.mutexes, q.mutexes) &&
		slices.EqualFunc(p.conds, q.conds, condition.same) &&
		slices.EqualFunc(p.chans, q.chans, channel.same)
}

func (c condition) same(d condition) bool { return c.alike(d.queue) }

func (c channel) same(d channel) bool {
	return c.room == d.room && c.sent == d.sent && c.alike(d.queue)
}
