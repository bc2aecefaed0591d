package kernel

import (
	"headgate/api"
	"headgate/cache"
	"headgate/lru"
	"headgate/role"
	"headgate/shrink"
	"headgate/zones"
)

// The zones that are preferred: that of pages, and that of all else.
const (
	anyZone  = 0
	pageZone = 1
)

// noFrame stands for no frame.
const noFrame = -1

// memory is the frames: what each is used for, what it contains, how many entries map it, and the lists of those that are mapped.
type memory struct {
	zones    api.Zones
	roles    []int
	contents []api.Content
	maps     []int
	lists    api.Lists
}

// newMemory returns the frames of a machine, all of them free.
func newMemory(c api.Config) (memory, api.Errno) {
	z, err := zones.New(c.Frames, c.Low)
	if err != api.OK {
		return memory{}, err
	}
	l, err := lru.New(c.Frames)
	if err != api.OK {
		return memory{}, err
	}
	return memory{z, make([]int, c.Frames), make([]api.Content, c.Frames), make([]int, c.Frames), l}, api.OK
}

// free returns how many frames are free.
func (m *memory) free() int {
	n, _ := zones.Total(m.zones)
	return n
}

// take takes a frame for something that is no page.
func (m *memory) take(use int) int { return m.takeFrom(anyZone, use) }

// takeFrom takes a frame, if possible from a zone; noFrame if none is free.
func (m *memory) takeFrom(first, use int) int {
	z, frame, err := zones.Alloc(m.zones, 0, first)
	if err != api.OK {
		return noFrame
	}
	m.zones = z
	m.turn(frame, use)
	return frame
}

// turn gives a frame another role.
func (m *memory) turn(frame, use int) {
	if l, err := role.Change(m.roles, frame, use); err == api.OK {
		m.roles = l
	}
}

// give gives frames back.
func (m *memory) give(frames ...int) {
	for _, frame := range frames {
		if z, err := zones.Free(m.zones, frame, 0); err == api.OK {
			m.zones = z
			m.turn(frame, api.Free)
		}
	}
}

// enter makes a frame one that is mapped once, with a content.
func (m *memory) enter(frame int, content api.Content) {
	m.turn(frame, api.MappedFrame)
	m.contents[frame], m.maps[frame] = content, 1
	if l, err := lru.Add(m.lists, frame); err == api.OK {
		m.lists = l
	}
}

// leave takes a frame that nobody maps any more out of its list.
func (m *memory) leave(frame int) {
	m.maps[frame] = 0
	if l, err := lru.Remove(m.lists, frame); err == api.OK {
		m.lists = l
	}
}

// unmapOnce takes a mapping from a frame; the last one gives it back.
func (m *memory) unmapOnce(frame int) {
	m.maps[frame]--
	if m.maps[frame] == 0 {
		m.leave(frame)
		m.give(frame)
	}
}

// touch makes a frame referenced.
func (m *memory) touch(frame int) {
	if l, err := lru.Touch(m.lists, frame); err == api.OK {
		m.lists = l
	}
}

// entryStore is the number of the cache of write entries; the kinds of objects have those behind it.
const entryStore = 0

// stores are the caches of write entries and of the discardable objects of each kind, and these objects.
type stores struct {
	caches  [1 + api.Kinds][]api.Slab
	objects []api.Object
}

// put puts an object into a cache, if need be into a slab in a new frame.
func (s *stores) put(which int, m *memory) int {
	frame := noFrame
	if needs, _ := cache.Needs(s.caches[which]); needs {
		frame = m.take(api.SlabFrame)
	}
	c, object, _, err := cache.Take(s.caches[which], frame)
	if err == api.OK {
		s.caches[which] = c
	}
	return object
}

// drop takes an object out of a cache, and gives the frame of a slab back that is empty then.
func (s *stores) drop(which, object int, m *memory) {
	c, frame, err := cache.Free(s.caches[which], object)
	if err != api.OK {
		return
	}
	s.caches[which] = c
	if frame != noFrame {
		m.give(frame)
	}
}

// keep adds a discardable object of a kind, the youngest one.
func (s *stores) keep(kind int, m *memory) {
	age := uint64(1)
	if n := len(s.objects); n > 0 {
		age += s.objects[n-1].Age
	}
	o := api.Object{Kind: kind, Age: age, At: s.put(kind, m)}
	if l, err := shrink.Add(s.objects, o); err == api.OK {
		s.objects = l
	}
}

// discard drops the oldest discardable objects.
func (s *stores) discard(m *memory) {
	oldest, _ := shrink.Oldest(s.objects, api.Batch)
	for _, o := range oldest {
		if l, _, err := shrink.Drop(s.objects, o.Age); err == api.OK {
			s.objects = l
			s.drop(o.Kind, o.At, m)
		}
	}
}

// hoard does DoHoard.
func (k *Kernel) hoard(c api.Command) ([]api.Outcome, api.Errno) {
	if k.free() <= k.config.High || len(k.objects) >= api.MaxObjects {
		return nil, api.ErrFull
	}
	k.keep(c.A, &k.memory)
	return nil, api.OK
}
