package buddy

import (
	"cmp"
	"slices"

	"headgate/api"
)

// free are the places of free blocks, ascending, by their orders. (A place is less than MaxFrames: a byte has room for it.)
type free [api.MaxOrder + 1][]uint8

// sort returns the places of blocks by their orders.
func sort(l []api.Block) *free {
	var f free
	for _, b := range l {
		f[b.Order] = append(f[b.Order], uint8(b.At))
	}
	return &f
}

// zone returns the zone of so many frames that has these free blocks.
func (f *free) zone(frames int) api.Buddy {
	z := api.Buddy{Frames: frames}
	for order, places := range f {
		for _, at := range places {
			z.Free = append(z.Free, api.Block{At: int(at), Order: order})
		}
	}
	slices.SortFunc(z.Free, func(a, b api.Block) int { return cmp.Compare(a.At, b.At) })
	return z
}

// least returns the first block of the least order from order on that has one; an order above MaxOrder if none has.
func (f *free) least(order int) (at, from int) {
	for from = order; from <= api.MaxOrder; from++ {
		if len(f[from]) > 0 {
			return int(f[from][0]), from
		}
	}
	return 0, from
}

// add makes a block free, without joining it.
func (f *free) add(at, order int) {
	i, _ := slices.BinarySearch(f[order], uint8(at))
	f[order] = slices.Insert(f[order], i, uint8(at))
}

// remove takes a block out, and says whether it was free.
func (f *free) remove(at, order int) bool {
	i, found := slices.BinarySearch(f[order], uint8(at))
	if found {
		f[order] = slices.Delete(f[order], i, i+1)
	}
	return found
}

// split halves a block that was taken out until it is the block at of an order; the other halves become free.
func (f *free) split(first, from, at, order int) {
	for from > order {
		from--
		half := 1 << from
		if at&half == 0 {
			f.add(first|half, from)
		} else {
			f.add(first, from)
			first |= half
		}
	}
}

// join makes a block free, together with its buddy, as long as that is free, too.
func (f *free) join(at, order int) {
	size := 1 << order
	for size < 1<<api.MaxOrder && f.remove(at^size, order) {
		at &^= size
		size <<= 1
		order++
	}
	f.add(at, order)
}
