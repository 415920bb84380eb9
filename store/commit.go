package store

import (
	"maps"
	"slices"

	"voile/api"
	"voile/block"
	"voile/count"
	"voile/super"
)

// Commit commits.
func (s *Store) Commit(x api.Super) (e api.Errno) {
	defer s.settle(&e)
	if e := s.ready(); e != api.OK {
		return e
	}
	next := s.last
	next.Top, next.Base, next.Stage, next.State = x.Top, x.Base, x.Stage, x.State
	return s.commit(next, s.data)
}

// Abort goes back to the last commit.
func (s *Store) Abort() {
	if s.none() {
		return
	}
	s.meta.Abort()
	s.data.Abort()
	clear(s.fresh)
}

// Grow lets the data area have more blocks.
func (s *Store) Grow(data int) (e api.Errno) {
	defer s.settle(&e)
	if e := s.ready(); e != api.OK {
		return e
	}
	if !fits(s.disk, s.meta.Len(), data) || changed(s.meta) || changed(s.data) {
		return api.ErrArg
	}
	grown := s.data.Copy()
	// An area can't come to be smaller: that is its own error.
	if e := grown.Grow(data); e != api.OK {
		return e
	}
	next := s.last
	next.Data = data
	return s.commit(next, grown)
}

// commit commits a superblock, with the counts of the data area. What the store keeps changes behind the last step, and all at once: of a commit that is refused on its way nothing has changed but the disk.
func (s *Store) commit(next api.Super, data *count.Area) api.Errno {
	next.Tx = s.last.Tx + 1
	next.Cursor = data.Cursor()
	if !super.May(next) {
		return api.ErrArg
	}
	meta := s.meta.Copy()
	release(meta, s.pages())
	for i := range pagesNeeded(next.Meta, next.Data) {
		n, e := meta.Alloc()
		if e != api.OK {
			s.Abort()
			return e
		}
		next.Pages[i] = uint32(n)
	}
	if e := s.lay(next, meta, data); e != api.OK {
		return e
	}
	meta.Commit()
	data.Commit()
	s.last, s.meta, s.data = next, meta, data
	clear(s.fresh)
	return api.OK
}

// lay writes all that a commit is of. What it names lasts ahead of the superblock, which makes it count.
func (s *Store) lay(next api.Super, meta, data *count.Area) api.Errno {
	for _, n := range slices.Sorted(maps.Keys(s.fresh)) {
		b, e := block.Block(n, s.fresh[n])
		if e != api.OK {
			return e
		}
		if e := super.Write(s.disk, metaAt(n), b); e != api.OK {
			return e
		}
	}
	if e := writePages(s.disk, next.Pages, meta.Counts(), data.Counts()); e != api.OK {
		return e
	}
	if e := s.disk.Flush(); e != api.OK {
		return e
	}
	return super.Save(s.disk, next)
}

// release lets blocks be named by none, however often they are named.
func release(meta *count.Area, blocks []uint32) {
	for _, no := range blocks {
		for meta.Count(int(no)) > 0 {
			meta.Dec(int(no))
		}
	}
}

// changed: is some block named otherwise than at the last commit?
func changed(a *count.Area) bool {
	for n := range a.Len() {
		if a.Count(n) != a.Was(n) {
			return true
		}
	}
	return false
}
