package model

import (
	"bytes"
	"slices"

	"hedgerow/api"
	"hedgerow/record"
	"hedgerow/walk"
)

// calls tells what each kind of calls does.
func calls() map[api.CallKind]func(s *state, c api.Call) api.Answer {
	return map[api.CallKind]func(s *state, c api.Call) api.Answer{
		api.CallMkdir:    (*state).mkdir,
		api.CallRmdir:    (*state).rmdir,
		api.CallCreate:   (*state).create,
		api.CallLink:     (*state).link,
		api.CallSymlink:  (*state).symlink,
		api.CallUnlink:   (*state).unlink,
		api.CallRename:   (*state).rename,
		api.CallLookup:   (*state).lookup,
		api.CallStat:     (*state).stat,
		api.CallReadlink: (*state).readlink,
		api.CallRead:     (*state).read,
		api.CallWrite:    (*state).write,
		api.CallTruncate: (*state).truncate,
		api.CallReaddir:  (*state).readdir,
	}
}

// Do does a call, and tells its answer.
func (m *Model) Do(c api.Call) api.Answer {
	if m.none() {
		return api.Answer{Errno: api.ErrNil}
	}
	do, is := calls()[c.Kind]
	if !is {
		return api.Answer{Errno: api.ErrArg}
	}
	var a api.Answer
	if e := guarded(func() { a = do(m.now, c) }); e != api.OK {
		return api.Answer{Errno: e}
	}
	return a
}

// find tells what a name is of in a directory.
func (s *state) find(dir int, name string) (api.Found, bool) {
	if name == up {
		return api.Found{Inode: s.things[dir].Parent, Kind: api.InodeDir}, true
	}
	i := s.index(dir, name)
	if i < 0 {
		return api.Found{}, false
	}
	t := s.things[s.things[dir].Names[i].Inode]
	return api.Found{Inode: t.Inode, Kind: t.Kind, Target: t.Target}, true
}

// index tells the place of a name in a directory; -1, if it is not there.
func (s *state) index(dir int, name string) int {
	return slices.IndexFunc(s.things[dir].Names, func(n api.Named) bool { return n.Name == name })
}

// way tells the end of a path's way, as it comes.
func (s *state) way(path string, follow bool) api.Walked {
	x, e := walk.Go(path, follow, func(dir int, name string) (api.Found, bool) { return s.find(dir, name) })
	refuse(e, e != api.OK)
	return x
}

// there tells the end of a way that must lead to something.
func (s *state) there(path string, follow bool) api.Walked {
	x := s.way(path, follow)
	refuse(x.Errno, x.Errno != api.OK)
	return x
}

// fresh tells the end of a way that must lead to a name that is not there yet.
func (s *state) fresh(path string) api.Walked {
	x := s.way(path, false)
	refuse(api.ErrExists, x.Errno == api.OK)
	refuse(x.Errno, x.Errno != api.ErrNoEnt || x.Name == "")
	return x
}

// refuseRecords gives up, if no record is free.
func (s *state) refuseRecords() { refuse(api.ErrNoRecord, s.named() >= s.Form.Records) }

// enter gives an inode a new name.
func (s *state) enter(dir int, name string, inode int) {
	t := &s.things[dir]
	key, e := record.Key(s.Layout, name, 0)
	refuse(e, e != api.OK)
	for slices.ContainsFunc(t.Names, func(n api.Named) bool { return n.Key == key }) {
		key++
	}
	t.Names = sorted(append(t.Names, api.Named{Key: key, Name: name, Inode: inode}), func(n api.Named) uint64 { return n.Key })
	s.things[inode].Links++
}

// leave takes a name out.
func (s *state) leave(dir int, name string) {
	t := &s.things[dir]
	i := s.index(dir, name)
	inode := t.Names[i].Inode
	t.Names = slices.Delete(t.Names, i, i+1)
	s.lose(inode)
}

// lose takes one of its names from an inode, which goes with the last one.
func (s *state) lose(inode int) {
	s.things[inode].Links--
	if s.things[inode].Links == 0 {
		s.things[inode] = api.Thing{}
	}
}

// grow makes a new thing at a path.
func (s *state) grow(path string, t api.Thing) api.Answer {
	x := s.fresh(path)
	t.Inode = 1 + slices.IndexFunc(s.things[1:], func(t api.Thing) bool { return t.Kind == api.InodeNone })
	refuse(api.ErrNoInode, t.Inode == 0)
	s.refuseRecords()
	if t.Kind == api.InodeDir {
		t.Parent = x.Dir
	}
	s.things[t.Inode] = t
	s.enter(x.Dir, x.Name, t.Inode)
	return api.Answer{Inode: t.Inode}
}

func (s *state) mkdir(c api.Call) api.Answer {
	return s.grow(c.Path, api.Thing{Kind: api.InodeDir})
}

func (s *state) create(c api.Call) api.Answer {
	return s.grow(c.Path, api.Thing{Kind: api.InodeFile})
}

func (s *state) symlink(c api.Call) api.Answer {
	refuse(api.ErrArg, !target(c.To))
	return s.grow(c.Path, api.Thing{Kind: api.InodeLink, Target: c.To})
}

func (s *state) link(c api.Call) api.Answer {
	from := s.there(c.Path, false)
	refuse(api.ErrIsDir, from.Kind == api.InodeDir)
	to := s.fresh(c.To)
	refuse(api.ErrMany, s.things[from.Inode].Links >= api.MaxLinks)
	s.refuseRecords()
	s.enter(to.Dir, to.Name, from.Inode)
	return api.Answer{Inode: from.Inode}
}

func (s *state) unlink(c api.Call) api.Answer {
	x := s.there(c.Path, false)
	refuse(api.ErrIsDir, x.Kind == api.InodeDir)
	s.leave(x.Dir, x.Name)
	return api.Answer{}
}

func (s *state) rmdir(c api.Call) api.Answer {
	x := s.there(c.Path, false)
	refuse(api.ErrBusy, x.Name == "")
	refuse(api.ErrNotDir, x.Kind != api.InodeDir)
	refuse(api.ErrNotEmpty, len(s.things[x.Inode].Names) > 0)
	s.leave(x.Dir, x.Name)
	return api.Answer{}
}

// inside says whether a directory is another one, or in it, however far.
func (s *state) inside(dir, other int) bool {
	for dir != root && dir != other {
		dir = s.things[dir].Parent
	}
	return dir == other
}

// aim tells the end of the way to which a name moves.
func (s *state) aim(path string) (to api.Walked, is bool) {
	to = s.way(path, false)
	is = to.Errno == api.OK
	refuse(to.Errno, !is && (to.Errno != api.ErrNoEnt || to.Name == ""))
	refuse(api.ErrBusy, is && to.Name == "")
	return to, is
}

func (s *state) rename(c api.Call) api.Answer {
	from := s.there(c.Path, false)
	refuse(api.ErrBusy, from.Name == "")
	to, is := s.aim(c.To)
	if is && to.Inode == from.Inode {
		return api.Answer{Inode: from.Inode}
	}
	isDir := from.Kind == api.InodeDir
	refuse(api.ErrInside, isDir && s.inside(to.Dir, from.Inode))
	if is {
		refuse(api.ErrNotDir, isDir && to.Kind != api.InodeDir)
		refuse(api.ErrNotEmpty, isDir && len(s.things[to.Inode].Names) > 0)
		refuse(api.ErrIsDir, !isDir && to.Kind == api.InodeDir)
	}
	s.refuseRecords()
	if is {
		s.things[to.Dir].Names[s.index(to.Dir, to.Name)].Inode = from.Inode
		s.things[from.Inode].Links++
		s.lose(to.Inode)
	} else {
		s.enter(to.Dir, to.Name, from.Inode)
	}
	s.leave(from.Dir, from.Name)
	if isDir {
		s.things[from.Inode].Parent = to.Dir
	}
	return api.Answer{Inode: from.Inode}
}

func (s *state) lookup(c api.Call) api.Answer {
	x := s.there(c.Path, true)
	return api.Answer{Inode: x.Inode, Kind: x.Kind}
}

func (s *state) stat(c api.Call) api.Answer {
	x := s.there(c.Path, true)
	t := s.things[x.Inode]
	return api.Answer{Inode: x.Inode, Kind: x.Kind, Links: t.Links, Size: len(t.Bytes) + len(t.Names)}
}

func (s *state) readlink(c api.Call) api.Answer {
	x := s.there(c.Path, false)
	refuse(api.ErrArg, x.Kind != api.InodeLink)
	return api.Answer{Text: s.things[x.Inode].Target}
}

// file tells the file to which a path's way leads.
func (s *state) file(path string) *api.Thing {
	x := s.there(path, true)
	refuse(api.ErrIsDir, x.Kind == api.InodeDir)
	return &s.things[x.Inode]
}

func (s *state) read(c api.Call) api.Answer {
	refuse(api.ErrArg, c.At < 0 || c.Many < 0)
	all := s.file(c.Path).Bytes
	rest := all[min(c.At, len(all)):]
	return api.Answer{Bytes: bytes.Clone(rest[:min(c.Many, len(rest))])}
}

// sized tells bytes as so many, noughts behind those that there were.
func sized(b []byte, n int) []byte {
	out := make([]byte, n)
	copy(out, b)
	return out
}

func (s *state) write(c api.Call) api.Answer {
	refuse(api.ErrArg, c.At < 0)
	refuse(api.ErrBig, len(c.Bytes) > api.MaxFile || c.At > api.MaxFile-len(c.Bytes))
	t := s.file(c.Path)
	if len(c.Bytes) > 0 {
		t.Bytes = sized(t.Bytes, max(len(t.Bytes), c.At+len(c.Bytes)))
		copy(t.Bytes[c.At:], c.Bytes)
	}
	return api.Answer{Size: len(c.Bytes)}
}

func (s *state) truncate(c api.Call) api.Answer {
	refuse(api.ErrArg, c.At < 0)
	refuse(api.ErrBig, c.At > api.MaxFile)
	t := s.file(c.Path)
	t.Bytes = sized(t.Bytes, c.At)
	return api.Answer{}
}

func (s *state) readdir(c api.Call) api.Answer {
	refuse(api.ErrArg, c.Many < 1)
	x := s.there(c.Path, true)
	refuse(api.ErrNotDir, x.Kind != api.InodeDir)
	a := api.Answer{Key: c.Key}
	for _, n := range s.things[x.Inode].Names {
		if n.Key >= c.Key && len(a.Names) < c.Many {
			a.Names = append(a.Names, n)
			a.Key = n.Key + 1
		}
	}
	return a
}
