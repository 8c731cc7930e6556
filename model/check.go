package model

import (
	"strings"

	"hedgerow/api"
	"hedgerow/record"
)

// target says whether a text may be a link's target.
func target(text string) bool {
	return len(text) >= 1 && len(text) <= api.MaxTarget && strings.IndexByte(text, 0) < 0
}

// check gives up on things that are no state.
func (s *state) check() {
	for _, t := range s.things {
		refuse(api.ErrState, !kindly(t))
	}
	links := make([]int, len(s.things))
	names := 0
	for _, t := range s.things {
		s.checkNames(t)
		names += len(t.Names)
		for _, n := range t.Names {
			refuse(api.ErrState, n.Inode <= root || n.Inode >= len(s.things))
			named := s.things[n.Inode]
			refuse(api.ErrState, named.Kind == api.InodeNone || named.Kind == api.InodeDir && named.Parent != t.Inode)
			links[n.Inode]++
		}
	}
	refuse(api.ErrState, names > s.Form.Records)
	links[root] = 1
	for i, t := range s.things {
		refuse(api.ErrState, t.Links != links[i] || t.Kind != api.InodeNone && t.Links < 1 || t.Links > api.MaxLinks)
		refuse(api.ErrState, t.Kind == api.InodeDir && (t.Links != 1 || !s.rooted(i)))
	}
	refuse(api.ErrState, s.things[root].Kind != api.InodeDir || s.things[root].Parent != root)
}

// kindly says whether a thing has what its kind names, and no more.
func kindly(t api.Thing) bool {
	switch t.Kind {
	case api.InodeFile:
		return len(t.Bytes) <= api.MaxFile && t.Parent == 0 && len(t.Names) == 0 && t.Target == ""
	case api.InodeDir:
		return len(t.Bytes) == 0 && t.Target == ""
	case api.InodeLink:
		return len(t.Bytes) == 0 && t.Parent == 0 && len(t.Names) == 0 && target(t.Target)
	}
	return sameThing(t, api.Thing{})
}

// checkNames gives up on names that may not be in a directory.
func (s *state) checkNames(t api.Thing) {
	seen := map[string]int{}
	for i, n := range t.Names {
		refuse(api.ErrState, i > 0 && n.Key <= t.Names[i-1].Key || seen[n.Name] != 0)
		seen[n.Name] = 1
		sum, e := record.Sum(s.Layout, n.Name)
		has, _ := record.Split(n.Key)
		refuse(api.ErrState, e != api.OK || sum != has)
	}
}

// rooted says whether the way up from a directory leads to the root.
func (s *state) rooted(n int) bool {
	for range s.things {
		if n == root {
			return true
		}
		n = s.things[n].Parent
		if n < root || n >= len(s.things) || s.things[n].Kind != api.InodeDir {
			return false
		}
	}
	return false
}
