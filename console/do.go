package console

import (
	"strconv"

	"hedgerow/api"
	"hedgerow/deed"
	"hedgerow/image"
	"hedgerow/mount"
	"hedgerow/order"
	"hedgerow/yard"
)

// maxSteps is how many steps a client does of one line, at most.
const maxSteps = 5000

// build makes a device, in the place of what there was.
func (c *Console) build(g given) string {
	n := g.numbers
	words, e := mount.Make(api.Form{Blocks: n[0], Inodes: n[1], Records: n[2], Bits: n[3]}, [2]uint64{})
	refuse(e, e != api.OK)
	y, e := yard.New(words)
	refuse(e, e != api.OK)
	c.on = device{y}
	return done
}

// idle tells the first client that has no call, or gives up.
func (c *Console) idle() int {
	var busy [api.Clients]bool
	for _, x := range c.on.History() {
		if x.Ended < 0 && !x.Lost {
			busy[x.Client] = true
		}
	}
	for client, has := range busy {
		if !has {
			return client
		}
	}
	refuse(api.ErrLong, true)
	return 0
}

// whole does a call to its end; it is tried on a copy, so that nothing changes, where it can't be.
func (c *Console) whole(x api.Call) string {
	client := c.idle()
	next := c.on.Copy()
	_, e := next.Do(api.Hap{Kind: api.HapBegin, Client: client, Call: x})
	refuse(e, e != api.OK)
	for did := api.DidNothing; did != api.DidEnd; {
		did, e = next.Do(api.Hap{Kind: api.HapPick, Client: client})
		refuse(e, e != api.OK)
		refuse(api.ErrBusy, did == api.DidNothing)
	}
	c.on = device{next}
	all := next.History()
	return answered(x.Kind, all[len(all)-1].Answer)
}

// kindName tells a kind of inodes as a word.
func kindName(k api.InodeKind) string {
	switch k {
	case api.InodeFile:
		return "file"
	case api.InodeDir:
		return "dir"
	}
	return "link"
}

// answered tells a call's answer.
func answered(k api.CallKind, a api.Answer) string {
	if a.Errno != api.OK {
		return failed(a.Errno)
	}
	switch k {
	case api.CallMkdir, api.CallCreate, api.CallSymlink, api.CallLink, api.CallRename:
		return numeral(a.Inode)
	case api.CallLookup:
		return together(numeral(a.Inode), kindName(a.Kind))
	case api.CallStat:
		return together(numeral(a.Inode), kindName(a.Kind), numeral(a.Links), numeral(a.Size))
	case api.CallReadlink:
		return a.Text
	case api.CallRead:
		return hex(a.Bytes)
	case api.CallWrite:
		return numeral(a.Size)
	case api.CallReaddir:
		return named(a)
	}
	return done
}

// key tells a key as a text.
func key(k uint64) string { return strconv.FormatUint(k, 10) }

// named tells the names of an answer, and its key.
func named(a api.Answer) string {
	end := key(a.Key)
	if len(a.Names) == 0 {
		return end
	}
	return told(a.Names, between, func(n api.Named) string {
		return together(key(n.Key), n.Name, numeral(n.Inode))
	}) + between + end
}

// pick lets a client step so many times, and tells how many steps it did.
func (c *Console) pick(g given) string {
	n := 0
	for n < min(g.numbers[1], maxSteps) {
		if _, e := c.on.Do(api.Hap{Kind: api.HapPick, Client: g.numbers[0]}); e != api.OK {
			break
		}
		n++
	}
	return numeral(n)
}

// said tells whether something is so.
func said(is bool) string {
	if is {
		return yes
	}
	return no
}

func (c *Console) up() string { return said(c.on.Up()) }

func (c *Console) moments() string {
	return told(c.on.History(), between, func(x api.Moment) string {
		entry := together(numeral(x.Began), numeral(x.Read), numeral(x.Ended))
		if x.Lost {
			return together(entry, "lost")
		}
		return entry
	})
}

func (c *Console) order() string {
	list, e := order.Reads(c.on.History())
	refuse(e, e != api.OK)
	return told(list, blank, numeral)
}

// mounted tells the words of the memory put right, and their image, or gives up.
func (c *Console) mounted() ([]uint64, api.Image) {
	words, x, e := mount.Mount(c.on.Memory().Image())
	refuse(e, e != api.OK)
	return words, x
}

func (c *Console) list() string {
	words, _ := c.mounted()
	var paths []string
	for path, t := range image.Each(words) {
		if path == "/" {
			continue
		}
		if t.Kind == api.InodeDir {
			path += "/"
		}
		paths = append(paths, path)
	}
	return told(paths, between, func(path string) string { return path })
}

func (c *Console) free() string {
	words, x := c.mounted()
	spare, e := deed.Spare(words)
	refuse(e, e != api.OK)
	form := x.Layout.Form
	return together(numeral(form.Inodes-len(x.Things)), numeral(form.Records-len(x.Records)), numeral(len(spare)))
}

func (c *Console) neat() string {
	e := mount.Neat(c.on.Memory().Image())
	refuse(e, e != api.OK && e != api.ErrState)
	return said(e == api.OK)
}

func (c *Console) word(g given) string {
	v, e := c.on.Memory().Load(g.numbers[0])
	refuse(e, e != api.OK)
	return key(v)
}
