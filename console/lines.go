package console

import (
	"slices"
	"strconv"

	"hedgerow/api"
)

// maxNumber is the greatest number of a line.
const maxNumber = 1<<31 - 1

// given is what stands behind a line's first word, by kinds: numbers, words, bytes.
type given struct {
	numbers []int
	words   []string
	bytes   []byte
	nested  *given
	call    command
}

// command is what a line is: the kinds of its words (N a number, P any word, H bytes, C a call's line), whether it asks a device, the call that it is, what it does.
type command struct {
	kinds string
	asks  bool
	call  func(g given) api.Call
	do    func(c *Console, g given) string
}

// number reads a number, or gives up.
func number(word string) int {
	n, e := strconv.ParseUint(word, 10, 32)
	refuse(api.ErrLine, e != nil || n > maxNumber || strconv.FormatUint(n, 10) != word)
	return int(n)
}

// digit reads a digit to the base 16, or gives up.
func digit(c byte) byte {
	switch {
	case '0' <= c && c <= '9':
		return c - '0'
	case 'a' <= c && c <= 'f':
		return c - 'a' + 10
	}
	refuse(api.ErrLine, true)
	return 0
}

// unhex reads bytes, two digits each, or gives up.
func unhex(word string) []byte {
	if word == noBytes {
		return nil
	}
	refuse(api.ErrLine, len(word)%2 != 0)
	var out []byte
	for i := 0; i < len(word); i += 2 {
		out = append(out, digit(word[i])<<4|digit(word[i+1]))
	}
	return out
}

// hex tells bytes, two digits each; - for none.
func hex(b []byte) string {
	if len(b) == 0 {
		return noBytes
	}
	const digits = "0123456789abcdef"
	var out []byte
	for _, c := range b {
		out = append(out, digits[c>>4], digits[c&15])
	}
	return string(out)
}

// read reads the words behind a line's first one, or gives up.
func (x command) read(words []string) given {
	var g given
	for i, kind := range []byte(x.kinds) {
		refuse(api.ErrLine, i >= len(words) || words[i] == "")
		switch kind {
		case 'N':
			g.numbers = append(g.numbers, number(words[i]))
		case 'P':
			g.words = append(g.words, words[i])
		case 'H':
			g.bytes = unhex(words[i])
		case 'C':
			call, is := lines()[words[i]]
			refuse(api.ErrLine, !is || call.call == nil)
			rest := call.read(words[i+1:])
			g.nested, g.call = &rest, call
			return g
		}
	}
	refuse(api.ErrLine, len(words) != len(x.kinds))
	return g
}

// calling tells the line of a call.
func calling(kinds string, fill func(g given) api.Call) command {
	return command{kinds: kinds, asks: true, call: fill, do: func(c *Console, g given) string {
		return c.whole(fill(g))
	}}
}

// pathed tells the line of a call at a path.
func pathed(k api.CallKind) command {
	return calling("P", func(g given) api.Call { return api.Call{Kind: k, Path: g.words[0]} })
}

// doubled tells the line of a call at a path, with another text.
func doubled(k api.CallKind) command {
	return calling("PP", func(g given) api.Call { return api.Call{Kind: k, Path: g.words[0], To: g.words[1]} })
}

// happening tells the line of a hap.
func happening(kinds string, fill func(g given) api.Hap) command {
	return command{kinds: kinds, asks: true, do: func(c *Console, g given) string {
		_, e := c.on.Do(fill(g))
		refuse(e, e != api.OK)
		return done
	}}
}

// asking tells the line of what only asks.
func asking(tell func(c *Console) string) command {
	return command{asks: true, do: func(c *Console, _ given) string { return tell(c) }}
}

// lines tells what there is of lines, by their first words.
func lines() map[string]command {
	return map[string]command{
		"make":     {kinds: "NNNN", do: (*Console).build},
		"mkdir":    pathed(api.CallMkdir),
		"create":   pathed(api.CallCreate),
		"rmdir":    pathed(api.CallRmdir),
		"unlink":   pathed(api.CallUnlink),
		"lookup":   pathed(api.CallLookup),
		"stat":     pathed(api.CallStat),
		"readlink": pathed(api.CallReadlink),
		"link":     doubled(api.CallLink),
		"symlink":  doubled(api.CallSymlink),
		"rename":   doubled(api.CallRename),
		"read": calling("PNN", func(g given) api.Call {
			return api.Call{Kind: api.CallRead, Path: g.words[0], At: g.numbers[0], Many: g.numbers[1]}
		}),
		"write": calling("PNH", func(g given) api.Call {
			return api.Call{Kind: api.CallWrite, Path: g.words[0], At: g.numbers[0], Bytes: slices.Clone(g.bytes)}
		}),
		"truncate": calling("PN", func(g given) api.Call {
			return api.Call{Kind: api.CallTruncate, Path: g.words[0], At: g.numbers[0]}
		}),
		"readdir": calling("PNN", func(g given) api.Call {
			return api.Call{Kind: api.CallReaddir, Path: g.words[0], Key: uint64(g.numbers[0]), Many: g.numbers[1]}
		}),
		"begin": happening("NC", func(g given) api.Hap {
			return api.Hap{Kind: api.HapBegin, Client: g.numbers[0], Call: g.call.call(*g.nested)}
		}),
		"pick":    {kinds: "NN", asks: true, do: (*Console).pick},
		"evict":   happening("N", func(g given) api.Hap { return api.Hap{Kind: api.HapEvict, N: g.numbers[0]} }),
		"crash":   happening("H", func(g given) api.Hap { return api.Hap{Kind: api.HapCrash, Picks: g.bytes} }),
		"mount":   happening("N", func(g given) api.Hap { return api.Hap{Kind: api.HapMount, N: g.numbers[0]} }),
		"up":      asking((*Console).up),
		"moments": asking((*Console).moments),
		"order":   asking((*Console).order),
		"list":    asking((*Console).list),
		"free":    asking((*Console).free),
		"neat":    asking((*Console).neat),
		"word":    {kinds: "N", asks: true, do: (*Console).word},
	}
}
