package disk_test

import (
	"cmp"
	"slices"
	"strings"

	"millrace/api"
)

// plainByte is a byte that lasts, or does not.
type plainByte struct {
	b     byte
	lasts bool
}

// plainFile is a file, byte by byte.
type plainFile struct {
	name             string
	bytes            []plainByte
	there, nameLasts bool
}

// plain is the chapter's words on a disk: a list of files, the one made last at its end; all that is asked is looked for anew.
type plain struct {
	files []plainFile
	fates []api.Fate
	steps int
}

// place is where a file stands that is there, or may come back; -1 of none.
func (p *plain) place(name string) int {
	return slices.IndexFunc(p.files, func(f plainFile) bool { return f.name == name })
}

// file is a file that is there.
func (p *plain) file(name string) (*plainFile, api.Errno) {
	if len(name) == 0 || len(name) > 32 || strings.Trim(name, "abcdefghijklmnopqrstuvwxyz0123456789.-") != "" {
		return nil, api.ErrArg
	}
	if i := p.place(name); i >= 0 && p.files[i].there {
		return &p.files[i], api.OK
	}
	return nil, api.ErrNone
}

// fate is the next one.
func (p *plain) fate() (api.Fate, api.Errno) {
	p.steps++
	f := api.Fate{}
	if len(p.fates) > 0 {
		f, p.fates = p.fates[0], p.fates[1:]
	}
	return f, []api.Errno{api.OK, api.ErrDisk, api.ErrFull}[f.Kind]
}

func (p *plain) create(name string) api.Errno {
	if _, e := p.file(name); e == api.ErrArg {
		return e
	}
	if p.place(name) >= 0 {
		return api.ErrThere
	}
	if len(p.files) == 4096 {
		return api.ErrFull
	}
	_, e := p.fate()
	if e == api.OK {
		p.files = append(p.files, plainFile{name: name, there: true})
	}
	return e
}

func (p *plain) append(name string, b string) api.Errno {
	f, e := p.file(name)
	if e != api.OK {
		return e
	}
	if len(f.bytes)+len(b) > 1<<24 {
		return api.ErrFull
	}
	fate, e := p.fate()
	for i := range len(b) {
		if e == api.OK || i < fate.Keep {
			f.bytes = append(f.bytes, plainByte{b: b[i]})
		}
	}
	return e
}

func (p *plain) sync(name string) api.Errno {
	f, e := p.file(name)
	if e != api.OK {
		return e
	}
	fate, e := p.fate()
	for i := range f.bytes {
		if f.bytes[i].lasts {
			continue
		}
		if e == api.OK || fate.Keep > 0 {
			f.bytes[i].lasts = true
			fate.Keep--
		}
	}
	return e
}

func (p *plain) syncDir() api.Errno {
	_, e := p.fate()
	if e != api.OK {
		return e
	}
	var left []plainFile
	for _, f := range p.files {
		if f.there {
			f.nameLasts = true
			left = append(left, f)
		}
	}
	p.files = left
	return e
}

func (p *plain) cut(name string, size int) api.Errno {
	f, e := p.file(name)
	if e != api.OK {
		return e
	}
	if size < 0 || size > len(f.bytes) {
		return api.ErrRange
	}
	if _, e = p.fate(); e == api.OK {
		f.bytes = slices.Clone(f.bytes[:size])
	}
	return e
}

func (p *plain) remove(name string) api.Errno {
	f, e := p.file(name)
	if e != api.OK {
		return e
	}
	if _, e = p.fate(); e != api.OK {
		return e
	}
	if f.nameLasts {
		f.there = false
		f.bytes = slices.DeleteFunc(f.bytes, func(b plainByte) bool { return !b.lasts })
	} else {
		i := p.place(name)
		p.files = slices.Delete(p.files, i, i+1)
	}
	return e
}

// states are its files, by rising names.
func (p *plain) states() []state {
	var l []state
	for _, f := range p.files {
		s := state{name: f.name, there: f.there, nameLasts: f.nameLasts}
		for _, b := range f.bytes {
			s.bytes += string([]byte{b.b})
			if b.lasts {
				s.lasts++
			}
		}
		l = append(l, s)
	}
	slices.SortFunc(l, func(a, b state) int { return cmp.Compare(a.name, b.name) })
	return l
}

// way is picks that say of each thing that is unsure what becomes of it, and the files that are there then.
type way struct {
	picks []int
	left  []state
}

// ways are all ways in which a crash may go, by the chapter's words: files by rising names, one behind the other.
func ways(files []state) []way {
	if len(files) == 0 {
		return []way{{}}
	}
	f := files[0]
	behind := ways(files[1:])
	var l []way
	with := func(picks []int, left ...state) {
		for _, w := range behind {
			l = append(l, way{slices.Concat(picks, w.picks), slices.Concat(left, w.left)})
		}
	}
	var named []int
	if !f.there || !f.nameLasts {
		with([]int{0})
		named = []int{1}
	}
	for n := f.lasts; n <= len(f.bytes); n++ {
		picks := named
		if f.there && len(f.bytes) > f.lasts {
			picks = append(slices.Clone(named), n-f.lasts)
		}
		with(picks, state{f.name, f.bytes[:n], n, true, true})
	}
	return l
}
