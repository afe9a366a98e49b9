package partlog_test

import (
	"bytes"
	"cmp"
	"encoding/binary"
	"hash/crc32"
	"slices"
	"strconv"
	"strings"

	"millrace/api"
	"millrace/disk"
)

// batchBytes are a batch's bytes by chapter 5's words, of one that may not be, too.
func batchBytes(b api.Batch) []byte {
	behind := binary.LittleEndian.AppendUint64(nil, uint64(b.Base))
	behind = binary.LittleEndian.AppendUint32(behind, uint32(len(b.Records)))
	for _, r := range b.Records {
		behind = binary.LittleEndian.AppendUint64(behind, uint64(r.Time))
		behind = binary.LittleEndian.AppendUint16(behind, uint16(len(r.Key)))
		behind = binary.LittleEndian.AppendUint16(behind, uint16(len(r.Value)))
		behind = slices.Concat(behind, r.Key, r.Value)
	}
	out := binary.LittleEndian.AppendUint32(nil, uint32(4+len(behind)))
	out = binary.LittleEndian.AppendUint32(out, crc32.Checksum(behind, crc32.MakeTable(crc32.Castagnoli)))
	return append(out, behind...)
}

// batchesBytes are those of batches, one behind the other.
func batchesBytes(l []api.Batch) []byte {
	var out []byte
	for _, b := range l {
		out = append(out, batchBytes(b)...)
	}
	return out
}

// batchesFrom are batches of so many records each, one behind the other, from an offset on.
func batchesFrom(base int64, counts ...int) []api.Batch {
	var l []api.Batch
	for _, n := range counts {
		l = append(l, api.Batch{Base: base, Records: some(n, int(base%1000))})
		base += int64(n)
	}
	return l
}

// plain is a log by the chapter's words: its segments as lists of batches, gone through for each question; its steps are done on a disk of its own.
type plain struct {
	disk   *disk.Disk
	name   string
	roll   int
	stands int64
	dead   bool
	parts  []plainPart
}

// plainPart is a segment.
type plainPart struct {
	name    string
	base    int64
	batches []api.Batch
}

func (s plainPart) end() int64 {
	n := s.base
	for _, b := range s.batches {
		n += int64(len(b.Records))
	}
	return n
}

func (p *plain) begin() int64     { return p.parts[0].base }
func (p *plain) last() *plainPart { return &p.parts[len(p.parts)-1] }
func (p *plain) end() int64       { return p.last().end() }

func (p *plain) state() api.LogState {
	return api.LogState{Begin: p.begin(), End: p.end(), Stands: p.stands, Segments: len(p.parts), Dead: p.dead}
}

func (p *plain) names() []string {
	var l []string
	for _, s := range p.parts {
		l = append(l, s.name)
	}
	return l
}

func (p *plain) batches() []api.Batch {
	var l []api.Batch
	for _, s := range p.parts {
		l = append(l, s.batches...)
	}
	return l
}

func (p *plain) records() []api.Record {
	var l []api.Record
	for _, b := range p.batches() {
		l = append(l, b.Records...)
	}
	return l
}

// failed is a step's answer; behind one that is an error the log is dead.
func (p *plain) failed(e api.Errno) bool {
	if e != api.OK {
		p.dead = true
	}
	return p.dead
}

func (p *plain) append(records []api.Record) (int64, api.Errno) {
	if p.dead {
		return 0, api.ErrDead
	}
	if e := fits(records); e != api.OK {
		return 0, e
	}
	end := p.end()
	if end+int64(len(records)) > api.MaxOffset+1 {
		return 0, api.ErrLarge
	}
	if len(batchesBytes(p.last().batches)) >= p.roll {
		if e := p.rolls(); e != api.OK {
			return 0, e
		}
	}
	b := api.Batch{Base: end, Records: records}
	if e := p.disk.Append(p.last().name, batchBytes(b)); p.failed(e) {
		return 0, e
	}
	p.last().batches = append(p.last().batches, b)
	return end, api.OK
}

func (p *plain) rolls() api.Errno {
	if e := p.disk.Sync(p.last().name); p.failed(e) {
		return e
	}
	p.stands = p.end()
	return p.makes(p.stands)
}

// makes a segment with that base.
func (p *plain) makes(base int64) api.Errno {
	name := p.name + "-" + digits(base)
	if e := p.disk.Create(name); p.failed(e) {
		return e
	}
	p.parts = append(p.parts, plainPart{name: name, base: base})
	e := p.disk.SyncDir()
	p.failed(e)
	return e
}

func digits(base int64) string {
	s := strconv.FormatInt(base, 16)
	return strings.Repeat("0", 14-len(s)) + s
}

func (p *plain) sync() api.Errno {
	if p.dead {
		return api.ErrDead
	}
	e := p.disk.Sync(p.last().name)
	if !p.failed(e) {
		p.stands = p.end()
	}
	return e
}

func (p *plain) drop(before int64) (int, api.Errno) {
	if p.dead {
		return 0, api.ErrDead
	}
	n := 0
	for len(p.parts) >= 2 && p.parts[0].end() <= before {
		if e := p.disk.Remove(p.parts[0].name); p.failed(e) {
			return 0, e
		}
		p.parts = p.parts[1:]
		if e := p.disk.SyncDir(); p.failed(e) {
			return 0, e
		}
		n++
	}
	return n, api.OK
}

func (p *plain) read(from, until int64, most int) ([]api.Record, api.Errno) {
	if most < 0 {
		return nil, api.ErrArg
	}
	if !(p.begin() <= from && from <= until && until <= p.end()) {
		return nil, api.ErrRange
	}
	var l []api.Record
	for i, r := range p.records() {
		if at := p.begin() + int64(i); at >= from && at < until && len(l) < most {
			l = append(l, r)
		}
	}
	return l, api.OK
}

// fits is chapter 5's Fits.
func fits(records []api.Record) api.Errno {
	size := 20
	for _, r := range records {
		if r.Time < 0 || r.Time > api.MaxTime || len(r.Key) > api.MaxKey || len(r.Value) > api.MaxValue {
			return api.ErrArg
		}
		size += 12 + len(r.Key) + len(r.Value)
	}
	switch {
	case len(records) == 0:
		return api.ErrArg
	case len(records) > api.MaxRecords || size > api.MaxBatch:
		return api.ErrLarge
	}
	return api.OK
}

// openPlain is Open: the plain log, if its files are right, and what its steps answer.
func openPlain(d *disk.Disk, name string, c api.LogConfig) (*plain, api.Errno) {
	p := &plain{disk: d, name: name, roll: c.Roll}
	parts, torn, e := lookPlain(d, name)
	if e != api.OK {
		return nil, e
	}
	if len(parts) == 0 {
		if e := p.makes(0); e != api.OK {
			return nil, e
		}
		return p, api.OK
	}
	p.parts = parts
	last := p.last()
	if torn {
		if e := d.Cut(last.name, len(batchesBytes(last.batches))); e != api.OK {
			return nil, e
		}
		if e := d.Sync(last.name); e != api.OK {
			return nil, e
		}
	}
	if e := d.Sync(last.name); e != api.OK {
		return nil, e
	}
	p.stands = p.end()
	return p, api.OK
}

// lookPlain tells a log's segments, and whether the last one is torn; or why they are not right.
func lookPlain(d *disk.Disk, log string) (parts []plainPart, torn bool, e api.Errno) {
	for f := range d.All() {
		if base, ok := baseOf(f.Name, log); ok && f.There {
			parts = append(parts, plainPart{name: f.Name, base: base})
		}
	}
	slices.SortFunc(parts, func(a, b plainPart) int { return cmp.Compare(a.base, b.base) })
	var whys []api.Errno
	gap := false
	for i := range parts {
		s := &parts[i]
		b, _ := d.Read(s.name, 0, api.MaxSize)
		var why api.Errno
		s.batches, why = batchesIn(b, s.base)
		whys = append(whys, why)
		gap = gap || i > 0 && s.base != parts[i-1].end()
	}
	if e := orderOf(whys, gap); e != api.OK {
		return nil, false, e
	}
	return parts, len(whys) > 0 && whys[len(whys)-1] == api.ErrTorn, api.OK
}

// orderOf is the order of Open's errors in P11.1's words: ErrCorrupt, of the first one that is corrupt; ErrTorn, of one ahead of the last one that is torn; ErrGap.
func orderOf(whys []api.Errno, gap bool) api.Errno {
	torn := slices.Index(whys, api.ErrTorn)
	switch {
	case slices.Contains(whys, api.ErrCorrupt):
		return api.ErrCorrupt
	case torn >= 0 && torn < len(whys)-1:
		return api.ErrTorn
	case gap:
		return api.ErrGap
	}
	return api.OK
}

// baseOf reads a segment's name, by chapter 10's words.
func baseOf(name, log string) (int64, bool) {
	text, ok := strings.CutPrefix(name, log+"-")
	base, e := strconv.ParseInt(text, 16, 64)
	if !ok || e != nil || base < 0 || base > api.MaxOffset || text != digits(base) {
		return 0, false
	}
	return base, true
}

// batchesIn reads the whole batches with which bytes begin, from that offset on, and what stands behind them.
func batchesIn(b []byte, base int64) ([]api.Batch, api.Errno) {
	var l []api.Batch
	for {
		if len(b) == 0 {
			return l, api.ErrEnd
		}
		if len(b) < 4 {
			return l, api.ErrTorn
		}
		n := int64(binary.LittleEndian.Uint32(b))
		if n < 28 || n > 65536-4 {
			return l, api.ErrCorrupt
		}
		if int64(len(b)-4) < n {
			return l, api.ErrTorn
		}
		x, ok := batchIn(b[:4+n])
		if !ok || x.Base != base {
			return l, api.ErrCorrupt
		}
		l = append(l, x)
		base += int64(len(x.Records))
		b = b[4+n:]
	}
}

// batchIn reads a batch that has all these bytes: what is read must have them again.
func batchIn(b []byte) (api.Batch, bool) {
	x := api.Batch{Base: int64(binary.LittleEndian.Uint64(b[8:]))}
	n := binary.LittleEndian.Uint32(b[16:])
	for left := b[20:]; uint32(len(x.Records)) < n; {
		if len(left) < 12 {
			return api.Batch{}, false
		}
		key := int(binary.LittleEndian.Uint16(left[8:]))
		size := key + int(binary.LittleEndian.Uint16(left[10:]))
		if len(left)-12 < size {
			return api.Batch{}, false
		}
		bytes := left[12 : 12+size]
		x.Records = append(x.Records, api.Record{Time: int64(binary.LittleEndian.Uint64(left)), Key: bytes[:key], Value: bytes[key:]})
		left = left[12+size:]
	}
	ok := fits(x.Records) == api.OK && x.Base >= 0 && x.Base+int64(len(x.Records)) <= api.MaxOffset+1
	return x, ok && bytes.Equal(batchBytes(x), b)
}
