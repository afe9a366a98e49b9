package segment_test

import (
	"bytes"
	"encoding/binary"
	"hash/crc32"
	"slices"

	"millrace/api"
)

// batchBytes are a batch's bytes by chapter 5's words, of one that may not be, too.
func batchBytes(b api.Batch) []byte {
	behind := binary.LittleEndian.AppendUint64(nil, uint64(b.Base))
	behind = binary.LittleEndian.AppendUint32(behind, uint32(len(b.Records)))
	for _, r := range b.Records {
		behind = binary.LittleEndian.AppendUint64(behind, uint64(r.Time))
		behind = binary.LittleEndian.AppendUint16(behind, uint16(len(r.Key)))
		behind = binary.LittleEndian.AppendUint16(behind, uint16(len(r.Value)))
		behind = slices.Concat(behind, r.Key, r.Value)
	}
	out := binary.LittleEndian.AppendUint32(nil, uint32(4+len(behind)))
	out = binary.LittleEndian.AppendUint32(out, crc32.Checksum(behind, crc32.MakeTable(crc32.Castagnoli)))
	return append(out, behind...)
}

// plain is a right segment by the chapter's words: a list of batches, gone through for each question.
type plain struct {
	base    int64
	step    int
	batches []api.Batch
}

func (p *plain) end() int64 {
	n := p.base
	for _, b := range p.batches {
		n += int64(len(b.Records))
	}
	return n
}

func (p *plain) bytes() []byte {
	var out []byte
	for _, b := range p.batches {
		out = append(out, batchBytes(b)...)
	}
	return out
}

// spots are the index' ones, by chapter 9's words.
func (p *plain) spots() []api.Spot {
	var l []api.Spot
	place := 0
	for _, b := range p.batches {
		if len(l) == 0 || place >= l[len(l)-1].Place+p.step {
			l = append(l, api.Spot{Offset: b.Base, Place: place})
		}
		place += len(batchBytes(b))
	}
	return l
}

// read is Read: records one by one, with their offsets.
func (p *plain) read(from, until int64, most int) ([]api.Record, api.Errno) {
	if most < 0 {
		return nil, api.ErrArg
	}
	if !(p.base <= from && from <= until && until <= p.end()) {
		return nil, api.ErrRange
	}
	var l []api.Record
	offset := p.base
	for _, b := range p.batches {
		for _, r := range b.Records {
			if offset >= from && offset < until && len(l) < most {
				l = append(l, r)
			}
			offset++
		}
	}
	return l, api.OK
}

// add puts a batch of these records at the end, and answers it.
func (p *plain) add(records ...api.Record) api.Batch {
	b := api.Batch{Base: p.end(), Records: records}
	p.batches = append(p.batches, b)
	return b
}

// foundIn tells what is found in bytes of a segment with that base: its batches may be nothing but the first ones of these, which were written with their bytes (a byte that has changed is told by the batch's sum), and behind them stands what chapter 5 says.
func foundIn(b []byte, base int64, written []api.Batch) api.Found {
	f := api.Found{End: base}
	for _, w := range written {
		of := batchBytes(w)
		if !bytes.HasPrefix(b[f.Size:], of) || w.Base != f.End {
			break
		}
		f.Batches++
		f.End += int64(len(w.Records))
		f.Size += len(of)
	}
	f.Why = whyNot(b[f.Size:])
	return f
}

// whyNot tells what stands where no batch does that could go on.
func whyNot(b []byte) api.Errno {
	if len(b) == 0 {
		return api.ErrEnd
	}
	if len(b) < 4 {
		return api.ErrTorn
	}
	n := int64(binary.LittleEndian.Uint32(b))
	if n >= 28 && n <= 65536-4 && int64(len(b)-4) < n {
		return api.ErrTorn
	}
	return api.ErrCorrupt
}
