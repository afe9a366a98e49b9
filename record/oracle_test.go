package record_test

import (
	"bytes"
	"encoding/binary"

	"millrace/api"
)

// mayBe is the chapter's words on which batch may be.
func mayBe(b api.Batch) bool {
	count := int64(len(b.Records))
	if count < 1 || count > 256 || len(batchBytes(b)) > 65536 || b.Base < 0 || b.Base > 1<<53 || b.Base+count-1 > 1<<53 {
		return false
	}
	for _, r := range b.Records {
		if r.Time < 0 || r.Time > 1<<53 || len(r.Key) > 256 || len(r.Value) > 4096 {
			return false
		}
	}
	return true
}

// guess reads what can be read as a batch, as far as it goes, and holds it to nothing.
func guess(b []byte) api.Batch {
	var out api.Batch
	if len(b) < 20 {
		return out
	}
	out.Base = int64(binary.LittleEndian.Uint64(b[8:]))
	count := binary.LittleEndian.Uint32(b[16:])
	b = b[20:]
	for i := uint32(0); i < count && len(b) >= 12; i++ {
		key := int(binary.LittleEndian.Uint16(b[8:]))
		value := int(binary.LittleEndian.Uint16(b[10:]))
		if len(b) < 12+key+value {
			break
		}
		out.Records = append(out.Records, api.Record{Time: int64(binary.LittleEndian.Uint64(b)), Key: b[12 : 12+key], Value: b[12+key : 12+key+value]})
		b = b[12+key+value:]
	}
	return out
}

// stands tells what stands at a place, by the chapter's words: a batch whose bytes are there is one that can be guessed.
func stands(b []byte, at int) (api.Batch, int, api.Errno) {
	if at < 0 || at > len(b) {
		return api.Batch{}, 0, api.ErrRange
	}
	b = b[at:]
	if len(b) == 0 {
		return api.Batch{}, 0, api.ErrEnd
	}
	batch := guess(b)
	if of := batchBytes(batch); mayBe(batch) && bytes.HasPrefix(b, of) {
		return batch, len(of), api.OK
	}
	if len(b) < 4 {
		return api.Batch{}, 0, api.ErrTorn
	}
	n := int64(binary.LittleEndian.Uint32(b))
	if n >= 28 && n <= 65536-4 && int64(len(b)-4) < n {
		return api.Batch{}, 0, api.ErrTorn
	}
	return api.Batch{}, 0, api.ErrCorrupt
}
