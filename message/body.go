package message

import (
	"caravan/api"
	"caravan/bytes"
	"caravan/record"
)

// putBody answers the bytes of a message that Check has nothing against: no text and no row of it is too long.
func putBody(m api.Message) []byte {
	var b []byte
	switch m.Kind {
	case api.MHello:
		b = bytes.Put(b, 1, uint64(m.Device))
	case api.MConfig:
		b, _ = bytes.PutRow(b, m.Shares, putShare)
	case api.MIndex, api.MUpdate:
		b = bytes.Put(b, 1, uint64(m.Folder))
		b, _ = bytes.PutRow(b, m.Records, record.Put)
	case api.MRequest:
		b = bytes.Put(b, 4, uint64(m.ID))
		b = bytes.Put(b, 1, uint64(m.Folder))
		b, _ = bytes.PutText(b, m.Path)
		b = bytes.Put(b, 2, uint64(m.Off))
		b = bytes.Put(b, 2, uint64(m.Size))
		b = append(b, m.Hash[:]...)
	case api.MResponse:
		b = bytes.Put(b, 4, uint64(m.ID))
		b = bytes.Put(b, 1, uint64(m.Err))
		b, _ = bytes.PutText(b, m.Data)
	case api.MProgress:
		b = bytes.Put(b, 1, uint64(m.Folder))
		b, _ = bytes.PutText(b, m.Path)
		b, _ = bytes.PutRow(b, m.Have, putByte)
	case api.MClose:
		b = bytes.Put(b, 1, uint64(m.Err))
	}
	return b
}

// takeBody takes numbers as their widths let them be: it is Check that knows what they must be.
func takeBody(t *bytes.Tape, kind int) api.Message {
	m := api.Message{Kind: kind}
	switch kind {
	case api.MHello:
		m.Device = takeByte(t)
	case api.MConfig:
		m.Shares = bytes.Row(t, api.MaxFolders, takeShare)
	case api.MIndex, api.MUpdate:
		m.Folder = takeByte(t)
		m.Records = bytes.Row(t, api.MaxBatch, record.Take)
	case api.MRequest:
		m.ID = int(t.Num(4))
		m.Folder = takeByte(t)
		m.Path = t.Text(api.MaxPath)
		m.Off = int(t.Num(2))
		m.Size = int(t.Num(2))
		copy(m.Hash[:], t.Bytes(len(m.Hash))) // a torn tape has less than a digest
	case api.MResponse:
		m.ID = int(t.Num(4))
		m.Err = api.Errno(t.Num(1))
		m.Data = t.Text(mostData)
	case api.MProgress:
		m.Folder = takeByte(t)
		m.Path = t.Text(api.MaxPath)
		m.Have = bytes.Row(t, api.MaxBlocks, takeByte)
	case api.MClose:
		m.Err = api.Errno(t.Num(1))
	}
	return m
}

func putShare(b []byte, s api.Share) ([]byte, api.Errno) {
	b = bytes.Put(b, 1, uint64(s.Folder))
	b = bytes.Put(b, 1, uint64(s.Mode))
	b = bytes.Put(b, 8, s.IndexID)
	b = bytes.Put(b, 8, uint64(s.Seq))
	b = bytes.Put(b, 8, s.Known)
	return bytes.Put(b, 8, uint64(s.KnownSeq)), api.OK
}

func takeShare(t *bytes.Tape) api.Share {
	s := api.Share{Folder: takeByte(t), Mode: takeByte(t)}
	s.IndexID, s.Seq = t.Num(8), int64(t.Num(8))
	s.Known, s.KnownSeq = t.Num(8), int64(t.Num(8))
	return s
}

func putByte(b []byte, n int) ([]byte, api.Errno) { return bytes.Put(b, 1, uint64(n)), api.OK }

func takeByte(t *bytes.Tape) int { return int(t.Num(1)) }
