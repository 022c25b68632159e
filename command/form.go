package command

import "bollard/api"

const (
	minName  = 3
	etagSize = 64
)

// fields says which fields a kind of commands has beside Kind and Id; all others are zero.
type fields struct {
	bucket, key, upload, piece, part, parts, time, days bool
}

// fieldsOf is the fields of a kind; false, if there is no such kind.
func fieldsOf(kind int) (fields, bool) {
	switch kind {
	case api.CmdMake:
		return fields{bucket: true, time: true}, true
	case api.CmdDrop:
		return fields{bucket: true}, true
	case api.CmdPut:
		return fields{bucket: true, key: true, piece: true, time: true}, true
	case api.CmdDelete, api.CmdStart:
		return fields{bucket: true, key: true}, true
	case api.CmdPart:
		return fields{bucket: true, key: true, upload: true, part: true, piece: true}, true
	case api.CmdComplete:
		return fields{bucket: true, key: true, upload: true, parts: true, time: true}, true
	case api.CmdAbort:
		return fields{bucket: true, key: true, upload: true}, true
	case api.CmdRule:
		return fields{bucket: true, days: true}, true
	case api.CmdExpire:
		return fields{time: true}, true
	case api.CmdFloor:
		return fields{}, true
	}
	return fields{}, false
}

func inForm(c api.Command) bool {
	has, ok := fieldsOf(c.Kind)
	return ok && GoodId(c.Id) &&
		goodOrZero(has.bucket, GoodBucket(c.Bucket), c.Bucket == "") &&
		goodOrZero(has.key, GoodKey(c.Key), c.Key == "") &&
		goodOrZero(has.upload, GoodId(c.Upload), c.Upload == api.Id{}) &&
		goodOrZero(has.piece, goodPiece(c.Piece) && c.Piece.Blob == c.Id, c.Piece == api.Piece{}) &&
		goodOrZero(has.part, isPart(c.Part), c.Part == 0) &&
		goodOrZero(has.parts, goodParts(c.Parts), len(c.Parts) == 0) &&
		goodOrZero(has.time, isTime(c.Time), c.Time == 0) &&
		goodOrZero(has.days, isTime(c.Days), c.Days == 0)
}

// goodOrZero tells whether a field is as it must be: good, if the command has it, else zero.
func goodOrZero(has, good, zero bool) bool {
	if has {
		return good
	}
	return zero
}

// GoodBucket tells whether a bucket's name is good.
func GoodBucket(name string) bool {
	if len(name) < minName || len(name) > api.MaxName {
		return false
	}
	return everyByte(name, isNameByte) && isNameEnd(name[0]) && isNameEnd(name[len(name)-1])
}

// GoodKey tells whether a key is good.
func GoodKey(key string) bool {
	return len(key) >= 1 && len(key) <= api.MaxKey && everyByte(key, isKeyByte)
}

// GoodId tells whether an id is good.
func GoodId(id api.Id) bool {
	return id.Node >= 0 && id.Node < api.MaxWidth && isTime(id.Boot) && isTime(id.Seq)
}

func goodPiece(p api.Piece) bool {
	return GoodId(p.Blob) && p.Size >= 0 && p.Size <= api.MaxBody && goodEtag(p.Etag)
}

func goodEtag(etag string) bool {
	return len(etag) == etagSize && everyByte(etag, isDigit)
}

// goodParts need not ask whether there are too many: no more than MaxParts numbers rise from 1 to MaxParts.
func goodParts(parts []int) bool {
	last := 0
	for _, n := range parts {
		if !isPart(n) || n <= last {
			return false
		}
		last = n
	}
	return len(parts) > 0
}

func isPart(n int) bool { return n >= 1 && n <= api.MaxParts }

func isTime(n int) bool { return n >= 0 && n <= api.MaxTime }

// everyByte asks each byte by itself: ranging over the text itself would go over its runes.
func everyByte(text string, is func(c byte) bool) bool {
	for i := range len(text) {
		if !is(text[i]) {
			return false
		}
	}
	return true
}

func isNameByte(c byte) bool { return isNameEnd(c) || c == '-' || c == '.' }

// isNameEnd tells whether a name may begin and end with the byte.
func isNameEnd(c byte) bool { return 'a' <= c && c <= 'z' || '0' <= c && c <= '9' }

func isKeyByte(c byte) bool { return 32 <= c && c <= 126 }

// isDigit takes no capitals: layer 3's Hex writes none.
func isDigit(c byte) bool { return '0' <= c && c <= '9' || 'a' <= c && c <= 'f' }
