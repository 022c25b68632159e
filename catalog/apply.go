package catalog

import (
	"bollard/api"
	"bollard/shelf"
	"slices"
)

// change does what the command says to a catalog that may be changed. It tells a code ahead of all that it does, so that a command that is refused has changed nothing.
func change(c *api.Catalog, x api.Command) api.Outcome {
	switch x.Kind {
	case api.CmdMake:
		return makeBucket(c, x)
	case api.CmdDrop:
		return dropBucket(c, x)
	case api.CmdPut:
		return inBucket(c, x, putObject)
	case api.CmdDelete:
		return inBucket(c, x, deleteObject)
	case api.CmdStart:
		return inBucket(c, x, startUpload)
	case api.CmdPart:
		return inUpload(c, x, putPart)
	case api.CmdComplete:
		return inUpload(c, x, completeUpload)
	case api.CmdAbort:
		return inUpload(c, x, abortUpload)
	case api.CmdRule:
		return inBucket(c, x, setDays)
	case api.CmdExpire:
		return expire(c, x)
	case api.CmdFloor:
		return raiseFloor(c, x)
	}
	return refused(api.CodeBad)
}

func refused(code int) api.Outcome { return api.Outcome{Code: code} }

func done() api.Outcome { return api.Outcome{Code: api.CodeOK} }

func doneWith(etag string) api.Outcome { return api.Outcome{Code: api.CodeOK, Etag: etag} }

// inBucket does something to the command's bucket, if it is there.
func inBucket(c *api.Catalog, x api.Command, do func(b *api.Bucket, x api.Command) api.Outcome) api.Outcome {
	place, there := find(c.Buckets, x.Bucket, byName)
	if !there {
		return refused(api.CodeNoBucket)
	}
	return do(&c.Buckets[place], x)
}

// inUpload does something to the command's bucket and its upload there, if both are there.
func inUpload(c *api.Catalog, x api.Command, do func(b *api.Bucket, u *api.Upload, x api.Command) api.Outcome) api.Outcome {
	return inBucket(c, x, func(b *api.Bucket, x api.Command) api.Outcome {
		place, there := findUpload(b.Uploads, x.Key, x.Upload)
		if !there {
			return refused(api.CodeNoUpload)
		}
		return do(b, &b.Uploads[place], x)
	})
}

func makeBucket(c *api.Catalog, x api.Command) api.Outcome {
	if _, there := find(c.Buckets, x.Bucket, byName); there {
		return refused(api.CodeExists)
	}
	if len(c.Buckets) >= api.MaxBuckets {
		return refused(api.CodeTooMany)
	}
	c.Buckets = set(c.Buckets, x.Bucket, byName, api.Bucket{Name: x.Bucket, Time: x.Time})
	return done()
}

func dropBucket(c *api.Catalog, x api.Command) api.Outcome {
	return inBucket(c, x, func(b *api.Bucket, x api.Command) api.Outcome {
		if len(b.Objects) > 0 || len(b.Uploads) > 0 {
			return refused(api.CodeNotEmpty)
		}
		c.Buckets = without(c.Buckets, x.Bucket, byName)
		return done()
	})
}

func putObject(b *api.Bucket, x api.Command) api.Outcome {
	if !hasRoom(b, x.Key) {
		return refused(api.CodeTooMany)
	}
	b.Objects = set(b.Objects, x.Key, byKey, objectOf(x, x.Piece.Etag, []api.Piece{x.Piece}))
	return doneWith(x.Piece.Etag)
}

// hasRoom tells whether an object may be put: one more, or in the place of the one that has the key.
func hasRoom(b *api.Bucket, key string) bool {
	_, there := find(b.Objects, key, byKey)
	return there || len(b.Objects) < api.MaxObjects
}

func deleteObject(b *api.Bucket, x api.Command) api.Outcome {
	b.Objects = without(b.Objects, x.Key, byKey)
	return done()
}

// startUpload refuses also an id that is there, where there are MaxUploads: the document makes no exception of it.
func startUpload(b *api.Bucket, x api.Command) api.Outcome {
	if len(b.Uploads) >= api.MaxUploads {
		return refused(api.CodeTooMany)
	}
	b.Uploads = set(b.Uploads, x.Id, byId, api.Upload{Id: x.Id, Key: x.Key})
	return done()
}

func putPart(_ *api.Bucket, u *api.Upload, x api.Command) api.Outcome {
	u.Parts = set(u.Parts, x.Part, byNumber, api.Part{Number: x.Part, Piece: x.Piece})
	return doneWith(x.Piece.Etag)
}

func completeUpload(b *api.Bucket, u *api.Upload, x api.Command) api.Outcome {
	list, all := piecesOf(u.Parts, x.Parts)
	if !all {
		return refused(api.CodeNoPart)
	}
	if !hasRoom(b, x.Key) {
		return refused(api.CodeTooMany)
	}
	etag := Sum(list)
	b.Uploads = without(b.Uploads, x.Upload, byId)
	b.Objects = set(b.Objects, x.Key, byKey, objectOf(x, etag, list))
	return doneWith(etag)
}

func abortUpload(b *api.Bucket, _ *api.Upload, x api.Command) api.Outcome {
	b.Uploads = without(b.Uploads, x.Upload, byId)
	return done()
}

func setDays(b *api.Bucket, x api.Command) api.Outcome {
	b.Days = x.Days
	return done()
}

func expire(c *api.Catalog, x api.Command) api.Outcome {
	for i := range c.Buckets {
		b := &c.Buckets[i]
		if b.Days == 0 {
			continue
		}
		b.Objects = slices.DeleteFunc(b.Objects, func(o api.Object) bool { return o.Time+b.Days <= x.Time })
	}
	return done()
}

// raiseFloor leaves a floor that stands behind the id: what it let go must not be taken up again.
func raiseFloor(c *api.Catalog, x api.Command) api.Outcome {
	place, there := find(c.Floors, x.Id.Node, byNode)
	if !there || shelf.Compare(c.Floors[place], x.Id) < 0 {
		c.Floors = set(c.Floors, x.Id.Node, byNode, x.Id)
	}
	return done()
}

// objectOf is the object that a command puts or completes.
func objectOf(x api.Command, etag string, list []api.Piece) api.Object {
	return api.Object{Key: x.Key, Size: sizeOf(list), Etag: etag, Time: x.Time, Pieces: list}
}
