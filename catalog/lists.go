package catalog

import (
	"bollard/api"
	"bollard/shelf"
	"cmp"
	"slices"
	"strings"
)

// find is the place in a rising list of the one with that mark, or the place where it would be put in; and whether it is there.
func find[T, M any](list []T, mark M, order func(one T, mark M) int) (int, bool) {
	return slices.BinarySearchFunc(list, mark, order)
}

// set puts the one with that mark into a rising list, in the place of the one that has it already, if there is one.
func set[T, M any](list []T, mark M, order func(one T, mark M) int, one T) []T {
	place, there := find(list, mark, order)
	if !there {
		return slices.Insert(list, place, one)
	}
	list[place] = one
	return list
}

// without takes the one with that mark out of a rising list, if it is there.
func without[T, M any](list []T, mark M, order func(one T, mark M) int) []T {
	place, there := find(list, mark, order)
	if !there {
		return list
	}
	return slices.Delete(list, place, place+1)
}

func byName(b api.Bucket, name string) int { return strings.Compare(b.Name, name) }

func byKey(o api.Object, key string) int { return strings.Compare(o.Key, key) }

func byId(u api.Upload, id api.Id) int { return shelf.Compare(u.Id, id) }

func byNumber(p api.Part, number int) int { return cmp.Compare(p.Number, number) }

func byNode(floor api.Id, node int) int { return cmp.Compare(floor.Node, node) }

// findUpload asks for the key too: an upload's id with another key names nothing.
func findUpload(list []api.Upload, key string, id api.Id) (int, bool) {
	place, there := find(list, id, byId)
	return place, there && list[place].Key == key
}
