package frame

import (
	"bollard/api"
	"bollard/wire"
)

const (
	// formNumber is the first number of every head.
	formNumber = 1
	// maxHead is how many bytes of a head are read; those that are written have fewer.
	maxHead = 256
)

// numbers are a head's: the form's, the blob's node, boot and seq, the shard's number, the blob's size, and how many bytes the shard has.
type numbers [7]int

// most is the greatest that each of them may be.
var most = numbers{formNumber, api.MaxWidth - 1, api.MaxTime, api.MaxTime, api.MaxWidth - 1, api.MaxBody, api.MaxBody}

func numbersOf(s api.Stamp, size int) numbers {
	return numbers{formNumber, s.Blob.Node, s.Blob.Boot, s.Blob.Seq, s.Shard, s.Size, size}
}

func (n numbers) stamp() api.Stamp {
	return api.Stamp{Blob: api.Id{Node: n[1], Boot: n[2], Seq: n[3]}, Shard: n[4], Size: n[5]}
}

// size is how many bytes the shard has.
func (n numbers) size() int { return n[6] }

// inForm tells whether each number of the stamp is one that a head may have.
func inForm(s api.Stamp) bool {
	for i, n := range numbersOf(s, 0) {
		if n < 0 || n > most[i] {
			return false
		}
	}
	return true
}

// headOf is the head of a shard of so many bytes.
func headOf(s api.Stamp, size int) ([]byte, error) {
	inner := wire.NewWriter()
	for _, n := range numbersOf(s, size) {
		inner.Num(n)
	}
	plain, err := inner.Done()
	if err != nil {
		return nil, err
	}
	head := wire.NewWriter()
	head.Bytes(wire.Seal(plain))
	return head.Done()
}

// split is the numbers of a frame's head, and what stands behind the head: the frame's own memory, so not to be handed out.
func split(frame []byte) (numbers, []byte, error) {
	r := wire.NewReader(frame)
	sealed, err := r.Bytes(maxHead)
	if err != nil {
		return numbers{}, nil, err
	}
	plain, err := wire.Open(sealed)
	if err != nil {
		return numbers{}, nil, err
	}
	n, err := readNumbers(plain)
	if err != nil {
		return numbers{}, nil, err
	}
	return n, frame[len(frame)-r.Left():], nil
}

// readNumbers is the numbers of which a head is made, if it is made of nothing else.
func readNumbers(plain []byte) (numbers, error) {
	r := wire.NewReader(plain)
	var n numbers
	for i := range n {
		var err error
		n[i], err = r.Num(most[i])
		if err != nil {
			return numbers{}, err
		}
	}
	if n[0] != formNumber || r.Left() > 0 {
		return numbers{}, api.ErrBytes
	}
	return n, nil
}
