package ballot

import (
	"bollard/api"
	"fmt"
	"math/big"
	"math/rand/v2"
	"slices"
	"strings"
	"testing"
)

// source gives the same numbers on every run.
func source() *rand.Rand { return rand.New(rand.NewPCG(9, 4096)) }

func bal(round, node int) api.Ballot { return api.Ballot{Round: round, Node: node} }

func none() api.Ballot { return api.Ballot{} }

// command is a command with something in each field, another one for each number.
func command(n int) api.Command {
	text := fmt.Sprint("text ", n, " of ")
	id := func(k int) api.Id { return api.Id{Node: n + k, Boot: n + k + 1, Seq: n + k + 2} }
	return api.Command{
		Kind: n%11 + 1, Id: id(10), Bucket: text + "bucket", Key: text + "key", Upload: id(20),
		Piece: api.Piece{Blob: id(30), Size: n + 40, Etag: text + "etag"},
		Part:  n + 50, Parts: []int{n + 60, n + 70, n + 80}, Time: n + 90, Days: n + 100,
	}
}

// row is a ledger of the commands with those numbers.
func row(numbers ...int) []api.Command {
	var out []api.Command
	for _, n := range numbers {
		out = append(out, command(n))
	}
	return out
}

// text is all that a ledger holds; two ledgers that mean the same have the same text.
func text(ledger []api.Command) string { return fmt.Sprintf("%+v", ledger) }

func newAcceptor(t *testing.T, node int) *Acceptor {
	t.Helper()
	a, err := New(node)
	if err != nil || a == nil {
		t.Fatal("a new acceptor of node", node, err)
	}
	return a
}

func good(t *testing.T, faults ...error) {
	t.Helper()
	for _, err := range faults {
		if err != nil {
			t.Fatal(err)
		}
	}
}

// told is all that an acceptor tells of itself without being changed.
func told(a *Acceptor) string {
	accepted, ledger := a.Accepted()
	return fmt.Sprint("promised ", a.Promised(), " accepted ", accepted, text(ledger))
}

// plainPlace is a ballot as one number, by which ballots with Nodes of the language's whole range stand as the chapter says.
func plainPlace(b api.Ballot) *big.Int {
	place := new(big.Int).Lsh(big.NewInt(int64(b.Round)), 65)
	return place.Add(place, big.NewInt(int64(b.Node)))
}

func plainAbove(a, b api.Ballot) bool { return plainPlace(a).Cmp(plainPlace(b)) == 1 }

func plainLegal(b api.Ballot) bool {
	low, high := plainPlace(bal(1, 0)), plainPlace(bal(1099511627776, 15))
	place := plainPlace(b)
	return place.Cmp(low) >= 0 && place.Cmp(high) <= 0 && strings.Contains(" 0 1 2 3 4 5 6 7 8 9 10 11 12 13 14 15 ", fmt.Sprint(" ", b.Node, " "))
}

// plainTaken is a Prepare or an Accept that was taken.
type plainTaken struct {
	ballot api.Ballot
	accept bool
	ledger string
}

// plainAcceptor is the other implementation: it keeps all that was taken and all that was claimed, and finds each answer anew.
type plainAcceptor struct {
	node   int
	taken  []plainTaken
	claims []int
}

func (p *plainAcceptor) promised() api.Ballot {
	greatest := none()
	for _, one := range p.taken {
		if plainAbove(one.ballot, greatest) {
			greatest = one.ballot
		}
	}
	return greatest
}

// accepted is the newest Accept that was taken.
func (p *plainAcceptor) accepted() (api.Ballot, string) {
	for _, one := range slices.Backward(p.taken) {
		if one.accept {
			return one.ballot, one.ledger
		}
	}
	return none(), text(nil)
}

func (p *plainAcceptor) take(b api.Ballot, accept bool, ledger string) error {
	switch {
	case !plainLegal(b):
		return api.ErrNumber
	case plainAbove(p.promised(), b):
		return api.ErrBallot
	}
	p.taken = append(p.taken, plainTaken{b, accept, ledger})
	return nil
}

func (p *plainAcceptor) prepare(b api.Ballot) (api.Ballot, string, error) {
	if err := p.take(b, false, ""); err != nil {
		return none(), text(nil), err
	}
	accepted, ledger := p.accepted()
	return accepted, ledger, nil
}

// claim takes the Round behind the greatest in a list of all that count.
func (p *plainAcceptor) claim(above api.Ballot) (api.Ballot, error) {
	rounds := append([]int{p.promised().Round}, p.claims...)
	if plainLegal(bal(above.Round, 0)) {
		rounds = append(rounds, above.Round)
	}
	round := slices.Max(rounds) + 1
	if !plainLegal(bal(round, p.node)) {
		return none(), api.ErrFull
	}
	p.claims = append(p.claims, round)
	return bal(round, p.node), nil
}

func (p *plainAcceptor) told() string {
	accepted, ledger := p.accepted()
	return fmt.Sprint("promised ", p.promised(), " accepted ", accepted, ledger)
}

// pair is an acceptor and one of the other implementation, to which the same is done.
type pair struct {
	acceptor *Acceptor
	plain    *plainAcceptor
}

func newPair(t *testing.T, node int) pair {
	t.Helper()
	return pair{newAcceptor(t, node), &plainAcceptor{node: node}}
}

// same asks that both of the pair tell the same.
func (p pair) same(t *testing.T, row any) {
	t.Helper()
	if got, want := told(p.acceptor), p.plain.told(); got != want {
		t.Fatalf("behind %v:\n%s\nin the place of\n%s", row, got, want)
	}
}

// step is one call on an acceptor.
type step struct {
	call   string
	ballot api.Ballot
	ledger []api.Command
}

// String tells a step, in a fault that is found.
func (s step) String() string {
	return fmt.Sprintf("%s(%v, %d commands)", s.call, s.ballot, len(s.ledger))
}

// do does the step to both, and asks that both answer the same.
func (p pair) do(t *testing.T, s step) {
	t.Helper()
	var got, want string
	switch a, b := p.acceptor, p.plain; s.call {
	case "Prepare":
		accepted, ledger, err := a.Prepare(s.ballot)
		wanted, row, fault := b.prepare(s.ballot)
		got, want = fmt.Sprint(accepted, text(ledger), err), fmt.Sprint(wanted, row, fault)
	case "Accept":
		got, want = fmt.Sprint(a.Accept(s.ballot, s.ledger)), fmt.Sprint(b.take(s.ballot, true, text(s.ledger)))
	case "Claim":
		claimed, err := a.Claim(s.ballot)
		wanted, fault := b.claim(s.ballot)
		got, want = fmt.Sprint(claimed, err), fmt.Sprint(wanted, fault)
	case "Promised":
		got, want = fmt.Sprint(a.Promised()), fmt.Sprint(b.promised())
	case "Accepted":
		accepted, ledger := a.Accepted()
		wanted, row := b.accepted()
		got, want = fmt.Sprint(accepted, text(ledger)), fmt.Sprint(wanted, row)
	default:
		t.Fatal("no such call:", s.call)
	}
	if got != want {
		t.Fatalf("%v: %v in the place of %v", s, got, want)
	}
}
