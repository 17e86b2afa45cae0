package books

import (
	"cardnet/api"
	"cardnet/disk"
	"cardnet/journal"
)

const maxOps = 16

// Keeper keeps books on a disk.
type Keeper struct {
	books   *Books
	journal *journal.Journal
	count   int
	stopped bool
}

// Open returns the keeper of the books on a disk.
func Open(s Setup, d *disk.Disk) (*Keeper, api.Errno) {
	if d == nil {
		return nil, api.ErrNone
	}
	if _, e := New(s); e != api.OK {
		return nil, e
	}
	j, e := journal.Open(d)
	if e != api.OK {
		return nil, e
	}
	records := j.Records()
	b, e := Replay(s, records)
	if e != api.OK {
		return nil, e
	}
	return &Keeper{books: b, journal: j, count: len(records)}, api.OK
}

// Do performs operations as a whole, and keeps them.
func (k *Keeper) Do(l []Op) api.Errno {
	if k == nil || k.books == nil {
		return api.ErrNone
	}
	if k.stopped {
		return api.ErrDown
	}
	if len(l) == 0 || len(l) > maxOps {
		return api.ErrRange
	}
	// The operations are tried on a copy, which replaces the books when they are kept.
	trial := k.books.clone()
	for _, op := range l {
		if e := trial.Do(op); e != api.OK {
			return e
		}
	}
	if e := k.append(l); e != api.OK {
		k.journal.Drop()
		return e
	}
	if e := k.journal.Commit(); e != api.OK {
		k.stopped = true
		return e
	}
	*k.books = *trial
	k.count += len(l)
	return api.OK
}

// append adds the texts of operations to the present group of the journal.
func (k *Keeper) append(l []Op) api.Errno {
	for _, op := range l {
		text, e := Encode(op)
		if e != api.OK {
			return e
		}
		if e := k.journal.Append(text); e != api.OK {
			return e
		}
	}
	return api.OK
}

// Books returns the books.
func (k *Keeper) Books() *Books {
	if k == nil {
		return nil
	}
	return k.books
}

// Count returns how many operations were kept.
func (k *Keeper) Count() int {
	if k == nil {
		return 0
	}
	return k.count
}
