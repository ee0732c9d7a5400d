package tests

import (
	"math/rand"
	"slices"
	"testing"

	"loop.example/loggertree/impl"
)

// sameQueue reports whether two queues are the same, where nil and no items are one.
func sameQueue(a, b impl.Queue) bool {
	return a.Room == b.Room && a.Lost == b.Lost && slices.Equal(a.Items, b.Items)
}

// Promise 44: a valid queue is valid without its first item.
func TestQueuesCanBeCut(t *testing.T) {
	for _, q := range goodQueues() {
		for n := range len(q.Items) + 1 {
			cut := impl.Queue{Room: q.Room, Items: q.Items[n:], Lost: q.Lost}
			if !impl.ValidQueue(cut) {
				t.Errorf("ValidQueue(%v) = false", cut)
			}
		}
	}
	for _, b := range badQueues() {
		if impl.ValidQueue(b.queue) {
			t.Errorf("ValidQueue with %s", b.why)
		}
	}
	for room := -1; room < 15; room++ {
		for n := range 15 {
			q := impl.Queue{Room: room, Items: slices.Repeat(rise(10), n)}
			if impl.ValidQueue(q) != (room >= 1 && room <= 12 && n <= room) {
				t.Errorf("ValidQueue of room %d with %d items", room, n)
			}
		}
	}
}

// Promise 45: of an empty queue TakeRecord after PutRecord is the record, and of a full one nothing but Lost changes.
func TestWhatIsPutIsTaken(t *testing.T) {
	for _, q := range goodQueues() {
		for _, r := range []impl.Record{letter(), {Level: 1}, {Name: "b", Level: 60, Text: "abcdefghijkl", Seq: 999}} {
			got, ok := impl.PutRecord(q, r)
			want := impl.Queue{Room: q.Room, Items: append(slices.Clone(q.Items), r), Lost: q.Lost}
			full := len(q.Items) == q.Room
			if full {
				want.Items, want.Lost = q.Items, q.Lost+1
				if want.Lost == 1000 {
					want.Lost = 999
				}
			}
			if ok == full || !sameQueue(got, want) || !impl.ValidQueue(got) {
				t.Errorf("PutRecord(%v, %v) = %v, %v", q, r, got, ok)
			}
			if len(q.Items) == 0 {
				if left, taken, ok := impl.TakeRecord(got); !ok || taken != r || !sameQueue(left, q) {
					t.Errorf("TakeRecord(%v) = %v, %v, %v", got, left, taken, ok)
				}
			}
		}
	}
}

// Promise 46: TakeRecord and the items left are the items, and then there is room for one.
func TestWhatIsTakenWasFirst(t *testing.T) {
	for _, q := range goodQueues() {
		left, r, ok := impl.TakeRecord(q)
		if len(q.Items) == 0 {
			if ok || r != (impl.Record{}) || !sameQueue(left, impl.Queue{}) {
				t.Errorf("TakeRecord(%v) = %v, %v, %v", q, left, r, ok)
			}
			continue
		}
		if !ok || !slices.Equal(append([]impl.Record{r}, left.Items...), q.Items) || left.Room != q.Room || left.Lost != q.Lost {
			t.Errorf("TakeRecord(%v) = %v, %v, %v", q, left, r, ok)
		}
		if again, ok := impl.PutRecord(left, letter()); !ok || len(again.Items) != len(q.Items) || again.Lost != q.Lost {
			t.Errorf("PutRecord(%v) = %v, %v", left, again, ok)
		}
	}
}

func TestQueuesOfManyCalls(t *testing.T) {
	rnd := rand.New(rand.NewSource(11))
	for room := 1; room <= impl.MaxRecords; room++ {
		q := impl.Queue{Room: room, Lost: impl.MaxSeq - 3}
		var items []impl.Record
		lost, full, empty := q.Lost, 0, 0
		for i := range 400 {
			if rnd.Intn(50) < 20+i/20 { // at first it is emptied again and again, and then full
				r := impl.Record{Name: "a", Level: 1 + i%60, Seq: i}
				var ok bool
				q, ok = impl.PutRecord(q, r)
				if ok != (len(items) < room) {
					t.Fatalf("PutRecord = %v, %v", q, ok)
				}
				if ok {
					items = append(items, r)
				} else {
					full++
					lost = min(lost+1, 999)
				}
			} else {
				next, r, ok := impl.TakeRecord(q)
				if ok != (len(items) > 0) || ok && r != items[0] {
					t.Fatalf("TakeRecord(%v) = %v, %v, %v", q, next, r, ok)
				}
				if ok {
					q, items = next, items[1:]
				} else {
					empty++
				}
			}
			if !slices.Equal(q.Items, items) || q.Room != room || q.Lost != lost {
				t.Fatalf("%v has not %v, %d lost", q, items, lost)
			}
		}
		if full == 0 || empty == 0 || lost != 999 {
			t.Errorf("room %d: %d full, %d empty, %d lost", room, full, empty, lost)
		}
	}
}

func TestQueuesThatAreNotValid(t *testing.T) {
	for _, b := range badQueues() {
		for _, r := range []impl.Record{letter(), {Level: 1}, {}} {
			if got, ok := impl.PutRecord(b.queue, r); ok || !sameQueue(got, impl.Queue{}) {
				t.Errorf("PutRecord with %s = %v, %v", b.why, got, ok)
			}
		}
		if got, r, ok := impl.TakeRecord(b.queue); ok || r != (impl.Record{}) || !sameQueue(got, impl.Queue{}) {
			t.Errorf("TakeRecord with %s = %v, %v, %v", b.why, got, r, ok)
		}
	}
	for _, b := range badRecords() { // also where there is no room for it
		for _, q := range []impl.Queue{{Room: 1}, {Room: 1, Items: rise(10)}, {Room: 12, Items: rise(10, 20), Lost: 999}} {
			if got, ok := impl.PutRecord(q, b.record); ok || !sameQueue(got, impl.Queue{}) {
				t.Errorf("PutRecord with %s = %v, %v", b.why, got, ok)
			}
		}
	}
}
