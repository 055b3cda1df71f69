package queue_test

import (
	"testing"

	"besom/api"
	"besom/queue"
	"besom/reach"
	"besom/sample"
)

// 17.3

// TestEachOnce: every item that waits is run once, in order, whether one by one or all at once, and nothing else changes.
func TestEachOnce(t *testing.T) {
	p := sample.Picks(102)
	ran := 0
	for i, start := range gcs(400) {
		var all []api.Ran
		g := start
		for len(all) < len(start.Queue) && p.Below(9) > 0 {
			got, one, why := queue.Run(g)
			if why != api.OK || reach.Check(got) != api.OK {
				t.Fatalf("heap %d: error %d", i, why)
			}
			g, all = got, append(all, one)
		}
		got, others, why := queue.Drain(g)
		all = append(all, others...)
		if why != api.OK || reach.Check(got) != api.OK || len(all) != len(start.Queue) {
			t.Fatalf("heap %d: %d of %d items, error %d", i, len(all), len(start.Queue), why)
		}
		for k, item := range start.Queue {
			if all[k].Item != item {
				t.Fatalf("heap %d: item %d is %v, want %v", i, k, all[k].Item, item)
			}
		}
		got.Queue = start.Queue
		if !same(got, start) {
			t.Fatalf("heap %d: more than the queue has changed", i)
		}
		ran += len(all)
	}
	if ran < 5000 {
		t.Error(ran)
	}
}
