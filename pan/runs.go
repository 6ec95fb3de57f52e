package pan

import (
	"iter"

	"zafra/api"
)

// run is how strikes follow each other if waits take as long as a function says.
type run struct {
	Work
	takes  func(Wait) int
	recent recent[minutes]
}

// Runs returns when steps begin at the earliest.
func Runs(w Work, strikes int) ([][]api.Span, api.Errno) {
	if e := Check(w); e != api.OK {
		return nil, e
	}
	if !isWithin(strikes, 0, MaxStrikes) {
		return nil, api.ErrRange
	}
	// What takes longer lets nothing begin sooner, so that all ends of spans are so in two truths.
	least, most := run{Work: w, takes: Wait.least}, run{Work: w, takes: Wait.most}
	var spans [][]api.Span
	for range strikes {
		lo, hi := least.next(), most.next()
		spans = append(spans, spansOf(lo[:w.Steps], hi[:w.Steps]))
	}
	return spans, api.OK
}

func spansOf(lo, hi []int) []api.Span {
	var spans []api.Span
	for i := range lo {
		spans = append(spans, api.Span{Lo: lo[i], Hi: hi[i]})
	}
	return spans
}

// next returns the earliest beginnings of the steps of the next strike.
func (r *run) next() minutes {
	newest := r.recent.add()
	r.settle(newest, r.demands())
	return *newest
}

// demands yields what each wait demands of the newest strike, as the strike is by then.
func (r *run) demands() iter.Seq2[int, int] {
	return func(yield func(int, int) bool) {
		for n, wait := range r.Waits {
			before := r.recent.back(wait.Back)
			if before != nil && !yield(n, before[wait.From]+r.takes(wait)) {
				return
			}
		}
	}
}
