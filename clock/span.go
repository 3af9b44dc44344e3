package clock

import (
	"iter"

	"customhouse/api"
)

// span is a shift with the instant that comes after its last one.
type span struct {
	api.Shift
	end int
}

// spans yields the shifts of a zone, each with its instants: those from From on that are less than end.
func spans(z api.Zone) iter.Seq[span] {
	return func(yield func(span) bool) {
		for i, shift := range z.Shifts {
			end := api.MaxInstant + 1
			if i+1 < len(z.Shifts) {
				end = z.Shifts[i+1].From
			}
			if !yield(span{shift, end}) {
				return
			}
		}
	}
}

// offsetAt returns the offset of a valid zone at an instant: that of the last shift whose From is not greater.
func offsetAt(z api.Zone, instant int) int {
	var offset int
	for s := range spans(z) {
		if s.From <= instant {
			offset = s.Offset
		}
	}
	return offset
}
