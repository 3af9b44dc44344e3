package clock

import (
	"math"
	"math/rand/v2"
	"regexp"
	"slices"
	"strconv"
	"strings"
	"testing"

	"customhouse/api"
)

const last = api.MaxInstant

// zone returns the zone whose shifts have these numbers, in turn From and Offset.
func zone(numbers ...int) api.Zone {
	var z api.Zone
	for i := 0; i < len(numbers); i += 2 {
		z.Shifts = append(z.Shifts, api.Shift{From: numbers[i], Offset: numbers[i+1]})
	}
	return z
}

// many returns a zone of n shifts from the instants 0, step, 2*step and so on, with the offsets in turn.
func many(n, step int, offsets ...int) api.Zone {
	var z api.Zone
	for i := range n {
		z.Shifts = append(z.Shifts, api.Shift{From: i * step, Offset: offsets[i%len(offsets)]})
	}
	return z
}

// moved returns a zone with all offsets greater by a number.
func moved(z api.Zone, minutes int) api.Zone {
	shifts := slices.Clone(z.Shifts)
	for i := range shifts {
		shifts[i].Offset += minutes
	}
	return api.Zone{Shifts: shifts}
}

// shown returns the numbers of a zone.
func shown(z api.Zone) string {
	var l []string
	for _, s := range z.Shifts {
		l = append(l, strconv.Itoa(s.From)+": "+strconv.Itoa(s.Offset))
	}
	return "{" + strings.Join(l, ", ") + "}"
}

// example is the zone of the chapter's examples.
func example() api.Zone { return zone(0, 60, 10000, 120) }

// knownZones are valid zones with one offset, with shifts forwards and back, with days that begin twice, not at midnight, or not at all, with shifts at the first and the last instants, and with as many shifts as there may be.
func knownZones() []api.Zone {
	return []api.Zone{
		example(),
		zone(0, 0), zone(0, 1), zone(0, -1), zone(0, 60), zone(0, 345), zone(0, -840), zone(0, 840),
		zone(0, 60, 10000, 120, 20000, 60),
		zone(0, 60, 10000, 60), zone(0, -300, 4000, -300, 4001, -240),
		zone(0, 60, 1395, 0), zone(0, 60, 1395, 120), zone(0, 0, 1440, -60), zone(0, 0, 1440, 60), zone(0, 0, 1439, 1), zone(0, 1, 1439, 0),
		zone(0, -660, 9000, 780), zone(0, 780, 9000, -660), zone(0, 600, 7200, -840), zone(0, -840, 7200, 600),
		zone(0, -840, 3000, 840), zone(0, 840, 3000, -840), zone(0, 840, 1, -840), zone(0, -840, 1, 840),
		zone(0, 840, 700, 840, 1400, -840, 2100, 840, 2101, -840, 2102, 0),
		zone(0, 0, last, 0), zone(0, 0, last, 840), zone(0, 840, last, -840), zone(0, -840, last, 840), zone(0, -840, last-1, 0, last, 840),
		zone(0, 60, last-2000, 120, last-1000, 60), zone(0, 0, last-1440, -60, last-30, 0),
		many(20, 1, 60, 120), many(20, 1, -840, 840), many(20, 1, 840, -840), many(20, 700, 0, 1, 2, 3), many(20, 500, 840, 0, -840), many(20, 7000000, 60, 120), many(20, 1440, 0, -60, 60),
	}
}

// randomZones are valid zones whose shifts are near the first instant, near the last one, or anywhere.
func randomZones(n int) []api.Zone {
	r := rand.New(rand.NewPCG(6, 1))
	var l []api.Zone
	for i := range n {
		least, greatest := 1, 6000
		switch i % 3 {
		case 1:
			least, greatest = last-6000, last
		case 2:
			greatest = last
		}
		froms := []int{0}
		for range r.IntN(20) {
			froms = append(froms, least+r.IntN(greatest-least+1))
		}
		slices.Sort(froms)
		var z api.Zone
		for _, from := range slices.Compact(froms) {
			z.Shifts = append(z.Shifts, api.Shift{From: from, Offset: r.IntN(2*840+1) - 840})
		}
		l = append(l, z)
	}
	return l
}

// zones are all valid zones of these tests.
func zones() []api.Zone { return append(knownZones(), randomZones(60)...) }

// invalidZones are zones that are not valid.
func invalidZones() []api.Zone {
	return []api.Zone{
		{}, {Shifts: []api.Shift{}},
		many(21, 1, 0), many(21, 700, 60, 120), many(400, 10, 0),
		zone(1, 0), zone(-1, 0), zone(last, 0), zone(math.MinInt, 0), zone(math.MaxInt, 0), zone(1, 60, 2, 120), zone(-1, 60, 0, 120),
		zone(0, 0, 0, 0), zone(0, 60, 0, 120), zone(0, 0, -1, 0), zone(0, 0, math.MinInt, 0), zone(0, 0, math.MinInt+1, 0),
		zone(0, 0, 5, 0, 5, 0), zone(0, 0, 5, 0, 4, 0), zone(0, 0, 5, 0, 0, 0), zone(0, 0, 5, 0, 4, 0, 6, 0), zone(0, 0, 5, 0, 6, 0, 6, 0), zone(0, 0, 5, 0, math.MinInt, 0),
		zone(0, 0, last, 0, last, 0), zone(0, 0, last, 0, last-1, 0),
		zone(0, 0, last+1, 0), zone(0, 0, last, 0, last+1, 0), zone(0, 0, math.MaxInt, 0), zone(0, 0, 5, 0, math.MaxInt, 0, 7, 0), zone(0, 0, last+1, 0, last+2, 0),
		zone(0, 841), zone(0, -841), zone(0, 841, 5, 0), zone(0, -841, 5, 0), zone(0, 0, 5, 841), zone(0, 0, 5, -841), zone(0, 0, 5, 841, 6, 0), zone(0, 0, 5, -841, 6, 0), zone(0, 0, 5, 0, 6, 841), zone(0, 0, 5, 0, 6, -841),
		zone(0, math.MinInt), zone(0, math.MaxInt), zone(0, 0, 5, math.MinInt), zone(0, 0, 5, math.MaxInt),
		moved(many(20, 7, 0), 841), moved(many(20, 7, 0), -841),
	}
}

// noInstants are numbers that are no instants.
func noInstants() []int {
	return []int{-1, -2, -60, -1440, last + 1, last + 2, last + 1440, math.MinInt, math.MinInt + 1, math.MaxInt, math.MaxInt - 1}
}

// noMinutes are numbers that are no minutes of a day.
func noMinutes() []int {
	return []int{-1, -2, -1440, 1440, 1441, 2880, math.MinInt, math.MaxInt}
}

// offset returns the offset of a zone at an instant. It begins with the last shift.
func offset(z api.Zone, instant int) int {
	for i := len(z.Shifts) - 1; i > 0; i-- {
		if z.Shifts[i].From <= instant {
			return z.Shifts[i].Offset
		}
	}
	return z.Shifts[0].Offset
}

// minutes returns the local time of a zone at an instant, in minutes since the day 0 began.
func minutes(z api.Zone, instant int) int { return instant + offset(z, instant) }

// split returns the day and the minute of a local time.
func split(local int) (int, int) {
	day := int(math.Floor(float64(local) / 1440))
	return day, local - 1440*day
}

// instants are instants of a zone: the first and the last ones, those near its shifts, and random ones.
func instants(z api.Zone, n int) []int {
	r := rand.New(rand.NewPCG(6, 2))
	l := []int{0, 1, 59, 60, 839, 840, 841, 1439, 1440, 1441, last - 1440, last - 840, last - 1, last}
	for _, s := range z.Shifts {
		for _, near := range []int{-1681, -1680, -1440, -61, -60, -2, -1, 0, 1, 2, 60, 61, 1440, 1680, 1681} {
			l = append(l, s.From+near)
		}
		for range n {
			l = append(l, s.From+r.IntN(4001)-2000)
		}
	}
	for range n {
		l = append(l, r.IntN(last+1))
	}
	return slices.DeleteFunc(l, func(at int) bool { return at < 0 || at > last })
}

// times are local times to ask for, in minutes since the day 0 began: those near the local times of a zone, and those that are earlier or later than all of them.
func times(z api.Zone, n int) []int {
	r := rand.New(rand.NewPCG(6, 3))
	l := []int{-1 << 40, -5000, -1441, -1440, -1439, -841, -840, -839, -1, 0, 1, 839, 840, 1440, last - 840, last, last + 839, last + 840, last + 841, last + 1440, last + 1441, last + 2000, last + 3000, 1 << 40}
	for _, at := range instants(z, n) {
		l = append(l, minutes(z, at), minutes(z, at)+r.IntN(3001)-1500)
	}
	return l
}

// mustLocal returns the local time at an instant, in minutes since the day 0 began.
func mustLocal(t *testing.T, z api.Zone, at int) int {
	t.Helper()
	day, minute, err := Local(z, at)
	if err != api.OK || minute < 0 || minute > 1439 {
		t.Fatalf("Local of %s at %d is %d, %d, %d", shown(z), at, day, minute, err)
	}
	return 1440*day + minute
}

// P6.1, F1.
func TestValid(t *testing.T) {
	for _, z := range zones() {
		if !Valid(z) {
			t.Errorf("Valid(%s) is false", shown(z))
		}
	}
	for _, z := range invalidZones() {
		if Valid(z) {
			t.Errorf("Valid(%s) is true", shown(z))
		}
	}
}

// P6.1, F1: each limit of a zone, and what is beyond it.
func TestTheLimitsOfZones(t *testing.T) {
	for n := range 40 {
		if got, want := Valid(many(n, 1, 0)), n >= 1 && n <= 20; got != want {
			t.Errorf("Valid with %d shifts is %v", n, got)
		}
	}
	for offset := -1000; offset <= 1000; offset++ {
		want := offset >= -840 && offset <= 840
		for _, z := range []api.Zone{zone(0, offset), zone(0, 0, 9, offset), zone(0, 0, 9, offset, 10, 0)} {
			if got := Valid(z); got != want {
				t.Errorf("Valid(%s) is %v", shown(z), got)
			}
		}
	}
	for from := -30; from <= 30; from++ {
		if got, want := Valid(zone(from, 0)), from == 0; got != want {
			t.Errorf("Valid with the first shift from %d is %v", from, got)
		}
		if got, want := Valid(zone(0, 0, 7, 0, from, 0)), from > 7; got != want {
			t.Errorf("Valid with a shift from %d after one from 7 is %v", from, got)
		}
		if got, want := Valid(zone(0, 0, last+from, 0)), from <= 0; got != want {
			t.Errorf("Valid with a shift from %d is %v", last+from, got)
		}
	}
}

// P6.1, F2: the chapter's examples and other known local times.
func TestLocalOfKnownInstants(t *testing.T) {
	for _, x := range []struct {
		z               api.Zone
		at, day, minute int
	}{
		{example(), 9999, 6, 1419}, {example(), 10000, 7, 40}, {example(), 0, 0, 60}, {example(), 1379, 0, 1439}, {example(), 1380, 1, 0}, {example(), last, 100001, 119},
		{zone(0, 0), 0, 0, 0}, {zone(0, 0), 1439, 0, 1439}, {zone(0, 0), 1440, 1, 0}, {zone(0, 0), last, 100000, 1439},
		{zone(0, -840), 0, -1, 600}, {zone(0, -840), 839, -1, 1439}, {zone(0, -840), 840, 0, 0}, {zone(0, -840), last, 100000, 599},
		{zone(0, 840), 0, 0, 840}, {zone(0, 840), 599, 0, 1439}, {zone(0, 840), 600, 1, 0}, {zone(0, 840), last - 840, 100000, 1439}, {zone(0, 840), last - 839, 100001, 0}, {zone(0, 840), last, 100001, 839},
		{zone(0, -1), 0, -1, 1439}, {zone(0, -1), 1, 0, 0}, {zone(0, 1), 0, 0, 1}, {zone(0, 1), last, 100001, 0},
		{zone(0, 60, 10000, 120, 20000, 60), 19999, 13, 1399}, {zone(0, 60, 10000, 120, 20000, 60), 20000, 13, 1340},
		{zone(0, 60, 1395, 0), 1394, 1, 14}, {zone(0, 60, 1395, 0), 1395, 0, 1395}, {zone(0, 60, 1395, 0), 1440, 1, 0},
		{zone(0, -660, 9000, 780), 8999, 5, 1139}, {zone(0, -660, 9000, 780), 9000, 6, 1140},
		{zone(0, 840, 1, -840), 0, 0, 840}, {zone(0, 840, 1, -840), 1, -1, 601},
		{zone(0, 0, last, 840), last - 1, 100000, 1438}, {zone(0, 0, last, 840), last, 100001, 839}, {zone(0, 840, last, -840), last, 100000, 599},
		{many(20, 1, 60, 120), 18, 0, 78}, {many(20, 1, 60, 120), 19, 0, 139}, {many(20, 1, 60, 120), 20, 0, 140},
	} {
		if day, minute, err := Local(x.z, x.at); day != x.day || minute != x.minute || err != api.OK {
			t.Errorf("Local of %s at %d is %d, %d, %d, not %d, %d", shown(x.z), x.at, day, minute, err, x.day, x.minute)
		}
	}
}

// P6.1, F2.
func TestLocalIsWhatTheWordsSay(t *testing.T) {
	for _, z := range zones() {
		for _, at := range instants(z, 40) {
			day, minute := split(minutes(z, at))
			if gotDay, gotMinute, err := Local(z, at); gotDay != day || gotMinute != minute || err != api.OK {
				t.Errorf("Local of %s at %d is %d, %d, %d, not %d, %d", shown(z), at, gotDay, gotMinute, err, day, minute)
			}
		}
	}
}

// P6.1, F2: the errors.
func TestErrorsOfLocal(t *testing.T) {
	refused := func(z api.Zone, at int) {
		if day, minute, err := Local(z, at); day != 0 || minute != 0 || err != api.ErrArg {
			t.Errorf("Local of %s at %d is %d, %d, %d", shown(z), at, day, minute, err)
		}
	}
	for _, z := range invalidZones() {
		for _, at := range append(noInstants(), 0, 5, 10000, last) {
			refused(z, at)
		}
	}
	for _, z := range zones() {
		for _, at := range noInstants() {
			refused(z, at)
		}
	}
}

// P6.1, F3: the chapter's examples and other known instants: of times that come twice or do not come, and of days that begin twice or not at midnight.
func TestInstantOfKnownTimes(t *testing.T) {
	backAndForth := zone(0, 60, 10000, 120, 20000, 60)
	back, forwards := zone(0, 60, 1395, 0), zone(0, 60, 1365, 120)
	for _, x := range []struct {
		z                 api.Zone
		day, minute, want int
	}{
		{example(), 7, 0, 10000}, {example(), 1, 0, 1380}, {example(), 0, 0, 0}, {example(), 6, 1419, 9999}, {example(), 6, 1420, 10000}, {example(), 7, 40, 10000}, {example(), 7, 41, 10001},
		{backAndForth, 13, 1340, 19940}, {backAndForth, 13, 1399, 19999}, {backAndForth, 13, 1400, 20060}, {backAndForth, 13, 1339, 19939}, {backAndForth, 14, 0, 20100},
		{back, 0, 1395, 1335}, {back, 0, 1439, 1379}, {back, 1, 0, 1380}, {back, 1, 14, 1394}, {back, 1, 15, 1455}, {back, 2, 0, 2880},
		{forwards, 0, 1424, 1364}, {forwards, 0, 1425, 1365}, {forwards, 1, 0, 1365}, {forwards, 1, 45, 1365}, {forwards, 1, 46, 1366}, {forwards, 2, 0, 2760},
		{zone(0, -660, 9000, 780), 5, 1139, 8999}, {zone(0, -660, 9000, 780), 5, 1140, 9000}, {zone(0, -660, 9000, 780), 6, 0, 9000}, {zone(0, -660, 9000, 780), 6, 1140, 9000}, {zone(0, -660, 9000, 780), 6, 1141, 9001}, {zone(0, -660, 9000, 780), 7, 0, 9300},
		{zone(0, -840, 7200, 600), 4, 600, 7200}, {zone(0, -840, 7200, 600), 5, 0, 7200}, {zone(0, -840, 7200, 600), 5, 600, 7200}, {zone(0, -840, 7200, 600), 5, 601, 7201}, {zone(0, -840, 7200, 600), 6, 0, 8040},
		{zone(0, 780, 9000, -660), 6, 0, 7860}, {zone(0, 780, 9000, -660), 6, 1139, 8999}, {zone(0, 780, 9000, -660), 6, 1140, 10440}, {zone(0, 780, 9000, -660), 7, 0, 10740},
		{zone(0, -840), -1, 0, 0}, {zone(0, -840), -1, 600, 0}, {zone(0, -840), -1, 601, 1}, {zone(0, -840), -1, 1439, 839}, {zone(0, -840), 0, 0, 840}, {zone(0, -840), 100000, 599, last},
		{zone(0, 840), 0, 840, 0}, {zone(0, 840), 0, 841, 1}, {zone(0, 840), -1, 1439, 0}, {zone(0, 840), 100001, 0, last - 839}, {zone(0, 840), 100001, 839, last},
		{zone(0, 0), 0, 0, 0}, {zone(0, 0), 0, 1, 1}, {zone(0, 0), 100000, 1439, last}, {zone(0, 1), 100001, 0, last},
		{zone(0, 0, last, 840), 100000, 1438, last - 1}, {zone(0, 0, last, 840), 100000, 1439, last}, {zone(0, 0, last, 840), 100001, 839, last}, {zone(0, 840, last, -840), 100001, 838, last - 1},
		{zone(0, 840, 1, -840), 0, 840, 0}, {zone(0, 840, 1, -840), 0, 841, 1681}, {zone(0, 840, 1, -840), -1, 601, 0}, {zone(0, 840, 1, -840), 1, 0, 2280},
		{many(20, 1, 60, 120), 0, 61, 1}, {many(20, 1, 60, 120), 0, 121, 1}, {many(20, 1, 60, 120), 0, 122, 3}, {many(20, 1, 60, 120), 0, 139, 19}, {many(20, 1, 60, 120), 0, 140, 20},
	} {
		if got, err := Instant(x.z, x.day, x.minute); got != x.want || err != api.OK {
			t.Errorf("Instant of %s for %d, %d is %d, %d, not %d", shown(x.z), x.day, x.minute, got, err, x.want)
		}
	}
}

// P6.1, F3: local times that do not come any more.
func TestTimesThatAreTooLate(t *testing.T) {
	for _, x := range []struct {
		z           api.Zone
		day, minute int
	}{
		{zone(0, 0), 100001, 0}, {zone(0, 1), 100001, 1}, {zone(0, -1), 100000, 1439}, {zone(0, -840), 100000, 600}, {zone(0, -840), 100001, 0}, {zone(0, 840), 100001, 840}, {zone(0, 840), 100001, 1439}, {zone(0, 840), 100002, 0},
		{example(), 100001, 120}, {zone(0, 0, last, 839), 100001, 839}, {zone(0, 840, last, -840), 100001, 839}, {zone(0, 840, last, -840), 100002, 0},
	} {
		if got, err := Instant(x.z, x.day, x.minute); got != 0 || err != api.ErrRange {
			t.Errorf("Instant of %s for %d, %d is %d, %d", shown(x.z), x.day, x.minute, got, err)
		}
	}
}

// P6.1, F3: days beyond all local times, among them those whose minutes are more than an int holds.
func TestInstantOfFarDays(t *testing.T) {
	early := []int{-2, -3, -1000, math.MinInt32, math.MinInt / 1440, math.MinInt/1440 - 1, math.MinInt/1440 + 1, math.MinInt / 720, math.MinInt / 2, math.MinInt + 1, math.MinInt}
	late := []int{100002, 100003, 200000, math.MaxInt32, math.MaxInt / 1440, math.MaxInt/1440 - 1, math.MaxInt/1440 + 1, math.MaxInt / 720, math.MaxInt / 2, math.MaxInt - 1, math.MaxInt}
	r := rand.New(rand.NewPCG(6, 4))
	for range 50 {
		early = append(early, -2-r.IntN(math.MaxInt-2))
		late = append(late, 100002+r.IntN(math.MaxInt-100002))
	}
	for _, z := range zones() {
		for _, minute := range []int{0, 1, 599, 600, 601, 839, 840, 1438, 1439} {
			for _, day := range early {
				if got, err := Instant(z, day, minute); got != 0 || err != api.OK {
					t.Errorf("Instant of %s for %d, %d is %d, %d", shown(z), day, minute, got, err)
				}
			}
			for _, day := range late {
				if got, err := Instant(z, day, minute); got != 0 || err != api.ErrRange {
					t.Errorf("Instant of %s for %d, %d is %d, %d", shown(z), day, minute, got, err)
				}
			}
		}
		for _, day := range early {
			if got, err := Begin(z, day); got != 0 || err != api.OK {
				t.Errorf("Begin of %s for %d is %d, %d", shown(z), day, got, err)
			}
		}
		for _, day := range late {
			if got, err := Begin(z, day); got != 0 || err != api.ErrRange {
				t.Errorf("Begin of %s for %d is %d, %d", shown(z), day, got, err)
			}
		}
	}
}

// P6.1, F3: all local times of the first and the last days, against looking at one instant after the other.
func TestInstantIsTheFirstThatIsFound(t *testing.T) {
	const looked = 9000
	for _, z := range append(knownZones(), randomZones(15)...) {
		for _, begin := range []int{0, last - looked} {
			// Where nothing shifts, the last instant before those that are looked at has the latest time of all before them.
			if begin > 0 && slices.ContainsFunc(z.Shifts, func(s api.Shift) bool { return s.From > 0 && s.From <= begin }) {
				continue
			}
			at, earliest := begin, minutes(z, begin)
			if begin == 0 {
				earliest -= 3000
			}
			for local := earliest; local < begin+looked+2000; local++ {
				for at <= last && minutes(z, at) < local {
					at++
				}
				want, wantErr := at, api.OK
				if at > last {
					want, wantErr = 0, api.ErrRange
				}
				day, minute := split(local)
				if got, err := Instant(z, day, minute); got != want || err != wantErr {
					t.Fatalf("Instant of %s for %d, %d is %d, %d, not %d, %d", shown(z), day, minute, got, err, want, wantErr)
				}
			}
		}
	}
}

// P6.1, F3: the errors and their order.
func TestErrorsOfInstant(t *testing.T) {
	days := []int{math.MinInt, -2, -1, 0, 1, 7, 100000, 100001, 100002, math.MaxInt}
	refused := func(z api.Zone, day, minute int) {
		if at, err := Instant(z, day, minute); at != 0 || err != api.ErrArg {
			t.Errorf("Instant of %s for %d, %d is %d, %d", shown(z), day, minute, at, err)
		}
	}
	for _, day := range days {
		for _, z := range invalidZones() {
			for _, minute := range append(noMinutes(), 0, 720, 1439) {
				refused(z, day, minute)
			}
			if at, err := Begin(z, day); at != 0 || err != api.ErrArg {
				t.Errorf("Begin of %s for %d is %d, %d", shown(z), day, at, err)
			}
		}
		for _, z := range zones() {
			for _, minute := range noMinutes() {
				refused(z, day, minute)
			}
		}
	}
}

// P6.1, F3.
func TestBeginOfKnownDays(t *testing.T) {
	for _, x := range []struct {
		z         api.Zone
		day, want int
	}{
		{example(), 1, 1380}, {example(), 0, 0}, {example(), -1, 0}, {example(), 7, 10000}, {example(), 8, 11400}, {example(), 100001, last - 119},
		{zone(0, 60, 1395, 0), 1, 1380}, {zone(0, 60, 1365, 120), 1, 1365}, {zone(0, 60, 1365, 120), 2, 2760}, {zone(0, 0, 1440, -60), 1, 1500}, {zone(0, 0, 1440, 60), 1, 1440},
		{zone(0, -840), 0, 840}, {zone(0, -840), -1, 0}, {zone(0, 840), 1, 600}, {zone(0, 840), 0, 0}, {zone(0, 840), 100001, last - 839},
	} {
		if got, err := Begin(x.z, x.day); got != x.want || err != api.OK {
			t.Errorf("Begin of %s for %d is %d, %d, not %d", shown(x.z), x.day, got, err, x.want)
		}
	}
}

// P6.1, F3: Begin is Instant for the minute 0.
func TestBeginIsTheInstantOfMidnight(t *testing.T) {
	for _, z := range append(zones(), invalidZones()...) {
		for day := -5; day < 30; day++ {
			for _, d := range []int{day, 100000 - day} {
				want, wantErr := Instant(z, d, 0)
				if got, err := Begin(z, d); got != want || err != wantErr {
					t.Errorf("Begin of %s for %d is %d, %d, not %d, %d", shown(z), d, got, err, want, wantErr)
				}
			}
		}
	}
}

// P6.2.
func TestMinutes(t *testing.T) {
	for _, z := range zones() {
		for _, at := range instants(z, 60) {
			if at == last {
				continue
			}
			want := 1
			if i := slices.IndexFunc(z.Shifts, func(s api.Shift) bool { return s.From == at+1 }); i >= 0 {
				want += z.Shifts[i].Offset - z.Shifts[i-1].Offset
			}
			if got := mustLocal(t, z, at+1) - mustLocal(t, z, at); got != want {
				t.Errorf("from %d on, the local time of %s goes on by %d, not %d", at, shown(z), got, want)
			}
		}
	}
}

// latestBefore returns the latest local time of a zone at the instants before one. Local time goes on by minutes but where a shift begins, so it is one of those just before shifts, or the last one.
func latestBefore(t *testing.T, z api.Zone, before int) int {
	t.Helper()
	latest := math.MinInt
	for _, s := range z.Shifts {
		if s.From > 0 && s.From < before {
			latest = max(latest, mustLocal(t, z, s.From-1))
		}
	}
	if before > 0 {
		latest = max(latest, mustLocal(t, z, before-1))
	}
	return latest
}

// P6.3.
func TestInstantIsTheFirst(t *testing.T) {
	tooLate := 0
	for _, z := range zones() {
		for _, local := range times(z, 20) {
			day, minute := split(local)
			at, err := Instant(z, day, minute)
			switch {
			case err == api.ErrRange:
				tooLate++
				if at != 0 || latestBefore(t, z, last+1) >= local {
					t.Errorf("Instant of %s for %d, %d is %d, %d", shown(z), day, minute, at, err)
				}
			case err != api.OK || mustLocal(t, z, at) < local || latestBefore(t, z, at) >= local:
				t.Errorf("Instant of %s for %d, %d is %d, %d", shown(z), day, minute, at, err)
			}
		}
	}
	if tooLate < 100 {
		t.Errorf("only %d local times are too late", tooLate)
	}
}

// neverLess reports whether the offsets of a zone never become less.
func neverLess(z api.Zone) bool {
	return slices.IsSortedFunc(z.Shifts, func(a, b api.Shift) int { return a.Offset - b.Offset })
}

// P6.4.
func TestInstantOfLocalTimes(t *testing.T) {
	same, earlier := 0, 0
	for _, z := range zones() {
		for _, at := range instants(z, 40) {
			day, minute, err := Local(z, at)
			if err != api.OK {
				t.Fatalf("Local of %s at %d has the error %d", shown(z), at, err)
			}
			got, err := Instant(z, day, minute)
			if got > at || err != api.OK || neverLess(z) && got != at {
				t.Errorf("Instant of %s for the local time at %d is %d, %d", shown(z), at, got, err)
			}
			if neverLess(z) {
				same++
			}
			if got < at {
				earlier++
			}
		}
	}
	if same < 1000 || earlier < 1000 {
		t.Errorf("only %d instants of zones that never shift back, and %d of times that come again", same, earlier)
	}
}

// P6.5.
func TestBeginnings(t *testing.T) {
	for _, z := range zones() {
		days := []int{-1, 0, 1, 100000, 100001}
		for _, s := range z.Shifts {
			for near := -3; near <= 3; near++ {
				days = append(days, s.From/1440+near)
			}
		}
		slices.Sort(days)
		before, began := 0, true
		for _, day := range days {
			at, err := Begin(z, day)
			if err != api.OK && err != api.ErrRange || err == api.OK && (!began || at < before) {
				t.Errorf("Begin of %s for %d is %d, %d", shown(z), day, at, err)
			}
			before, began = at, err == api.OK
			end := at
			if !began {
				end = last + 1
			}
			if end > 0 && latestBefore(t, z, end) >= 1440*day {
				t.Errorf("the day %d of %s comes before %d", day, shown(z), end)
			}
		}
	}
}

// P6.5: all days of a zone.
func TestBeginningsOfAllDays(t *testing.T) {
	for _, z := range []api.Zone{example(), zone(0, -840), many(20, 7000000, 840, -840)} {
		before := 0
		for day := -1; day <= 100000; day++ {
			at, err := Begin(z, day)
			if err == api.ErrRange && day == 100000 && mustLocal(t, z, last) < 1440*day {
				break
			}
			if at < before || err != api.OK {
				t.Fatalf("Begin of %s for %d is %d, %d, after %d", shown(z), day, at, err, before)
			}
			before = at
		}
	}
}

// P6.6.
func TestOneOffset(t *testing.T) {
	for _, offset := range []int{-840, -839, -720, -60, -1, 0, 1, 60, 345, 720, 839, 840} {
		z := zone(0, offset)
		for _, at := range instants(z, 300) {
			day, minute, _ := Local(z, at)
			if got, err := Instant(z, day, minute); got != at || err != api.OK {
				t.Errorf("with the offset %d, Instant for the local time at %d is %d, %d", offset, at, got, err)
			}
		}
		for _, day := range []int{1, 2, 3, 7, 1000, 50000, 99998, 99999} {
			at, err := Begin(z, day)
			next, errNext := Begin(z, day+1)
			if next-at != 1440 || err != api.OK || errNext != api.OK {
				t.Errorf("with the offset %d, the day %d is from %d, %d to %d, %d", offset, day, at, err, next, errNext)
			}
		}
	}
}

// P6.7, P6.1, F4.
func TestTextsOfKnownInstants(t *testing.T) {
	for _, x := range []struct {
		at   int
		text string
	}{
		{17705, "12/07:05"}, {0, "0/00:00"}, {1, "0/00:01"}, {9, "0/00:09"}, {10, "0/00:10"}, {59, "0/00:59"}, {60, "0/01:00"}, {61, "0/01:01"}, {599, "0/09:59"}, {600, "0/10:00"}, {720, "0/12:00"}, {1199, "0/19:59"}, {1200, "0/20:00"}, {1439, "0/23:59"}, {1440, "1/00:00"},
		{14399, "9/23:59"}, {14400, "10/00:00"}, {144000, "100/00:00"}, {143999999, "99999/23:59"}, {144000000, "100000/00:00"}, {last - 1, "100000/23:58"}, {last, "100000/23:59"},
	} {
		if got, err := Text(x.at); got != x.text || err != api.OK {
			t.Errorf("Text of %d is %q, %d, not %q", x.at, got, err, x.text)
		}
		if got, err := Parse(x.text); got != x.at || err != api.OK {
			t.Errorf("Parse of %q is %d, %d, not %d", x.text, got, err, x.at)
		}
	}
}

// P6.7, P6.1, F4.
func TestTextsBelongToInstants(t *testing.T) {
	digits := func(n int) string {
		text := strconv.Itoa(n)
		return strings.Repeat("0", 2-len(text)) + text
	}
	check := func(day, minute int) {
		at := 1440*day + minute
		want := strconv.Itoa(day) + "/" + digits(minute/60) + ":" + digits(minute%60)
		if got, err := Text(at); got != want || err != api.OK {
			t.Errorf("Text of %d is %q, %d, not %q", at, got, err, want)
		}
		if got, err := Parse(want); got != at || err != api.OK {
			t.Errorf("Parse of %q is %d, %d, not %d", want, got, err, at)
		}
	}
	for minute := range 1440 {
		for _, day := range []int{0, 1, 9, 10, 12, 99, 12345, 99999, 100000} {
			check(day, minute)
		}
	}
	r := rand.New(rand.NewPCG(6, 5))
	for range 5000 {
		check(r.IntN(100001), r.IntN(1440))
	}
}

// P6.1, F4.
func TestErrorsOfText(t *testing.T) {
	for _, at := range noInstants() {
		if text, err := Text(at); text != "" || err != api.ErrArg {
			t.Errorf("Text of %d is %q, %d", at, text, err)
		}
	}
}

// refusedText tells that a text is parsed though it is that of no instant.
func refusedText(t *testing.T, text string) {
	t.Helper()
	if at, err := Parse(text); at != 0 || err != api.ErrSyntax {
		t.Errorf("Parse of %q is %d, %d", text, at, err)
	}
}

// P6.7, P6.1, F4.
func TestTextsOfNoInstant(t *testing.T) {
	for _, text := range []string{
		"", " ", "/", ":", "/:", "0", "12", "1440", "12/", "12/07", "12/07:", "07:05", "/07:05", "12/:05", "12/:", "/07:", ":05", "/:05",
		"12/7:05", "12/07:5", "12/7:5", "12/0:00", "12/00:0", "12/007:05", "12/07:005", "12/07:0", "12/070:5", "12/0705", "12:07/05", "12:07:05", "12/07/05", "12-07:05", "12 07:05", "12/07.05", "1207:05",
		"012/07:05", "00/00:00", "00/07:05", "000012/07:05", "0000000000/00:00", "01/00:00",
		"12/24:00", "12/24:59", "12/25:00", "12/99:00", "12/00:60", "12/00:99", "12/23:60", "12/24:60", "100000/24:00", "99999/24:00", "0/00:60",
		"100001/00:00", "100000/23:60", "100001/23:59", "200000/00:00", "999999/00:00", "1000000/00:00", "4294967296/00:00", "9223372036854775807/00:00", "9223372036854775808/00:00", "18446744073709551616/00:00", "99999999999999999999/00:00",
		"-1/00:00", "-0/00:00", "-12/07:05", "+12/07:05", "+0/00:00", "12/-7:05", "12/+7:05", "12/-07:05", "12/+07:05", "12/07:-5", "12/07:+5", "12/07:-05", "12/-0:00", "12/00:-0", "-1/24:00", "1/-1:60", "1/00:-1",
		" 12/07:05", "12/07:05 ", "12 /07:05", "12/ 07:05", "12/07 :05", "12/07: 05", "12/ 7:05", "12/07: 5", "12/7 :05", "12/07:05\n", "\n12/07:05", "\t12/07:05", "12/07:05\x00", "\x0012/07:05", "12/07:05\r\n",
		"12//07:05", "12/07::05", "12/07:05:00", "12/07:05/", "12/07:05:", "/12/07:05", "1/12/07:05", "12/07:05/12/07:05", "12/07:0512/07:05",
		"a/00:00", "12/aa:00", "12/07:aa", "0x1/00:00", "1e3/00:00", "1_2/07:05", "12/0_7:05", "12/0x:05", "12.0/07:05", "12,000/07:05", "12/07:05a", "a12/07:05", "12/07:05Z",
		"\u0661\u0662/07:05", "12/\uff10\uff17:05", "12\u204407:05", "12/07\uff1a05", "\xff", "12/07:0\xff", "\ufeff12/07:05",
	} {
		refusedText(t, text)
	}
	for _, wrapped := range []int{1, 2, 3, 5, 1000, 6405119470038038, 6405119470038039} {
		// The minutes of these days, counted in 64 bits, are those of an early instant.
		day := uint64(wrapped) * (math.MaxUint64/1440 + 1)
		refusedText(t, strconv.FormatUint(day, 10)+"/00:00")
		refusedText(t, "-"+strconv.FormatUint(day, 10)+"/00:00")
	}
}

// P6.7, F4: texts without an hour of the day, or a minute of the hour.
func TestHoursAndMinutes(t *testing.T) {
	for hour := range 200 {
		for minute := range 200 {
			for _, day := range []string{"0", "12", "100000"} {
				text := day + "/" + strconv.Itoa(hour/10) + strconv.Itoa(hour%10) + ":" + strconv.Itoa(minute/10) + strconv.Itoa(minute%10)
				_, err := Parse(text)
				if want := hour < 24 && minute < 60; (err == api.OK) != want {
					t.Errorf("Parse of %q has the error %d", text, err)
				}
			}
		}
	}
}

// form tells the form of the texts of instants. What it does not tell is that the day may be too late.
var form = regexp.MustCompile(`\A(0|[1-9][0-9]{0,5})/([01][0-9]|2[0-3]):[0-5][0-9]\z`)

// isText reports whether a text is that of an instant.
func isText(text string) bool {
	found := form.FindStringSubmatch(text)
	if found == nil {
		return false
	}
	day, err := strconv.Atoi(found[1])
	return err == nil && day <= 100000
}

// P6.7: texts that differ in one or two bytes from those of instants. What is accepted is the text of what Parse returns.
func TestTextsThatAreParsed(t *testing.T) {
	const used = "0123456789/:+-_ .a\x00\xff"
	r := rand.New(rand.NewPCG(6, 6))
	change := func(text string) string {
		i := r.IntN(len(text) + 1)
		b := used[r.IntN(len(used)):][:1]
		end := min(i+r.IntN(2), len(text))
		if r.IntN(4) == 0 {
			b = ""
		}
		return text[:i] + b + text[end:]
	}
	accepted, refused := 0, 0
	for _, text := range []string{"0/00:00", "12/07:05", "9/23:59", "99999/19:30", "100000/23:59", "10000/10:10"} {
		for range 20000 {
			changed := change(text)
			if r.IntN(2) == 0 {
				changed = change(changed)
			}
			if !isText(changed) {
				refused++
				refusedText(t, changed)
				continue
			}
			accepted++
			at, err := Parse(changed)
			if own, errText := Text(at); own != changed || err != api.OK || errText != api.OK {
				t.Errorf("Parse of %q is %d, %d, with the text %q", changed, at, err, own)
			}
		}
	}
	if accepted < 10000 || refused < 10000 {
		t.Errorf("%d texts are accepted and %d refused", accepted, refused)
	}
}

// P6.8.
func TestZonesToTheEast(t *testing.T) {
	for _, z := range zones() {
		greatest := slices.MaxFunc(z.Shifts, func(a, b api.Shift) int { return a.Offset - b.Offset }).Offset
		for _, by := range []int{1, 15, 60, 719, 840, 1440, 1680} {
			if greatest+by > 840 {
				continue
			}
			east := moved(z, by)
			for _, at := range instants(z, 10) {
				if got := mustLocal(t, east, at) - mustLocal(t, z, at); got != by {
					t.Errorf("the local time of %s at %d is %d minutes later than that of %s", shown(east), at, got, shown(z))
				}
				day, _, _ := Local(z, at)
				for d := day - 1; d <= day+2; d++ {
					begin, err := Begin(z, d)
					beginEast, errEast := Begin(east, d)
					if err == api.OK && (errEast != api.OK || beginEast > begin) {
						t.Errorf("Begin for %d is %d, %d with %s, but %d, %d with %s", d, beginEast, errEast, shown(east), begin, err, shown(z))
					}
				}
			}
		}
	}
}

// P1: all functions end for long texts and zones.
func TestLongArguments(t *testing.T) {
	for _, s := range []string{"0", "1", "9", "/", ":", "-", "12/07:05", "\xff"} {
		refusedText(t, strings.Repeat(s, 1<<20))
		refusedText(t, strings.Repeat(s, 1<<20)+"/00:00")
		refusedText(t, "12/07:"+strings.Repeat(s, 1<<20))
	}
	long := many(1<<20, 1, 60)
	if Valid(long) {
		t.Errorf("a zone with %d shifts is valid", len(long.Shifts))
	}
	if at, err := Instant(long, 0, 0); at != 0 || err != api.ErrArg {
		t.Errorf("Instant of a zone with %d shifts is %d, %d", len(long.Shifts), at, err)
	}
}

// P1, P6.1: the spans of a zone end when they are told to.
func TestSpansStopWhenTheyAreToldTo(t *testing.T) {
	for n := range 4 {
		taken := 0
		for range spans(many(4, 10, 60)) {
			taken++
			if taken > n {
				break
			}
		}
		if taken != n+1 {
			t.Errorf("%d spans are taken, not %d", taken, n+1)
		}
	}
}

// everything returns all that the functions tell about a zone and two numbers.
func everything(z api.Zone, a, b int) []any {
	day, minute, errLocal := Local(z, a)
	at, errInstant := Instant(z, a, b)
	begin, errBegin := Begin(z, b)
	text, errText := Text(a)
	parsed, errParse := Parse(text)
	return []any{Valid(z), day, minute, errLocal, at, errInstant, begin, errBegin, text, errText, parsed, errParse}
}

// P3.
func TestEqualArgumentsYieldEqualResults(t *testing.T) {
	all := append(zones(), invalidZones()...)
	numbers := append(noInstants(), 0, 1, 7, 720, 1439, 1440, 10000, 100000, 100001, last)
	var first [][]any
	for _, z := range all {
		for i, a := range numbers {
			first = append(first, everything(z, a, numbers[len(numbers)-1-i]))
		}
	}
	for k := len(first) - 1; k >= 0; k-- {
		z, i := all[k/len(numbers)], k%len(numbers)
		again := api.Zone{Shifts: slices.Clone(z.Shifts)}
		if !slices.Equal(first[k], everything(again, numbers[i], numbers[len(numbers)-1-i])) {
			t.Errorf("%s and %d yield other results", shown(z), numbers[i])
		}
	}
}

// DOC.md, Rules: functions do not modify their arguments.
func TestZonesAreNotChanged(t *testing.T) {
	for _, z := range append(zones(), invalidZones()...) {
		shifts := slices.Clone(z.Shifts)
		for _, n := range []int{math.MinInt, -1, 0, 5, 1440, last, math.MaxInt} {
			everything(z, n, 5)
		}
		if !slices.Equal(shifts, z.Shifts) {
			t.Errorf("%s is changed to %s", shown(api.Zone{Shifts: shifts}), shown(z))
		}
	}
}
