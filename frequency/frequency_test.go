package frequency

import (
	"fmt"
	"math"
	"math/big"
	"slices"
	"testing"

	"transit/api"
)

// The limits as the document states them.
const (
	mostFrequencies = 64
	mostStarts      = 256
	mostCalls       = 32
	mostTime        = 172800
	dayLength       = 86400
)

const (
	least    = math.MinInt
	greatest = math.MaxInt
)

// The chapter's definitions.

// exact returns n as an integer without limits.
func exact(n int) *big.Int {
	return big.NewInt(int64(n))
}

// within reports whether low <= n <= high.
func within(n, low, high int) bool {
	return n >= low && n <= high
}

// wantedSound reports whether a frequency is sound.
func wantedSound(f api.Frequency) bool {
	return within(f.From, 0, mostTime) && within(f.To, 0, mostTime) && f.From < f.To && within(f.Every, 1, dayLength)
}

// wantedStarts returns what Starts must return.
func wantedStarts(f api.Frequency) []int {
	list := []int{}
	if !wantedSound(f) {
		return list
	}
	for k := 0; f.From+k*f.Every < f.To; k++ {
		list = append(list, f.From+k*f.Every)
	}
	return list
}

// times returns the times of a trip.
func times(t api.Trip) []int {
	list := []int{}
	for _, c := range t.Calls {
		list = append(list, c.Arrive, c.Depart)
	}
	return list
}

// offset returns the difference of a time of a trip from the time at which its first call departs.
func offset(t api.Trip, time int) *big.Int {
	return new(big.Int).Sub(exact(time), exact(t.Calls[0].Depart))
}

// started returns a time of a trip that is started at start, and whether it is from 0 to mostTime.
func started(t api.Trip, time, start int) (int, bool) {
	n := new(big.Int).Add(offset(t, time), exact(start))
	if n.Sign() < 0 || n.Cmp(exact(mostTime)) > 0 {
		return 0, false
	}
	return int(n.Int64()), true
}

// wantedCalls returns what Calls must return.
func wantedCalls(t api.Trip, start int) ([]api.Call, api.Errno) {
	if len(t.Calls) == 0 {
		return nil, api.ErrTrip
	}
	var l []api.Call
	for _, c := range t.Calls {
		arrive, early := started(t, c.Arrive, start)
		depart, late := started(t, c.Depart, start)
		if !early || !late {
			return nil, api.ErrTime
		}
		l = append(l, api.Call{Stop: c.Stop, Arrive: arrive, Depart: depart, Board: c.Board, Alight: c.Alight})
	}
	return l, api.OK
}

// canStart reports whether all times of the trip started at each of the starts are from 0 to mostTime; a trip without calls has no times.
func canStart(t api.Trip, starts []int) bool {
	low, high := 0, 0
	for _, time := range times(t) {
		n := offset(t, time)
		if new(big.Int).Abs(n).Cmp(exact(mostTime)) > 0 {
			// A start is from 0 to mostTime itself.
			return len(starts) == 0
		}
		low, high = min(low, int(n.Int64())), max(high, int(n.Int64()))
	}
	for _, start := range starts {
		if start+low < 0 || start+high > mostTime {
			return false
		}
	}
	return true
}

// meet reports whether both intervals contain a time.
func meet(f, g api.Frequency) bool {
	return max(f.From, g.From) < min(f.To, g.To)
}

// wantedError returns the error of the frequency i.
func wantedError(l []api.Frequency, i int, trips []api.Trip) api.Errno {
	f := l[i]
	if !within(f.Trip, 0, len(trips)-1) {
		return api.ErrReference
	}
	if !wantedSound(f) || !canStart(trips[f.Trip], wantedStarts(f)) {
		return api.ErrTime
	}
	if len(wantedInstances(l[:i+1], f.Trip)) > mostStarts {
		return api.ErrFrequency
	}
	for _, g := range l[:i] {
		if g.Trip == f.Trip && meet(f, g) {
			return api.ErrOrder
		}
	}
	return api.OK
}

// wantedCheck returns what Check must return.
func wantedCheck(l []api.Frequency, trips []api.Trip) (int, api.Errno) {
	if len(l) > mostFrequencies {
		return 0, api.ErrLimit
	}
	for i := range l {
		if e := wantedError(l, i, trips); e != api.OK {
			return i, e
		}
	}
	return 0, api.OK
}

// wantedInstances returns what Instances must return.
func wantedInstances(l []api.Frequency, trip int) []int {
	list := []int{}
	for _, f := range l {
		if f.Trip == trip {
			list = append(list, wantedStarts(f)...)
		}
	}
	slices.Sort(list)
	return list
}

// wantedRepeated returns what Repeated must return.
func wantedRepeated(l []api.Frequency, trip int) bool {
	for i := range len(l) {
		if l[i].Trip == trip {
			return true
		}
	}
	return false
}

// Inputs.

// ofTimes returns a trip with those times, the arrival and the departure of each call, at the stops from 0 on.
func ofTimes(times ...int) api.Trip {
	t := api.Trip{ID: "T"}
	for i := 0; i+1 < len(times); i += 2 {
		t.Calls = append(t.Calls, api.Call{Stop: i / 2, Arrive: times[i], Depart: times[i+1], Board: i%6 != 4, Alight: i%8 != 0})
	}
	return t
}

// sample returns the trip of the chapter's second example.
func sample() api.Trip {
	return ofTimes(100, 160, 400, 400)
}

// point returns a valid trip that takes no time, so that it can be started at all times.
func point() api.Trip {
	return ofTimes(500, 500, 500, 500)
}

// someTrips returns valid trips: one that can be started from 60 to mostTime - 240, one from 0 to mostTime - 50, one at all times, and three others.
func someTrips() []api.Trip {
	return []api.Trip{sample(), ofTimes(0, 0, 50, 50), point(), ofTimes(20000, 20000, 20100, 20200, 20200, 20300), ofTimes(0, 100, 200, 300), ofTimes(90000, 90600, 93600, 93600, 94000, 94500)}
}

// points returns n trips that can be started at all times.
func points(n int) []api.Trip {
	return slices.Repeat([]api.Trip{point()}, n)
}

// long returns a valid trip with n calls that begins first seconds before its first departure.
func long(n, first int) api.Trip {
	t := api.Trip{ID: "L"}
	for i := range n {
		t.Calls = append(t.Calls, api.Call{Stop: i % 7, Arrive: first + i*60, Depart: first + i*60 + i%3*20, Board: i%5 != 3, Alight: i%4 != 1})
	}
	t.Calls[0].Arrive = 0
	return t
}

// kinds returns frequencies that are valid for someTrips alone, and some that are not; which of them can be in one list differs.
func kinds() []api.Frequency {
	return []api.Frequency{
		{Trip: 0, From: 60, To: 100, Every: 20},
		{Trip: 0, From: 100, To: 200, Every: 50},
		{Trip: 0, From: 99, To: 101, Every: 5},
		{Trip: 1, From: 0, To: 200, Every: 1},
		{Trip: 1, From: 1000, To: 1057, Every: 1},
		{Trip: 1, From: 300, To: 500, Every: 4},
		{Trip: 2, From: 60, To: 100, Every: 20},
		{Trip: 0, From: 59, To: 61, Every: 7},
		{Trip: 2, From: 10, To: 10, Every: 5},
		{Trip: 6, From: 60, To: 100, Every: 20},
	}
}

// table returns n frequencies of four trips in turn, valid for someTrips if they are not too many; the intervals are apart, each of them takes 400 seconds, and those of the same trip do not ascend.
func table(n int) []api.Frequency {
	var l []api.Frequency
	for i := range n {
		place := i ^ 24
		from := 1000 + place*500
		l = append(l, api.Frequency{Trip: i % 4, From: from, To: from + 400, Every: 100 + i%4*50})
	}
	return l
}

// integers returns different integers at the limits of this chapter and at those of the integer types.
func integers() []int {
	list := []int{least, least + 1, greatest, greatest - 1}
	for _, n := range []int{0, 6, 60, 100, 160, 240, mostFrequencies, mostStarts, dayLength, mostTime - 240, mostTime} {
		list = append(list, n-1, n, n+1, -n-1, -n, -n+1)
	}
	for shift := range 63 {
		n := 1 << shift
		list = append(list, n-1, n, n+1, -n-1, -n, -n+1)
	}
	slices.Sort(list)
	return slices.Compact(list)
}

// edges returns the integers at the ends of the ints and at the limits of times, and a few between them.
func edges() []int {
	return []int{least, least + 1, -1 << 62, -1 << 32, -mostTime, -101, -2, -1, 0, 1, 2, 100, dayLength - 1, dayLength, dayLength + 1, mostTime - 1, mostTime, mostTime + 1, 1 << 32, 1 << 62, greatest - 1, greatest}
}

// lists returns all lists of up to length of the elements.
func lists[T any](elements []T, length int) [][]T {
	all := [][]T{nil}
	for from := 0; length > 0; length-- {
		to := len(all)
		for _, l := range all[from:to] {
			for _, x := range elements {
				all = append(all, append(slices.Clone(l), x))
			}
		}
		from = to
	}
	return all
}

// source returns a function that returns integers from 0, up to the one before below, without a pattern.
func source(seed int) func(below int) int {
	state := uint64(seed)
	return func(below int) int {
		state = state*6364136223846793005 + 1442695040888963407
		return int(state>>33) % below
	}
}

// shuffled returns the list in another order.
func shuffled(l []api.Frequency, next func(below int) int) []api.Frequency {
	for i := range l {
		j := next(i + 1)
		l[i], l[j] = l[j], l[i]
	}
	return l
}

// spoiled returns the frequency with one part that is wrong, or at least another one.
func spoiled(f api.Frequency, next func(below int) int) api.Frequency {
	wrong := integers()
	n := wrong[next(len(wrong))]
	switch next(8) {
	case 0:
		f.Trip = n
	case 1:
		f.From = n
	case 2:
		f.To = n
	case 3:
		f.Every = n
	case 4:
		f.From, f.To = f.To, f.From
	case 5:
		f.From -= 1 + next(300)
	case 6:
		f.To += 1 + next(300)
	case 7:
		f.Every = 1
	}
	return f
}

// scattered returns n frequencies of up to six trips without a pattern; if they are not too many, all of them are valid for someTrips but for one in rare.
func scattered(seed, n, rare int) []api.Frequency {
	next := source(seed)
	trips := 1 + next(6)
	ends := make([]int, trips)
	var l []api.Frequency
	for range n {
		trip := next(trips)
		f := api.Frequency{Trip: trip, From: max(ends[trip], 600) + next(2)*next(500), Every: 1 + next(300)}
		f.To = f.From + 1 + next(4*f.Every)
		ends[trip] = f.To
		l = append(l, f)
	}
	l = shuffled(l, next)
	for i := range l {
		if next(rare) == 0 {
			l[i] = spoiled(l[i], next)
		}
	}
	return l
}

// never is a rarity with which no frequency is spoiled.
const never = 1 << 31

// tables returns valid tables, and tables that are not.
func tables() [][]api.Frequency {
	all := append(lists(kinds(), 3), []api.Frequency{{From: 21600, To: 25200, Every: 1200}}, []api.Frequency{{}}, slices.Repeat(kinds()[:1], 5))
	for n := range mostFrequencies + 2 {
		all = append(all, table(n), scattered(n, n, never), scattered(n+100, n, never), scattered(n, n, 100), scattered(n, n, 10), scattered(n, n, 2))
	}
	for _, n := range []int{100, 128, 255, 256, 257, 300} {
		all = append(all, table(n), scattered(n, n, 100))
	}
	return all
}

// tripLists returns lists of trips for which the tables are valid or not.
func tripLists() [][]api.Trip {
	l := someTrips()
	return [][]api.Trip{l, points(7), l[:3], l[:1], nil, slices.Repeat([]api.Trip{l[4]}, 6), {l[2], l[0], l[1], l[5], l[3], l[4]}, slices.Repeat([]api.Trip{ofTimes(0, 0, mostTime, mostTime)}, 6)}
}

// with returns the list with another frequency at the index i.
func with(l []api.Frequency, i int, f api.Frequency) []api.Frequency {
	l = slices.Clone(l)
	l[i] = f
	return l
}

// clone returns a copy of a trip that shares no memory with it.
func clone(t api.Trip) api.Trip {
	t.Calls = slices.Clone(t.Calls)
	return t
}

// cloned returns a copy of a list that shares no memory with it.
func cloned(l []api.Trip) []api.Trip {
	list := []api.Trip{}
	for _, t := range l {
		list = append(list, clone(t))
	}
	return list
}

// same reports whether all parts of two lists of trips are the same.
func same(a, b []api.Trip) bool {
	return slices.EqualFunc(a, b, func(x, y api.Trip) bool {
		return x.ID == y.ID && x.Route == y.Route && x.Calendar == y.Calendar && x.StepFree == y.StepFree && slices.Equal(x.Calls, y.Calls)
	})
}

// text returns a list, or its beginning, for a report.
func text[T any](l []T) string {
	return fmt.Sprintf("%.300s of %d", fmt.Sprint(l), len(l))
}

// Checks.

func checkCheck(t *testing.T, l []api.Frequency, trips []api.Trip, index int, e api.Errno) {
	t.Helper()
	if i, got := Check(l, trips); i != index || got != e {
		t.Errorf("Check(%s, %s) = %d, %d; want %d, %d", text(l), text(trips), i, got, index, e)
	}
}

func checkStarts(t *testing.T, f api.Frequency, want ...int) {
	t.Helper()
	if got := Starts(f); !slices.Equal(got, want) {
		t.Errorf("Starts(%d) = %s; want %s", f, text(got), text(want))
	}
}

func checkInstances(t *testing.T, l []api.Frequency, trip int, want ...int) {
	t.Helper()
	if got := Instances(l, trip); !slices.Equal(got, want) {
		t.Errorf("Instances(%s, %d) = %s; want %s", text(l), trip, text(got), text(want))
	}
}

func checkRepeated(t *testing.T, l []api.Frequency, trip int, want bool) {
	t.Helper()
	if got := Repeated(l, trip); got != want {
		t.Errorf("Repeated(%s, %d) = %v", text(l), trip, got)
	}
}

func checkCalls(t *testing.T, trip api.Trip, start int, want []api.Call, e api.Errno) {
	t.Helper()
	if got, f := Calls(trip, start); !slices.Equal(got, want) || f != e {
		t.Errorf("Calls(%s, %d) = %s, %d; want %s, %d", text(trip.Calls), start, text(got), f, text(want), e)
	}
}

// at returns the index that Check returns with an error at index, or without an error.
func at(index int, e api.Errno) int {
	if e == api.OK {
		return 0
	}
	return index
}

// checkTrips compares Check with the definition.
func checkTrips(t *testing.T, l []api.Frequency, trips []api.Trip) {
	t.Helper()
	index, e := wantedCheck(l, trips)
	checkCheck(t, l, trips, index, e)
}

// checkStart compares Calls with the definition.
func checkStart(t *testing.T, trip api.Trip, start int) {
	t.Helper()
	want, e := wantedCalls(trip, start)
	checkCalls(t, trip, start, want, e)
}

// checkTrip compares the functions of a list and a trip with the definitions.
func checkTrip(t *testing.T, l []api.Frequency, trip int) {
	t.Helper()
	checkInstances(t, l, trip, wantedInstances(l, trip)...)
	checkRepeated(t, l, trip, wantedRepeated(l, trip))
}

// checkTable compares all functions of a list with the definitions.
func checkTable(t *testing.T, l []api.Frequency) {
	t.Helper()
	for _, trips := range tripLists() {
		checkTrips(t, l, trips)
	}
	for _, f := range l {
		checkStarts(t, f, wantedStarts(f)...)
	}
	for _, trip := range []int{least, -1, 0, 1, 2, 3, 4, 5, 6, greatest} {
		checkTrip(t, l, trip)
	}
}

// P18.1 (Check)

func TestCheckExamples(t *testing.T) {
	for _, to := range []int{25200, 25201} {
		f := api.Frequency{From: 21600, To: to, Every: 1200}
		checkCheck(t, []api.Frequency{f}, someTrips(), 0, api.OK)
		checkCheck(t, []api.Frequency{f}, nil, 0, api.ErrReference)
		checkCheck(t, []api.Frequency{f, f}, someTrips(), 1, api.ErrOrder)
	}
	checkCheck(t, []api.Frequency{{From: 1000, To: 1001, Every: 1}}, []api.Trip{sample()}, 0, api.OK)
	checkCheck(t, []api.Frequency{{From: 1000, To: 1000, Every: 1}}, []api.Trip{sample()}, 0, api.ErrTime)
	checkCheck(t, []api.Frequency{{From: 21600, To: 25200, Every: 1200}, {From: 25200, To: 30000, Every: 600}, {From: 0, To: 21600, Every: 3600}}, []api.Trip{point()}, 0, api.OK)
}

func TestCheckLimit(t *testing.T) {
	for _, trips := range tripLists() {
		checkCheck(t, nil, trips, 0, api.OK)
		checkCheck(t, []api.Frequency{}, trips, 0, api.OK)
		checkCheck(t, table(3)[:0], trips, 0, api.OK)
	}
	for n := range mostFrequencies + 1 {
		checkCheck(t, table(n), someTrips(), 0, api.OK)
	}
	for _, n := range []int{mostFrequencies + 1, mostFrequencies + 2, 2 * mostFrequencies, 255, 256, 257, 256 + mostFrequencies, 65535, 65536, 65536 + mostFrequencies} {
		checkCheck(t, table(n), someTrips(), 0, api.ErrLimit)
		checkCheck(t, table(n)[:mostFrequencies], someTrips(), 0, api.OK)
		// No frequency of a list that is too long is sound, or each of them is of another trip.
		checkCheck(t, make([]api.Frequency, n), someTrips(), 0, api.ErrLimit)
		l := slices.Repeat(table(1), n)
		for i := range l {
			l[i].Trip = i
		}
		checkCheck(t, l, points(n), 0, api.ErrLimit)
		checkCheck(t, l[:mostFrequencies], points(n), 0, api.OK)
	}
}

// The number of frequencies comes before all other errors.
func TestCheckLimitFirst(t *testing.T) {
	l := table(mostFrequencies + 1)
	for _, trips := range tripLists() {
		checkCheck(t, l, trips, 0, api.ErrLimit)
	}
	for _, w := range wrongs() {
		for i := range l {
			checkCheck(t, with(l, i, w.in(l[i])), someTrips(), 0, api.ErrLimit)
		}
	}
}

func TestCheckReference(t *testing.T) {
	valid := api.Frequency{From: 1000, To: 1300, Every: 100}
	for trips := range 8 {
		for _, trip := range append(integers(), trips-1, trips, trips+1) {
			e := api.ErrReference
			if trip >= 0 && trip < trips {
				e = api.OK
			}
			l := []api.Frequency{valid, {Trip: trip, From: 2000, To: 2300, Every: 100}}
			checkCheck(t, l[1:], points(trips), 0, e)
			if trips == 0 {
				checkCheck(t, l, points(trips), 0, api.ErrReference)
				continue
			}
			checkCheck(t, l, points(trips), at(1, e), e)
			checkCheck(t, append(l, api.Frequency{From: 3000, To: 3300, Every: 100}), points(trips), at(1, e), e)
		}
	}
	// The trips of a full table, and those of a longer one.
	for _, trips := range []int{255, 256, 257, 300} {
		for _, trip := range []int{-1, 0, 1, 63, 64, 254, 255, 256, 257, 299, 300, 65536, 1 << 32} {
			e := api.ErrReference
			if trip >= 0 && trip < trips {
				e = api.OK
			}
			checkCheck(t, []api.Frequency{valid, {Trip: trip, From: 2000, To: 2300, Every: 100}}, points(trips), at(1, e), e)
		}
	}
}

// Without trips, no frequency can refer to one.
func TestCheckReferenceOfNoTrips(t *testing.T) {
	for _, trip := range integers() {
		for _, f := range []api.Frequency{{Trip: trip, From: 1000, To: 1300, Every: 100}, {Trip: trip}, {Trip: trip, From: greatest, To: least}} {
			checkCheck(t, []api.Frequency{f}, nil, 0, api.ErrReference)
			checkCheck(t, []api.Frequency{f, f}, []api.Trip{}, 0, api.ErrReference)
		}
	}
}

// span has the parts of a frequency that make it sound, and whether they do.
type span struct {
	from, to, every int
	sound           bool
}

// spans returns frequencies at the limits and at the ends of the integers.
func spans() []span {
	return []span{
		{0, 1, 1, true}, {-1, 1, 1, false}, {1, 2, 1, true}, {0, 0, 1, false}, {0, -1, 1, false}, {-1, 0, 1, false}, {-2, -1, 1, false}, {-1, -1, 1, false},
		{1, 1, 1, false}, {1, 0, 1, false}, {2, 1, 1, false}, {100, 100, 1, false}, {100, 101, 1, true}, {100, 99, 1, false}, {101, 100, 1, false},
		{mostTime - 1, mostTime, 1, true}, {mostTime - 1, mostTime - 1, 1, false}, {mostTime, mostTime, 1, false}, {mostTime, mostTime + 1, 1, false}, {mostTime - 1, mostTime + 1, 1, false}, {mostTime, mostTime - 1, 1, false}, {mostTime + 1, mostTime + 2, 1, false}, {mostTime + 1, mostTime, 1, false}, {mostTime - 2, mostTime - 1, 1, true},
		{dayLength - 1, dayLength, 1, true}, {dayLength, dayLength + 1, 1, true}, {dayLength, dayLength, 1, false},
		{0, mostTime, dayLength, true}, {0, mostTime, dayLength - 1, true}, {0, mostTime, dayLength + 1, false}, {0, mostTime, mostTime, false}, {-1, mostTime, dayLength, false}, {0, mostTime + 1, dayLength, false}, {0, mostTime - 1, dayLength, true}, {1, mostTime, dayLength, true},
		{1000, 1200, 0, false}, {1000, 1200, 1, true}, {1000, 1200, -1, false}, {1000, 1200, 2, true}, {1000, 1200, -dayLength, false}, {1000, 1200, 200, true}, {1000, 1200, 199, true}, {1000, 1200, 201, true}, {1000, 1200, dayLength, true}, {1000, 1200, dayLength + 1, false}, {1000, 1200, 1 << 32, false}, {1000, 1200, 1<<32 + 100, false},
		{least, 1200, 100, false}, {1000, greatest, 100, false}, {1000, 1200, least, false}, {1000, 1200, greatest, false}, {least, greatest, 1, false}, {greatest, least, 1, false}, {least, least, least, false}, {greatest, greatest, greatest, false}, {least, least + 1, 1, false}, {greatest - 1, greatest, 1, false}, {1000, least, 100, false}, {greatest, 1200, 100, false}, {0, greatest, greatest, false}, {1 << 32, 1<<32 + 100, 10, false},
	}
}

// A frequency that is not sound is an error, also if the trip can be started at all times.
func TestCheckSound(t *testing.T) {
	for _, c := range spans() {
		f := api.Frequency{Trip: 1, From: c.from, To: c.to, Every: c.every}
		before := []api.Frequency{{Trip: 0, From: 0, To: mostTime, Every: dayLength}, {Trip: 2, From: 5, To: 6, Every: 1}}
		e := api.ErrTime
		if c.sound {
			e = api.OK
		}
		checkCheck(t, []api.Frequency{f}, points(3), 0, e)
		checkCheck(t, append(before, f), points(3), at(2, e), e)
		checkCheck(t, []api.Frequency{f, before[0]}, points(3), 0, e)
	}
}

// Each of From, To and Every at all integers, beside others that are sound or not.
func TestCheckSoundOfAllIntegers(t *testing.T) {
	for _, n := range integers() {
		for _, f := range []api.Frequency{
			{From: n, To: n + 1, Every: 1}, {From: n, To: n, Every: 1}, {From: n, To: n - 1, Every: 1}, {From: n, To: mostTime, Every: dayLength}, {From: 0, To: n, Every: dayLength},
			{From: 100, To: n, Every: dayLength}, {From: n, To: 100, Every: 1}, {From: 100, To: 200, Every: n}, {From: 0, To: mostTime, Every: n}, {From: n, To: n + 200, Every: n}, {From: -n, To: n, Every: n},
		} {
			checkTrips(t, []api.Frequency{f}, points(1))
			checkTrips(t, []api.Frequency{f}, someTrips())
			checkTrips(t, []api.Frequency{{Trip: 1, From: 100, To: 200, Every: 10}, f}, points(2))
		}
	}
}

// The times of the trip started at the first and at the last start, exactly at the bounds and one second outside.
func TestCheckTimes(t *testing.T) {
	for _, c := range []struct {
		trip  api.Trip
		first int
		last  int
	}{
		// The first and the last possible start.
		{sample(), 60, mostTime - 240}, {point(), 0, mostTime - 1}, {ofTimes(0, 0, 50, 50), 0, mostTime - 50}, {ofTimes(0, 100, 100, 100), 100, mostTime - 1}, {ofTimes(70, 100, 150, 190), 30, mostTime - 90}, {ofTimes(100000, 100000, 172800, 172800), 0, mostTime - 72800},
		{ofTimes(0, 1, 1, 2), 1, mostTime - 1}, {ofTimes(0, 0, 0, 1), 0, mostTime - 1}, {ofTimes(0, 0, 1, 2, 2, 3, 3, 100), 0, mostTime - 100}, {ofTimes(0, 60000, mostTime, mostTime), 60000, 60000}, {ofTimes(0, 0, mostTime, mostTime), 0, 0}, {ofTimes(0, mostTime-1, mostTime-1, mostTime), mostTime - 1, mostTime - 1},
		{long(mostCalls, 300), 300, mostTime - 31*60 - 20}, {long(2, 0), 0, mostTime - 80},
	} {
		trips := []api.Trip{point(), c.trip}
		single := func(start int) []api.Frequency {
			return []api.Frequency{{Trip: 1, From: start, To: start + 1, Every: 1}}
		}
		checkCheck(t, single(c.first), trips, 0, api.OK)
		checkCheck(t, single(c.last), trips, 0, api.OK)
		checkCheck(t, single(c.first-1), trips, 0, api.ErrTime)
		checkCheck(t, single(c.last+1), trips, 0, api.ErrTime)
		for every := 1; every <= dayLength && c.first+every <= c.last; every = every*5 + 1 {
			// Several starts, of which the first one or the last one decides.
			count := min(200, (c.last-c.first)/every)
			checkCheck(t, []api.Frequency{{Trip: 1, From: c.first, To: c.first + count*every, Every: every}}, trips, 0, api.OK)
			checkCheck(t, []api.Frequency{{Trip: 1, From: c.first - 1, To: c.first + count*every - 1, Every: every}}, trips, 0, api.ErrTime)
			to := min(mostTime, c.last+every)
			checkCheck(t, []api.Frequency{{Trip: 1, From: c.last - count*every, To: to, Every: every}}, trips, 0, api.OK)
			checkCheck(t, []api.Frequency{{Trip: 1, From: c.last - count*every + 1, To: c.last + 2, Every: every}}, trips, 0, api.ErrTime)
		}
	}
}

// To is not a start itself, so that the trip need not fit there.
func TestCheckTimesOfTheEnd(t *testing.T) {
	trips := []api.Trip{sample()}
	last := mostTime - 240
	for _, every := range []int{1, 7, 100, 1500} {
		from := last - 100*every
		for _, c := range []struct {
			to int
			e  api.Errno
		}{{last - 1, api.OK}, {last, api.OK}, {last + 1, api.OK}, {last + every - 1, api.OK}, {last + every, api.OK}, {last + every + 1, api.ErrTime}, {last + 2*every + 1, api.ErrTime}} {
			if c.to <= mostTime {
				checkCheck(t, []api.Frequency{{From: from, To: c.to, Every: every}}, trips, 0, c.e)
			}
			if c.to+1 <= mostTime {
				// One second later, the last start is too late.
				checkTrips(t, []api.Frequency{{From: from + 1, To: c.to + 1, Every: every}}, trips)
			}
		}
	}
	// An Every that is longer than the interval leaves one start.
	checkCheck(t, []api.Frequency{{From: 172500, To: 172800, Every: 300}}, trips, 0, api.OK)
	checkCheck(t, []api.Frequency{{From: 172500, To: 172800, Every: 299}}, trips, 0, api.ErrTime)
	checkCheck(t, []api.Frequency{{From: 172500, To: 172800, Every: 301}}, trips, 0, api.OK)
	checkCheck(t, []api.Frequency{{From: 172500, To: 172800, Every: dayLength}}, trips, 0, api.OK)
	checkCheck(t, []api.Frequency{{From: 172560, To: 172800, Every: dayLength}}, trips, 0, api.OK)
	checkCheck(t, []api.Frequency{{From: 172561, To: 172800, Every: dayLength}}, trips, 0, api.ErrTime)
}

// The times of the trip of the frequency count, and not those of another one, nor those at which the trip calls without a frequency.
func TestCheckTimesOfTheTrip(t *testing.T) {
	trips := []api.Trip{point(), sample(), ofTimes(0, 0, mostTime, mostTime)}
	f := api.Frequency{From: 30, To: 31, Every: 1}
	for trip, e := range []api.Errno{api.OK, api.ErrTime, api.ErrTime} {
		f.Trip = trip
		checkCheck(t, []api.Frequency{f}, trips, 0, e)
	}
	checkCheck(t, []api.Frequency{{Trip: 2, From: 0, To: 1, Every: 1}, {Trip: 0, From: 30, To: 60, Every: 5}, {Trip: 1, From: 60, To: 90, Every: 5}}, trips, 0, api.OK)
	checkCheck(t, []api.Frequency{{Trip: 2, From: 0, To: 1, Every: 1}, {Trip: 0, From: 30, To: 60, Every: 5}, {Trip: 1, From: 59, To: 90, Every: 5}}, trips, 2, api.ErrTime)
	for by := range 200 {
		// The same trip at other times can be started at the same ones.
		moved := ofTimes(by*800, by*800+60, by*800+300, by*800+300)
		checkCheck(t, []api.Frequency{{From: 60, To: 61, Every: 1}, {From: mostTime - 240, To: mostTime, Every: 240}}, []api.Trip{moved}, 0, api.OK)
		checkCheck(t, []api.Frequency{{From: 59, To: 60, Every: 1}}, []api.Trip{moved}, 0, api.ErrTime)
		checkCheck(t, []api.Frequency{{From: mostTime - 239, To: mostTime, Every: 240}}, []api.Trip{moved}, 0, api.ErrTime)
	}
}

// The other parts of a trip have no influence.
func TestCheckIgnoresOtherParts(t *testing.T) {
	l := []api.Frequency{{From: 60, To: 100, Every: 20}, {From: 100, To: mostTime - 239, Every: 60000}}
	other := sample()
	other.ID, other.Route, other.Calendar, other.StepFree = "", 5, -1, true
	for i := range other.Calls {
		other.Calls[i].Stop += 100
		other.Calls[i].Board = !other.Calls[i].Board
	}
	checkCheck(t, l, []api.Trip{sample()}, 0, api.OK)
	checkCheck(t, l, []api.Trip{other}, 0, api.OK)
	l[1].To++
	l[1].From, l[1].Every = mostTime-299, 60
	checkCheck(t, l, []api.Trip{sample()}, 1, api.ErrTime)
	checkCheck(t, l, []api.Trip{other}, 1, api.ErrTime)
}

// Exactly MaxStarts starts of one frequency, and one more or less.
func TestCheckStartsOfOneFrequency(t *testing.T) {
	for _, every := range []int{1, 2, 7, 100, 600} {
		from := 1000
		last := from + (mostStarts-1)*every
		for _, c := range []struct {
			to int
			e  api.Errno
		}{{last - every, api.OK}, {last, api.OK}, {last + 1, api.OK}, {last + every - 1, api.OK}, {last + every, api.OK}, {last + every + 1, api.ErrFrequency}, {last + 5*every, api.ErrFrequency}, {mostTime - 240, api.ErrFrequency}} {
			checkCheck(t, []api.Frequency{{From: from, To: c.to, Every: every}}, []api.Trip{sample()}, 0, c.e)
			checkCheck(t, []api.Frequency{{Trip: 1, From: 0, To: 1, Every: 1}, {From: from, To: c.to, Every: every}}, points(2), at(1, c.e), c.e)
		}
	}
	checkCheck(t, []api.Frequency{{From: 0, To: mostTime, Every: 675}}, points(1), 0, api.OK)
	checkCheck(t, []api.Frequency{{From: 0, To: mostTime, Every: 674}}, points(1), 0, api.ErrFrequency)
	checkCheck(t, []api.Frequency{{From: 0, To: mostTime, Every: 1}}, points(1), 0, api.ErrFrequency)
}

// parts returns frequencies of the trip with those numbers of starts, one after another.
func parts(trip int, counts ...int) []api.Frequency {
	var l []api.Frequency
	from := 100
	for i, n := range counts {
		every := 1 + i%3*5
		f := api.Frequency{Trip: trip, From: from, To: from + n*every, Every: every}
		l = append(l, f)
		from = f.To + i%2*10
	}
	return l
}

// The starts of all frequencies of a trip up to the wrong one are counted together.
func TestCheckStartsOfSeveralFrequencies(t *testing.T) {
	for _, c := range []struct {
		counts []int
		index  int
		e      api.Errno
	}{
		{[]int{128, 128}, 0, api.OK}, {[]int{128, 129}, 1, api.ErrFrequency}, {[]int{255, 1}, 0, api.OK}, {[]int{256, 1}, 1, api.ErrFrequency}, {[]int{1, 255}, 0, api.OK}, {[]int{1, 256}, 1, api.ErrFrequency}, {[]int{255, 2}, 1, api.ErrFrequency}, {[]int{257, 1}, 0, api.ErrFrequency},
		{[]int{100, 100, 56}, 0, api.OK}, {[]int{100, 100, 57}, 2, api.ErrFrequency}, {[]int{100, 100, 56, 1}, 3, api.ErrFrequency}, {[]int{200, 100, 1}, 1, api.ErrFrequency}, {[]int{1, 1, 254, 1}, 3, api.ErrFrequency}, {[]int{1, 1, 255}, 2, api.ErrFrequency},
		{slices.Repeat([]int{4}, 64), 0, api.OK}, {append(slices.Repeat([]int{4}, 63), 5), 63, api.ErrFrequency}, {append([]int{5}, slices.Repeat([]int{4}, 63)...), 63, api.ErrFrequency}, {append([]int{8}, slices.Repeat([]int{4}, 63)...), 63, api.ErrFrequency}, {slices.Repeat([]int{3}, 65), 0, api.ErrLimit}, {append([]int{8}, slices.Repeat([]int{4}, 62)...), 0, api.OK}, {append([]int{9}, slices.Repeat([]int{4}, 62)...), 62, api.ErrFrequency}, {slices.Repeat([]int{5}, 60), 51, api.ErrFrequency},
	} {
		checkCheck(t, parts(0, c.counts...), points(1), c.index, c.e)
		// Of another trip, after one with as many starts as possible, which are not counted with those.
		if len(c.counts) < mostFrequencies {
			l := append(parts(0, mostStarts), parts(1, c.counts...)...)
			checkCheck(t, l, points(2), at(c.index+1, c.e), c.e)
		}
	}
}

// Frequencies of several trips take turns, each trip with MaxStarts starts; one more start of one of them is an error.
func TestCheckStartsOfSeveralTrips(t *testing.T) {
	var l []api.Frequency
	trips := []int{2, 0, 1, 3}
	for i := range 8 {
		for _, trip := range trips {
			l = append(l, parts(trip, slices.Repeat([]int{32}, 8)...)[i])
		}
	}
	checkCheck(t, l, points(4), 0, api.OK)
	for trip := range 4 {
		checkCheck(t, append(slices.Clone(l), api.Frequency{Trip: trip, From: 10, To: 11, Every: 1}), points(4), len(l), api.ErrFrequency)
		checkCheck(t, append([]api.Frequency{{Trip: trip, From: 10, To: 11, Every: 1}}, l...), points(4), 29+slices.Index(trips, trip), api.ErrFrequency)
	}
	checkCheck(t, append(slices.Clone(l), api.Frequency{Trip: 4, From: 10, To: 11, Every: 1}), points(5), 0, api.OK)
}

// Common starts are counted as often as they occur, and come before the common times.
func TestCheckStartsInCommon(t *testing.T) {
	full := api.Frequency{From: 1000, To: 1256, Every: 1}
	for _, f := range []api.Frequency{full, {From: 1255, To: 1256, Every: 1}, {From: 1000, To: 1001, Every: dayLength}, {From: 500, To: 1100, Every: 600}} {
		checkCheck(t, []api.Frequency{full, f}, points(1), 1, api.ErrFrequency)
		f.Trip = 1
		checkCheck(t, []api.Frequency{full, f}, points(2), 0, api.OK)
	}
	half := api.Frequency{From: 1000, To: 1128, Every: 1}
	checkCheck(t, []api.Frequency{half, half}, points(1), 1, api.ErrOrder)
	checkCheck(t, []api.Frequency{half, {From: 1000, To: 1129, Every: 1}}, points(1), 1, api.ErrFrequency)
}

// Intervals of one trip that touch, overlap, contain one another, are equal, or are apart, in either order.
func TestCheckOrder(t *testing.T) {
	for _, c := range []struct {
		from, to, first, last int
		e                     api.Errno
	}{
		{100, 200, 200, 300, api.OK}, {100, 200, 199, 300, api.ErrOrder}, {100, 200, 201, 300, api.OK}, {100, 200, 100, 200, api.ErrOrder}, {100, 200, 120, 180, api.ErrOrder}, {100, 200, 100, 180, api.ErrOrder}, {100, 200, 120, 200, api.ErrOrder}, {100, 200, 120, 300, api.ErrOrder}, {100, 200, 50, 150, api.ErrOrder},
		{100, 200, 100, 101, api.ErrOrder}, {100, 200, 199, 200, api.ErrOrder}, {100, 200, 99, 100, api.OK}, {100, 200, 200, 201, api.OK}, {100, 200, 99, 101, api.ErrOrder}, {100, 200, 199, 201, api.ErrOrder}, {100, 200, 50, 100, api.OK}, {100, 200, 50, 101, api.ErrOrder}, {100, 101, 100, 101, api.ErrOrder}, {100, 101, 101, 102, api.OK}, {0, mostTime, 500, 501, api.ErrOrder}, {0, 1, mostTime - 1, mostTime, api.OK}, {0, mostTime, 0, mostTime, api.ErrOrder},
	} {
		// The starts do not matter: with the long steps, each frequency has but one or two, which may be far apart.
		for _, every := range []int{5, 70, 1000, dayLength} {
			f, g := api.Frequency{From: c.from, To: c.to, Every: every}, api.Frequency{From: c.first, To: c.last, Every: max(every, 1000)}
			if len(wantedStarts(f)) > mostStarts/2 || len(wantedStarts(g)) > mostStarts/2 {
				continue
			}
			checkCheck(t, []api.Frequency{f, g}, points(2), at(1, c.e), c.e)
			checkCheck(t, []api.Frequency{g, f}, points(2), at(1, c.e), c.e)
			// Of different trips, no order is wrong.
			f.Trip = 1
			checkCheck(t, []api.Frequency{f, g}, points(2), 0, api.OK)
			checkCheck(t, []api.Frequency{g, f}, points(2), 0, api.OK)
			g.Trip = 1
			checkCheck(t, []api.Frequency{f, {Trip: 0, From: c.from, To: c.to, Every: 1000}, g}, points(2), at(2, c.e), c.e)
		}
	}
}

// contains reports whether a time is in the interval of the frequency.
func contains(f api.Frequency, time int) bool {
	return f.From <= time && time < f.To
}

// All pairs of short intervals, with the times that they have in common.
func TestCheckOrderOfAllShortIntervals(t *testing.T) {
	var all []api.Frequency
	for from := range 8 {
		for to := from + 1; to <= 8; to++ {
			all = append(all, api.Frequency{From: from, To: to, Every: 1 + (from+to)%3})
		}
	}
	for _, f := range all {
		for _, g := range all {
			e := api.OK
			for time := range 10 {
				if contains(f, time) && contains(g, time) {
					e = api.ErrOrder
				}
			}
			checkCheck(t, []api.Frequency{f, g}, points(1), at(1, e), e)
			checkCheck(t, []api.Frequency{{From: 20, To: 30, Every: 4}, f, {From: 10, To: 20, Every: 4}, g}, points(1), at(3, e), e)
			for _, h := range all {
				checkTrips(t, []api.Frequency{f, g, h}, points(1))
			}
		}
	}
}

// The two intervals at each pair of places of a full list of one trip, whose other intervals are 100 seconds apart.
func TestCheckOrderOfEachPairOfPlaces(t *testing.T) {
	l := table(mostFrequencies)
	for i := range l {
		l[i].Trip, l[i].Every = 0, 400
	}
	checkCheck(t, l, points(2), 0, api.OK)
	for j := range l {
		for i := range j {
			for _, by := range []int{-100, -1, 0, 1, 100} {
				f := api.Frequency{From: l[i].From + by, To: l[i].To + by, Every: 500}
				checkCheck(t, with(l, j, f), points(2), j, api.ErrOrder)
				checkCheck(t, with(l, j, f)[i:j+1], points(2), j-i, api.ErrOrder)
				f.Trip = 1
				checkCheck(t, with(l, j, f), points(2), 0, api.OK)
			}
			checkCheck(t, with(l, j, api.Frequency{From: l[i].To, To: l[i].To + 100, Every: 50}), points(2), 0, api.OK)
			checkCheck(t, with(l, j, api.Frequency{From: l[i].To - 1, To: l[i].To + 100, Every: 50}), points(2), j, api.ErrOrder)
			checkCheck(t, with(l, j, api.Frequency{From: l[i].From - 100, To: l[i].From, Every: 50}), points(2), 0, api.OK)
			checkCheck(t, with(l, j, api.Frequency{From: l[i].From - 100, To: l[i].From + 1, Every: 50}), points(2), j, api.ErrOrder)
		}
	}
}

// wrong changes a frequency that table returns, so that it is not valid for someTrips.
type wrong struct {
	e      api.Errno
	rank   int
	change func(f *api.Frequency)
}

// in returns the frequency that is wrong.
func (w wrong) in(f api.Frequency) api.Frequency {
	w.change(&f)
	return f
}

// move shifts a frequency so that it begins by seconds after the first one of its trip in table, which it needs as an earlier one.
func move(f *api.Frequency, by int) {
	first := table(4)[f.Trip&3]
	f.From, f.To = first.From+by, first.From+by+f.To-f.From
}

// wrongs returns changes for each error; of two that apply to a frequency, the one with the lower rank comes first, and is applied last.
func wrongs() []wrong {
	return []wrong{
		{api.ErrReference, 0, func(f *api.Frequency) { f.Trip = -1 }},
		{api.ErrReference, 0, func(f *api.Frequency) { f.Trip = len(someTrips()) }},
		{api.ErrReference, 0, func(f *api.Frequency) { f.Trip = least }},
		{api.ErrReference, 0, func(f *api.Frequency) { f.Trip = greatest }},
		{api.ErrTime, 1, func(f *api.Frequency) { f.From = -1 }},
		{api.ErrTime, 1, func(f *api.Frequency) { f.To = mostTime + 1 }},
		{api.ErrTime, 1, func(f *api.Frequency) { f.From = f.To }},
		{api.ErrTime, 1, func(f *api.Frequency) { f.From, f.To = f.To, f.From }},
		{api.ErrTime, 1, func(f *api.Frequency) { f.Every = 0 }},
		{api.ErrTime, 1, func(f *api.Frequency) { f.Every = dayLength + 1 }},
		{api.ErrTime, 1, func(f *api.Frequency) { f.From, f.To, f.Every = least, greatest, least }},
		{api.ErrTime, 1, func(f *api.Frequency) { f.Trip, f.From = 0, 59 }},
		{api.ErrTime, 1, func(f *api.Frequency) { f.Trip, f.From, f.To, f.Every = 3, mostTime-200, mostTime, 1 }},
		{api.ErrFrequency, 2, func(f *api.Frequency) { f.Every = 1 }},
		{api.ErrFrequency, 2, func(f *api.Frequency) { f.To, f.Every = f.From+257, 1 }},
		{api.ErrOrder, 3, func(f *api.Frequency) { move(f, 0) }},
		{api.ErrOrder, 3, func(f *api.Frequency) { move(f, 399) }},
		{api.ErrOrder, 3, func(f *api.Frequency) { move(f, -399) }},
	}
}

// places returns the indices of some frequencies of a full table; those before 4 are the first ones of their trips.
func places() []int {
	return []int{0, 1, 2, 3, 4, 5, 6, 7, 30, 31, 32, 33, mostFrequencies - 2, mostFrequencies - 1}
}

// Each change is an error on its own, and gives nothing but the index and the error.
func TestCheckEachError(t *testing.T) {
	l := table(mostFrequencies)
	for _, w := range wrongs() {
		for _, i := range places() {
			if w.e == api.ErrOrder && i < 4 {
				continue
			}
			checkCheck(t, with(l, i, w.in(l[i])), someTrips(), i, w.e)
			checkCheck(t, append(slices.Clone(l[:i]), w.in(l[i])), someTrips(), i, w.e)
		}
	}
}

// Of several errors of one frequency, the one that the promise names first is returned.
func TestCheckErrorsOfOneFrequency(t *testing.T) {
	l := table(20)
	for _, first := range wrongs() {
		for _, second := range wrongs() {
			if first.rank >= second.rank {
				continue
			}
			for _, i := range []int{8, 13, 18, 19} {
				f := first.in(second.in(l[i]))
				checkCheck(t, with(l, i, f), someTrips(), i, first.e)
				checkCheck(t, append(slices.Clone(l[:i]), f), someTrips(), i, first.e)
				for _, third := range wrongs() {
					if third.rank > second.rank {
						checkCheck(t, with(l, i, first.in(second.in(third.in(l[i])))), someTrips(), i, first.e)
					}
				}
			}
		}
	}
	// Too early and too many starts at times that an earlier frequency has, of a trip that does not exist, and of one that does.
	all := []api.Frequency{{From: 60, To: 300, Every: 1}, {Trip: 1, From: 59, To: 400, Every: 1}}
	checkCheck(t, all, []api.Trip{sample()}, 1, api.ErrReference)
	all[1].Trip = 0
	checkCheck(t, all, []api.Trip{sample()}, 1, api.ErrTime)
	all[1].From = 60
	checkCheck(t, all, []api.Trip{sample()}, 1, api.ErrFrequency)
	all[1].Every = 100
	checkCheck(t, all, []api.Trip{sample()}, 1, api.ErrOrder)
	all[1].From = 300
	checkCheck(t, all, []api.Trip{sample()}, 0, api.OK)
	all[1].Every = 5
	checkCheck(t, all, []api.Trip{sample()}, 1, api.ErrFrequency)
}

// Of the errors of several frequencies, the one of the first frequency comes first, whatever the errors are.
func TestCheckErrorsOfTwoFrequencies(t *testing.T) {
	l := table(mostFrequencies)
	for _, j := range places() {
		for _, i := range places() {
			if i >= j {
				continue
			}
			for _, first := range wrongs() {
				if first.e == api.ErrOrder && i < 4 {
					continue
				}
				for _, second := range wrongs() {
					checkCheck(t, with(with(l[:j+1], i, first.in(l[i])), j, second.in(l[j])), someTrips(), i, first.e)
				}
			}
		}
	}
}

// The frequencies before the index are valid, and the error is that of the first frequency that is not.
func TestCheckFirstError(t *testing.T) {
	count := map[api.Errno]int{}
	for _, l := range tables() {
		for _, trips := range tripLists() {
			index, e := Check(l, trips)
			count[e]++
			if e == api.OK || len(l) > mostFrequencies {
				checkCheck(t, l, trips, 0, e)
			} else if index < 0 || index >= len(l) {
				t.Errorf("Check(%s, %s) = %d, %d", text(l), text(trips), index, e)
			} else {
				checkCheck(t, l[:index], trips, 0, api.OK)
				checkCheck(t, l[:index+1], trips, index, e)
			}
		}
	}
	for _, e := range []api.Errno{api.OK, api.ErrLimit, api.ErrReference, api.ErrTime, api.ErrFrequency, api.ErrOrder} {
		if count[e] < 10 {
			t.Errorf("Check returned %d only %d times", e, count[e])
		}
	}
	if len(count) != 6 {
		t.Errorf("Check returned other errors: %v", count)
	}
}

// All pairs of small frequencies that are sound or not, of a trip that begins 2 seconds before its departure.
func TestCheckOfAllSmallPairs(t *testing.T) {
	var all []api.Frequency
	for trip := -1; trip <= 2; trip++ {
		for from := -1; from <= 4; from++ {
			for to := -1; to <= 5; to++ {
				for every := range 3 {
					all = append(all, api.Frequency{Trip: trip, From: from, To: to, Every: every})
				}
			}
		}
	}
	trips := []api.Trip{ofTimes(3, 5, 9, 9), ofTimes(7, 7, 8, 8)}
	for _, f := range all {
		checkTrips(t, []api.Frequency{f}, trips[:1])
		for _, g := range all {
			checkTrips(t, []api.Frequency{f, g}, trips)
		}
	}
}

// The trips need not be valid for Check to end: those without calls have no times, and the times of others are computed exactly.
func TestCheckOfInvalidTrips(t *testing.T) {
	f := api.Frequency{From: 1000, To: 1300, Every: 100}
	for _, trip := range []api.Trip{{}, {ID: "A", Calls: []api.Call{}}, ofTimes(5, 5), ofTimes(5, 5, 1, 1), ofTimes(1000, 1000, 0, 0)} {
		checkCheck(t, []api.Frequency{f}, []api.Trip{trip}, 0, api.OK)
	}
	for _, trip := range []api.Trip{ofTimes(5000, 5000, 0, 0), ofTimes(1001, 1001, 0, 0), ofTimes(0, 0, mostTime, 0), ofTimes(0, 0, 5, 5, mostTime, 0, 5, 5), ofTimes(least, 0), ofTimes(0, least), ofTimes(greatest, greatest, least, least), ofTimes(least, least, greatest, greatest), ofTimes(-2000, -2000, -2000, greatest)} {
		checkCheck(t, []api.Frequency{f}, []api.Trip{trip}, 0, api.ErrTime)
		checkCheck(t, []api.Frequency{f}, []api.Trip{trip, point()}, 0, api.ErrTime)
		checkCheck(t, []api.Frequency{f}, []api.Trip{point(), trip}, 0, api.OK)
	}
	for _, n := range edges() {
		for _, m := range edges() {
			for _, trip := range []api.Trip{ofTimes(n, m), ofTimes(n, n, m, m), ofTimes(0, 0, n, m), ofTimes(m, n, 0, n, m, m)} {
				checkTrips(t, []api.Frequency{f}, []api.Trip{trip})
				checkTrips(t, []api.Frequency{{From: 0, To: mostTime, Every: 1000}}, []api.Trip{trip})
			}
		}
	}
	many := point()
	many.Calls = slices.Repeat(many.Calls, 100000)
	checkCheck(t, []api.Frequency{{From: 0, To: mostTime, Every: 1}}, []api.Trip{many}, 0, api.ErrFrequency)
	many.Calls[99999].Depart++
	checkCheck(t, []api.Frequency{{From: 0, To: mostTime, Every: 1000}}, []api.Trip{many}, 0, api.OK)
	many.Calls[99999].Depart = 100000
	checkCheck(t, []api.Frequency{{From: 0, To: mostTime, Every: 1000}}, []api.Trip{many}, 0, api.ErrTime)
}

// P18.2 (Starts, Instances, Repeated)

func TestStartsExamples(t *testing.T) {
	checkStarts(t, api.Frequency{From: 21600, To: 25200, Every: 1200}, 21600, 22800, 24000)
	checkStarts(t, api.Frequency{From: 21600, To: 25201, Every: 1200}, 21600, 22800, 24000, 25200)
	checkStarts(t, api.Frequency{From: 21600, To: 25199, Every: 1200}, 21600, 22800, 24000)
	checkStarts(t, api.Frequency{From: 21600, To: 24001, Every: 1200}, 21600, 22800, 24000)
	checkStarts(t, api.Frequency{From: 21600, To: 24000, Every: 1200}, 21600, 22800)
	checkStarts(t, api.Frequency{From: 21600, To: 25200, Every: 3600}, 21600)
	checkStarts(t, api.Frequency{From: 21600, To: 25200, Every: 3599}, 21600, 25199)
	checkStarts(t, api.Frequency{From: 21600, To: 25200, Every: dayLength}, 21600)
	checkStarts(t, api.Frequency{})
}

// A frequency has a start exactly if it is sound, and the first one is From.
func TestStartsOfSound(t *testing.T) {
	for _, c := range spans() {
		f := api.Frequency{From: c.from, To: c.to, Every: c.every}
		checkStarts(t, f, wantedStarts(f)...)
		if got := Starts(f); c.sound != (len(got) > 0) || c.sound && got[0] != c.from {
			t.Errorf("Starts(%d) = %s", f, text(got))
		}
	}
}

// The trip has no influence, whether it can exist or not.
func TestStartsIgnoresTheTrip(t *testing.T) {
	for _, trip := range integers() {
		checkStarts(t, api.Frequency{Trip: trip, From: 21600, To: 25200, Every: 1200}, 21600, 22800, 24000)
		checkStarts(t, api.Frequency{Trip: trip, From: 0, To: 0, Every: 1200})
	}
}

// All short frequencies: the starts are the times of the interval whose distance from the first one is a multiple of the step.
func TestStartsOfAllShortFrequencies(t *testing.T) {
	for from := -2; from <= 12; from++ {
		for to := -2; to <= 13; to++ {
			for every := -1; every <= 14; every++ {
				want := []int{}
				for time := from; time < to && from >= 0 && every > 0; time++ {
					if (time-from)%every == 0 {
						want = append(want, time)
					}
				}
				checkStarts(t, api.Frequency{From: from, To: to, Every: every}, want...)
			}
		}
	}
}

// A To that is exactly a start, and one second less and more, for many steps and numbers of starts.
func TestStartsOfTheEnd(t *testing.T) {
	for _, every := range []int{1, 2, 3, 59, 60, 61, 1200, 3600, dayLength - 1, dayLength} {
		for _, from := range []int{0, 1, 100, dayLength - 1, dayLength, mostTime - 1} {
			for count := 1; count <= 300 && from+count*every <= mostTime; count += 1 + count/3 {
				want := []int{}
				for k := range count {
					want = append(want, from+k*every)
				}
				to := from + count*every
				checkStarts(t, api.Frequency{From: from, To: to, Every: every}, want...)
				checkStarts(t, api.Frequency{From: from, To: to - 1, Every: every}, want[:count-1+min(1, every-1)]...)
				if to < mostTime {
					checkStarts(t, api.Frequency{From: from, To: to + 1, Every: every}, append(want, to)...)
				}
			}
		}
	}
}

// The longest intervals, and more starts than a trip may have.
func TestStartsOfLongIntervals(t *testing.T) {
	checkStarts(t, api.Frequency{From: 0, To: mostTime, Every: dayLength}, 0, dayLength)
	checkStarts(t, api.Frequency{From: 0, To: mostTime, Every: dayLength - 1}, 0, dayLength-1, 2*dayLength-2)
	checkStarts(t, api.Frequency{From: 0, To: mostTime - 1, Every: dayLength}, 0, dayLength)
	checkStarts(t, api.Frequency{From: 0, To: dayLength, Every: dayLength}, 0)
	checkStarts(t, api.Frequency{From: 0, To: dayLength + 1, Every: dayLength}, 0, dayLength)
	checkStarts(t, api.Frequency{From: mostTime - 1, To: mostTime, Every: 1}, mostTime-1)
	all := Starts(api.Frequency{From: 0, To: mostTime, Every: 1})
	if len(all) != mostTime {
		t.Fatalf("%d starts", len(all))
	}
	for i, start := range all {
		if start != i {
			t.Fatalf("the start %d is %d", i, start)
		}
	}
	for _, every := range []int{2, 3, 500, 674, 675, 676} {
		f := api.Frequency{From: 3, To: mostTime, Every: every}
		checkStarts(t, f, wantedStarts(f)...)
	}
}

func TestStartsOfAllIntegers(t *testing.T) {
	for _, n := range integers() {
		for _, m := range append(edges(), n-1, n+1, -n) {
			for _, f := range []api.Frequency{{From: n, To: m, Every: dayLength}, {From: m, To: n, Every: 40000}, {From: 0, To: n, Every: m}, {From: n, To: mostTime, Every: m}, {From: 100, To: 200, Every: n}, {From: n, To: m, Every: m}, {From: m, To: n, Every: n}} {
				checkStarts(t, f, wantedStarts(f)...)
			}
		}
	}
}

func TestInstances(t *testing.T) {
	l := []api.Frequency{{Trip: 1, From: 600, To: 900, Every: 100}, {Trip: 0, From: 1, To: 2, Every: 1}, {Trip: 1, From: 100, To: 601, Every: 250}, {Trip: 1, From: 9, To: 8, Every: 1}, {Trip: 3, From: 5, To: 5, Every: 1}}
	for _, trip := range integers() {
		checkInstances(t, nil, trip)
		checkInstances(t, []api.Frequency{}, trip)
		checkInstances(t, l[:0], trip)
		if trip != 0 && trip != 1 {
			checkInstances(t, l, trip)
		}
	}
	checkInstances(t, l, 0, 1)
	checkInstances(t, l, 1, 100, 350, 600, 600, 700, 800)
	checkInstances(t, l[:1], 1, 600, 700, 800)
	checkInstances(t, l[:2], 1, 600, 700, 800)
	checkInstances(t, l[1:], 1, 100, 350, 600)
	checkInstances(t, l[3:], 1)
	checkInstances(t, []api.Frequency{{From: 21600, To: 25200, Every: 1200}}, 0, 21600, 22800, 24000)
	checkInstances(t, []api.Frequency{{From: 21600, To: 25200, Every: 1200}, {From: 21000, To: 25201, Every: 1800}}, 0, 21000, 21600, 22800, 22800, 24000, 24600)
}

// Frequencies of trips at the ends of the integers, which need not exist.
func TestInstancesOfAllTrips(t *testing.T) {
	var l []api.Frequency
	for i, trip := range integers() {
		l = append(l, api.Frequency{Trip: trip, From: i, To: i + 20, Every: 15})
	}
	for i, trip := range integers() {
		checkInstances(t, l, trip, i, i+15)
		checkInstances(t, slices.Concat(l, l), trip, i, i, i+15, i+15)
		checkInstances(t, slices.Delete(slices.Clone(l), i, i+1), trip)
		checkRepeated(t, l, trip, true)
		checkRepeated(t, slices.Delete(slices.Clone(l), i, i+1), trip, false)
	}
}

// Frequencies that are not sound have no starts, also between those that are.
func TestInstancesOfUnsoundFrequencies(t *testing.T) {
	sound := []api.Frequency{{Trip: 5, From: 500, To: 600, Every: 50}, {Trip: 5, From: 100, To: 200, Every: 99}}
	for _, c := range spans() {
		f := api.Frequency{Trip: 5, From: c.from, To: c.to, Every: c.every}
		if c.sound {
			checkTrip(t, []api.Frequency{f}, 5)
			checkTrip(t, []api.Frequency{sound[0], f, sound[1]}, 5)
			continue
		}
		checkInstances(t, []api.Frequency{f}, 5)
		checkInstances(t, []api.Frequency{f, f}, 5)
		checkInstances(t, []api.Frequency{sound[0], f, sound[1]}, 5, 100, 199, 500, 550)
		checkInstances(t, []api.Frequency{f, sound[0], sound[1], f}, 5, 100, 199, 500, 550)
		checkRepeated(t, []api.Frequency{f}, 5, true)
		checkRepeated(t, []api.Frequency{f}, 4, false)
	}
}

// Common starts occur as often as they do in the frequencies.
func TestInstancesInCommon(t *testing.T) {
	f := api.Frequency{Trip: 2, From: 100, To: 300, Every: 100}
	for n := range 300 {
		var want []int
		want = append(want, slices.Repeat([]int{100}, n)...)
		want = append(want, slices.Repeat([]int{200}, n)...)
		checkInstances(t, slices.Repeat([]api.Frequency{f}, n), 2, want...)
		checkInstances(t, append(slices.Repeat([]api.Frequency{f}, n), api.Frequency{Trip: 2, From: 150, To: 151, Every: 3}), 2, slices.Insert(want, n, 150)...)
	}
	checkInstances(t, []api.Frequency{{From: 0, To: 13, Every: 4}, {From: 0, To: 13, Every: 3}, {From: 0, To: 13, Every: 6}}, 0, 0, 0, 0, 3, 4, 6, 6, 8, 9, 12, 12, 12)
}

// The order of the list does not matter.
func TestInstancesOfAllOrders(t *testing.T) {
	all := []api.Frequency{{From: 0, To: 10, Every: 3}, {From: 4, To: 12, Every: 2}, {From: 20, To: 21, Every: 1}, {Trip: 1, From: 5, To: 9, Every: 1}, {From: 7, To: 7, Every: 1}}
	for _, l := range lists(all, 5) {
		for trip := -1; trip <= 2; trip++ {
			checkTrip(t, l, trip)
		}
	}
	next := source(1)
	for seed := range 100 {
		l := scattered(seed, 30, 10)
		want := wantedInstances(l, 0)
		for range 5 {
			checkInstances(t, shuffled(l, next), 0, want...)
		}
	}
}

// There may be more frequencies and starts than Check accepts.
func TestInstancesOfLongLists(t *testing.T) {
	var l []api.Frequency
	for i := range 1000 {
		l = append(l, api.Frequency{Trip: i % 3, From: (1000 - i) * 10, To: (1000-i)*10 + 10, Every: 5})
	}
	for trip := -1; trip <= 3; trip++ {
		checkTrip(t, l, trip)
	}
	day := api.Frequency{From: 0, To: mostTime, Every: 1}
	got := Instances([]api.Frequency{day, day}, 0)
	if len(got) != 2*mostTime {
		t.Fatalf("%d starts", len(got))
	}
	for i, start := range got {
		if start != i/2 {
			t.Fatalf("the start %d is %d", i, start)
		}
	}
}

func TestRepeated(t *testing.T) {
	l := []api.Frequency{{Trip: 1, From: 600, To: 900, Every: 100}, {Trip: 3}, {Trip: 1, From: 100, To: 601, Every: 250}, {Trip: -1, From: 5, To: 9, Every: 1}, {Trip: least}, {Trip: greatest, From: 9, To: 8}}
	for _, trip := range integers() {
		checkRepeated(t, nil, trip, false)
		checkRepeated(t, []api.Frequency{}, trip, false)
		checkRepeated(t, l[:0], trip, false)
		checkRepeated(t, l, trip, trip == 1 || trip == 3 || trip == -1 || trip == least || trip == greatest)
		checkRepeated(t, []api.Frequency{{Trip: trip}}, trip, true)
		checkRepeated(t, []api.Frequency{{Trip: trip ^ 1}}, trip, false)
		checkRepeated(t, []api.Frequency{{Trip: trip ^ 1<<62}}, trip, false)
	}
	for n := range 2 * mostFrequencies {
		long := slices.Repeat([]api.Frequency{{Trip: 7}}, 2*mostFrequencies)
		long[n].Trip = 8
		checkRepeated(t, long, 8, true)
		checkRepeated(t, long, 7, true)
		checkRepeated(t, long, 9, false)
	}
	// The other parts are not those of a trip.
	checkRepeated(t, []api.Frequency{{Trip: 1, From: 2, To: 3, Every: 4}}, 2, false)
	checkRepeated(t, []api.Frequency{{Trip: 1, From: 2, To: 3, Every: 4}}, 3, false)
	checkRepeated(t, []api.Frequency{{Trip: 1, From: 2, To: 3, Every: 4}}, 4, false)
	checkRepeated(t, []api.Frequency{{Trip: 1, From: 2, To: 3, Every: 4}}, 0, false)
}

// P18.3 (Calls)

// calls returns the calls of a trip with those times.
func calls(times ...int) []api.Call {
	return ofTimes(times...).Calls
}

func TestCallsExamples(t *testing.T) {
	checkCalls(t, sample(), 1000, calls(940, 1000, 1240, 1240), api.OK)
	checkCalls(t, sample(), 160, calls(100, 160, 400, 400), api.OK)
	checkCalls(t, sample(), 60, calls(0, 60, 300, 300), api.OK)
	checkCalls(t, sample(), 59, nil, api.ErrTime)
	checkCalls(t, sample(), mostTime-240, calls(mostTime-300, mostTime-240, mostTime, mostTime), api.OK)
	checkCalls(t, sample(), mostTime-239, nil, api.ErrTime)
}

func TestCallsOfNoCalls(t *testing.T) {
	for _, start := range integers() {
		checkCalls(t, api.Trip{}, start, nil, api.ErrTrip)
		checkCalls(t, api.Trip{ID: "A", Calls: []api.Call{}}, start, nil, api.ErrTrip)
		checkCalls(t, api.Trip{ID: "A", Route: 1, Calls: sample().Calls[:0]}, start, nil, api.ErrTrip)
	}
}

// One call, which need not be a valid trip.
func TestCallsOfOneCall(t *testing.T) {
	for _, time := range edges() {
		for _, start := range append(integers(), mostTime-1, mostTime, mostTime+1) {
			e := api.ErrTime
			var want []api.Call
			if within(start, 0, mostTime) {
				e, want = api.OK, calls(start, start)
			}
			checkCalls(t, ofTimes(time, time), start, want, e)
		}
	}
	checkCalls(t, ofTimes(100, 110), 9, nil, api.ErrTime)
	checkCalls(t, ofTimes(100, 110), 10, calls(0, 10), api.OK)
	checkCalls(t, ofTimes(100, 110), mostTime, calls(mostTime-10, mostTime), api.OK)
	checkCalls(t, ofTimes(100, 110), mostTime+1, nil, api.ErrTime)
	checkCalls(t, ofTimes(110, 100), 0, calls(10, 0), api.OK)
	checkCalls(t, ofTimes(110, 100), -1, nil, api.ErrTime)
	checkCalls(t, ofTimes(110, 100), mostTime-10, calls(mostTime, mostTime-10), api.OK)
	checkCalls(t, ofTimes(110, 100), mostTime-9, nil, api.ErrTime)
}

// Each time of each call decides, at exactly the bounds and one second outside.
func TestCallsOfEachTime(t *testing.T) {
	for n := 1; n <= 5; n++ {
		for place := range 2 * n {
			all := slices.Repeat([]int{5000}, 2*n)
			for _, by := range []int{-3000, -60, -1, 1, 60, 3000} {
				all[place] = 5000 + by
				trip := ofTimes(all...)
				// The first and the last start at which this time, or the other ones, stay within the bounds.
				first, last := max(0, -by), min(mostTime, mostTime-by)
				if place == 1 {
					// The first departure itself comes to the start, and all the others differ from it.
					first, last = max(0, by), min(mostTime, mostTime+by)
				}
				for _, start := range []int{first, first + 1, 100000, last - 1, last} {
					want, e := wantedCalls(trip, start)
					if e != api.OK {
						t.Errorf("%d cannot start at %d", all, start)
					}
					checkCalls(t, trip, start, want, api.OK)
				}
				checkCalls(t, trip, first-1, nil, api.ErrTime)
				checkCalls(t, trip, last+1, nil, api.ErrTime)
			}
		}
	}
}

// Stops, flags and the number of calls are those of the trip, and its other parts have no influence.
func TestCallsKeepStopsAndFlags(t *testing.T) {
	for n := 1; n <= 100; n++ {
		trip := long(n, 20)
		for i := range trip.Calls {
			trip.Calls[i].Stop = []int{i, -1, least, greatest, 64, 7}[i%6]
		}
		got, e := Calls(trip, 5000)
		if e != api.OK || len(got) != n {
			t.Errorf("%d calls, %d", len(got), e)
			continue
		}
		for i, c := range got {
			wanted := trip.Calls[i]
			wanted.Arrive += 4980
			wanted.Depart += 4980
			if c != wanted {
				t.Errorf("the call %d is %v; want %v", i, c, wanted)
			}
		}
		trip.ID, trip.Route, trip.Calendar, trip.StepFree = "?", -1, least, true
		checkCalls(t, trip, 5000, got, api.OK)
	}
	many := point()
	many.Calls = slices.Repeat(many.Calls, 10000)
	checkStart(t, many, 0)
	checkStart(t, many, mostTime)
	many.Calls[19999].Arrive--
	checkStart(t, many, 0)
	checkStart(t, many, 1)
}

// Starts at all integers, of trips that can start somewhere.
func TestCallsOfAllStarts(t *testing.T) {
	for _, start := range integers() {
		for _, trip := range append(someTrips(), ofTimes(0, 0, mostTime, mostTime), ofTimes(0, mostTime, mostTime, mostTime), ofTimes(300, 200, 100, 0), long(mostCalls, 300)) {
			checkStart(t, trip, start)
		}
	}
	for _, start := range []int{-1, least, least + 1, mostTime + 1, greatest, greatest - 1, -mostTime, 1 << 32, 1<<32 + 1000, -1 << 32, 1 << 62, -1 << 62} {
		for _, trip := range append(someTrips(), ofTimes(start, start), ofTimes(start, start, start+5, start+5), ofTimes(-start, -start), ofTimes(0, start), ofTimes(start, 0)) {
			checkCalls(t, trip, start, nil, api.ErrTime)
		}
	}
}

// The times are shifted without overflow, wherever the trip is.
func TestCallsOfAllTimes(t *testing.T) {
	for _, n := range integers() {
		for _, m := range append(edges(), n-60, n-1, n, n+1, n+240, n+mostTime, n+mostTime+1, -n, n^least) {
			for _, trip := range []api.Trip{ofTimes(n, m), ofTimes(n, n, m, m), ofTimes(m, n, m, n), ofTimes(n, n, n, m, n, n)} {
				for _, start := range []int{-1, 0, 1, 1000, mostTime - 1, mostTime, mostTime + 1, n, m, least, greatest} {
					checkStart(t, trip, start)
				}
			}
		}
	}
	for _, first := range []int{least, least + 1, least + 60, -1 << 40, 1 << 40, greatest - 240, greatest - 300} {
		checkCalls(t, ofTimes(first, first, first+240, first+240), 1000, calls(1000, 1000, 1240, 1240), api.OK)
		checkCalls(t, ofTimes(first, first, first+240, first+240), mostTime-240, calls(mostTime-240, mostTime-240, mostTime, mostTime), api.OK)
		checkCalls(t, ofTimes(first, first, first+240, first+240), mostTime-239, nil, api.ErrTime)
		checkCalls(t, ofTimes(first+60, first+60, first, first), 60, calls(60, 60, 0, 0), api.OK)
		checkCalls(t, ofTimes(first+60, first+60, first, first), 59, nil, api.ErrTime)
	}
	// Differences that are too great for an int, and that would be small if they wrapped around.
	for _, c := range [][]int{{least, least, greatest, greatest}, {greatest, greatest, least, least}, {greatest, greatest, least, greatest}, {least, least, least, greatest}, {-1, -1, greatest, greatest}, {1, 1, least, least}, {0, 0, least, least}, {-2, -2, greatest, greatest}, {greatest - 99, greatest - 99, least + 100, least + 100}, {least + 99, least + 99, greatest, greatest}} {
		for _, start := range []int{0, 1, 2, 100, 1000, dayLength, mostTime - 1, mostTime} {
			checkCalls(t, ofTimes(c...), start, nil, api.ErrTime)
		}
	}
}

// All short trips at times around the bounds.
func TestCallsOfAllShortTrips(t *testing.T) {
	for _, times := range lists([]int{0, 1, 3, mostTime - 2, mostTime}, 6) {
		trip := ofTimes(times...)
		for _, start := range []int{-1, 0, 1, 2, 3, mostTime - 3, mostTime - 2, mostTime - 1, mostTime, mostTime + 1} {
			checkStart(t, trip, start)
		}
	}
}

// P18.4 (even starts, shifted calls)

// differences returns the difference of each element, but for the first one, from the one before it.
func differences(l []int) []int {
	list := []int{}
	for i := 1; i < len(l); i++ {
		list = append(list, l[i]-l[i-1])
	}
	return list
}

func TestStartedTripsKeepTheirDifferences(t *testing.T) {
	total := 0
	for _, trip := range append(someTrips(), long(mostCalls, 300), long(5, 0), ofTimes(0, 0, mostTime, mostTime), ofTimes(500, 400)) {
		for start := -3; start <= mostTime+3; start += 1 + start%500/3 + 2 {
			got, e := Calls(trip, start)
			if e != api.OK {
				continue
			}
			total++
			if got[0].Depart != start || !slices.Equal(differences(times(api.Trip{Calls: got})), differences(times(trip))) {
				t.Errorf("Calls(%s, %d) = %s", text(trip.Calls), start, text(got))
			}
			// Started again at another time, and back, it is the same.
			moved, e := Calls(api.Trip{Calls: got}, trip.Calls[0].Depart)
			if e != api.OK || !slices.Equal(moved, trip.Calls) {
				t.Errorf("Calls(%s, %d) = %s, %d", text(got), trip.Calls[0].Depart, text(moved), e)
			}
		}
	}
	if total < 10000 {
		t.Errorf("only %d trips were started", total)
	}
}

func TestStartsAreEven(t *testing.T) {
	total := 0
	for _, l := range tables() {
		for _, f := range l {
			starts := Starts(f)
			if len(starts) == 0 {
				if wantedSound(f) {
					t.Errorf("%d has no starts", f)
				}
				continue
			}
			total++
			last := starts[len(starts)-1]
			if starts[0] != f.From || last >= f.To || last+f.Every < f.To {
				t.Errorf("Starts(%d) = %s", f, text(starts))
			}
			for _, n := range differences(starts) {
				if n != f.Every {
					t.Errorf("Starts(%d) = %s", f, text(starts))
				}
			}
		}
	}
	if total < 10000 {
		t.Errorf("only %d frequencies are sound", total)
	}
}

// P18.5 (instances of accepted frequencies)

// checkAccepted checks the instances of frequencies that Check has accepted.
func checkAccepted(t *testing.T, l []api.Frequency, trips []api.Trip) int {
	t.Helper()
	total := 0
	for i, trip := range trips {
		instances := Instances(l, i)
		if len(instances) > mostStarts || len(instances) != len(slices.Compact(slices.Clone(instances))) {
			t.Errorf("Instances(%s, %d) = %s", text(l), i, text(instances))
		}
		if Repeated(l, i) != (len(instances) > 0) {
			t.Errorf("Repeated(%s, %d) does not fit to %s", text(l), i, text(instances))
		}
		for _, start := range instances {
			total++
			if got, e := Calls(trip, start); e != api.OK || len(got) != len(trip.Calls) {
				t.Errorf("Calls(%s, %d) = %s, %d", text(trip.Calls), start, text(got), e)
			}
		}
	}
	return total
}

func TestInstancesOfAcceptedFrequencies(t *testing.T) {
	accepted, refused, total := 0, 0, 0
	for _, l := range tables() {
		for _, trips := range tripLists() {
			if _, e := Check(l, trips); e != api.OK {
				refused++
				continue
			}
			accepted++
			total += checkAccepted(t, l, trips)
		}
	}
	for seed := range 2000 {
		l := scattered(seed, seed%(mostFrequencies+1), 300)
		if _, e := Check(l, someTrips()); e == api.OK {
			accepted++
			total += checkAccepted(t, l, someTrips())
		}
	}
	if accepted < 2000 || refused < 2000 || total < 50000 {
		t.Errorf("only %d lists were accepted and %d refused, with %d instances", accepted, refused, total)
	}
	full := []api.Frequency{{From: 0, To: mostTime, Every: 675}}
	if _, e := Check(full, points(1)); e != api.OK || checkAccepted(t, full, points(1)) != mostStarts {
		t.Errorf("Check returned %d", e)
	}
}

// All functions, compared with the definitions.

func TestAgainstDefinitions(t *testing.T) {
	for _, l := range tables() {
		checkTable(t, l)
	}
	for seed := range 300 {
		for _, rare := range []int{2, 20, 200, 2000} {
			checkTable(t, scattered(seed, seed%70, rare))
		}
	}
}

// Lists of four frequencies that are valid or not.
func TestListsOfFourAgainstDefinitions(t *testing.T) {
	for _, l := range lists(kinds(), 4) {
		checkTrips(t, l, someTrips())
		checkTrips(t, l, points(7))
		for trip := range 4 {
			checkTrip(t, l, trip)
		}
	}
}

// Trips without a pattern, whose times need not ascend, at starts around the first and the last possible one.
func TestTripsAgainstDefinitions(t *testing.T) {
	failed := 0
	for seed := range 10000 {
		next := source(seed)
		low, high := next(mostTime), next(mostTime)
		list := []int{}
		for range 2 + 2*next(6) {
			list = append(list, min(low, high)+next(1+max(low, high)-min(low, high)))
		}
		trip := ofTimes(list...)
		first, last := list[1]-slices.Min(list), mostTime-slices.Max(list)+list[1]
		for _, start := range []int{first - 1, first, first + 1, last - 1, last, last + 1, next(mostTime)} {
			checkStart(t, trip, start)
			checkTrips(t, []api.Frequency{{From: start, To: start + 1, Every: 1}}, []api.Trip{trip})
			if _, e := Calls(trip, start); e != api.OK {
				failed++
			}
		}
		step := 1 + next(5000)
		checkTrips(t, []api.Frequency{{From: first, To: last, Every: step}, {From: last, To: last + 1, Every: 1}}, []api.Trip{trip})
		checkTrips(t, []api.Frequency{{From: first + next(2000), To: last + next(3000), Every: step}}, []api.Trip{trip})
	}
	if failed < 20000 || failed > 60000 {
		t.Errorf("%d starts failed", failed)
	}
}

// Rules: arguments are neither changed nor retained, and results share no memory.

func TestArgumentsAreNotChanged(t *testing.T) {
	for _, original := range [][]api.Frequency{kinds(), table(5), table(mostFrequencies), table(mostFrequencies + 1), {{}}, scattered(1, 50, 2), shuffled(table(20), source(3))} {
		l := append(make([]api.Frequency, 0, 2*len(original)), original...)
		for _, trips := range append(tripLists(), []api.Trip{{}, ofTimes(9, 8, 7, 6)}) {
			before := cloned(trips)
			for i := range trips {
				// Whatever is behind the calls is not changed either.
				trips[i].Calls = append(slices.Clone(trips[i].Calls), api.Call{Stop: -7})[:len(trips[i].Calls)]
			}
			Check(l, trips)
			for i, trip := range trips {
				Instances(l, i)
				Repeated(l, i)
				for _, start := range []int{-1, 0, 1000, 100000, mostTime} {
					Calls(trip, start)
				}
				if trip.Calls[:len(trip.Calls)+1][len(trip.Calls)].Stop != -7 {
					t.Errorf("the calls behind those of %s were changed", text(trip.Calls))
				}
			}
			if !same(trips, before) {
				t.Errorf("%s was changed to %s", text(before), text(trips))
			}
		}
		for _, f := range l {
			Starts(f)
		}
		if !slices.Equal(l, original) || !slices.Equal(l[len(l):cap(l)], make([]api.Frequency, cap(l)-len(l))) {
			t.Errorf("%s was changed to %s", text(original), text(l))
		}
	}
}

// spoil changes all elements of a list, and whatever is behind them, which belongs to the list as well.
func spoil[T any](l []T) {
	clear(l[:cap(l)])
}

func TestStartsShareNoMemory(t *testing.T) {
	f := api.Frequency{Trip: 1, From: 100, To: 130, Every: 10}
	l := []api.Frequency{f, {Trip: 1, From: 90, To: 100, Every: 5}}
	first, second, all, other := Starts(f), Starts(f), Instances(l, 1), Instances(l, 1)
	spoil(first)
	spoil(all)
	if !slices.Equal(second, []int{100, 110, 120}) || !slices.Equal(other, []int{90, 95, 100, 110, 120}) {
		t.Errorf("results share memory: %v, %v", second, other)
	}
	checkStarts(t, f, 100, 110, 120)
	checkInstances(t, l, 1, 90, 95, 100, 110, 120)
	clear(l)
	if !slices.Equal(other, []int{90, 95, 100, 110, 120}) {
		t.Errorf("the result changed with the list to %v", other)
	}
	checkInstances(t, l, 1)
	checkRepeated(t, l, 1, false)
	checkRepeated(t, l, 0, true)
}

func TestCallsShareNoMemory(t *testing.T) {
	for _, start := range []int{160, 1000} {
		trip := sample()
		want, _ := wantedCalls(sample(), start)
		first, _ := Calls(trip, start)
		second, _ := Calls(trip, start)
		spoil(first)
		if !slices.Equal(second, want) || !slices.Equal(trip.Calls, sample().Calls) {
			t.Errorf("results share memory: %v, %v", second, trip.Calls)
		}
		trip.Calls[1].Stop = 9
		clear(trip.Calls[:1])
		if !slices.Equal(second, want) {
			t.Errorf("the result changed with the trip to %v", second)
		}
		checkStart(t, trip, start)
	}
}

// The results of a call depend only on its arguments: no starts are known from an earlier call.
func TestCallsDoNotAffectEachOther(t *testing.T) {
	l := []api.Frequency{{From: 1000, To: 1256, Every: 1}}
	for range 3 {
		checkCheck(t, l, points(1), 0, api.OK)
		checkCheck(t, append(slices.Clone(l), api.Frequency{From: 2000, To: 2001, Every: 1}), points(1), 1, api.ErrFrequency)
		checkCheck(t, []api.Frequency{{From: 1100, To: 1110, Every: 5}}, points(1), 0, api.OK)
		checkCheck(t, nil, points(1), 0, api.OK)
		checkCheck(t, l, nil, 0, api.ErrReference)
		checkInstances(t, l, 1)
		checkInstances(t, []api.Frequency{{Trip: 1, From: 5, To: 7, Every: 1}}, 1, 5, 6)
		checkRepeated(t, l, 0, true)
		checkRepeated(t, nil, 0, false)
		checkCalls(t, sample(), 1000, calls(940, 1000, 1240, 1240), api.OK)
		checkCalls(t, sample(), 0, nil, api.ErrTime)
		checkCalls(t, api.Trip{}, 1000, nil, api.ErrTrip)
	}
	for _, l := range slices.Backward(tables()[:300]) {
		checkTable(t, l)
	}
}

// P1: every function terminates and does not panic.

// frequenciesOf makes a list of frequencies of four bytes for each.
func frequenciesOf(data []byte, n int) []api.Frequency {
	var l []api.Frequency
	for ; len(data) >= 4; data = data[4:] {
		f := api.Frequency{Trip: int(data[0] & 3), From: int(data[1]) * 7, Every: int(data[3])}
		f.To = f.From + int(data[2])
		switch data[0] >> 2 {
		case 1:
			f.Trip = n
		case 2:
			f.From = n
		case 3:
			f.To = n
		case 4:
			f.Every = n
		case 5:
			f.From, f.To = mostTime-f.To, mostTime-f.From
		case 6:
			f.Trip, f.From = -f.Trip, -f.From
		}
		l = append(l, f)
	}
	return l
}

// tripOf makes a trip of a byte for each of its times.
func tripOf(data []byte, n int) api.Trip {
	list := []int{}
	time := 0
	for _, b := range data {
		time += int(b & 63)
		switch b >> 6 {
		case 1:
			list = append(list, time-int(b&7)*50)
		case 2:
			list = append(list, time+n)
		default:
			list = append(list, time)
		}
	}
	return ofTimes(list...)
}

func FuzzFrequency(f *testing.F) {
	for i, data := range []string{"", "\x00\x10\x20\x05", "\x01\x00\x10\x01\x01\x02\x10\x01\x00\x01\xff\x01\x00\x41\x02\x01", "\x04abc\x08abc\x0cabc\x10abc\x14abc\x18abc", "0123456789:;<=>?", "\x02\x10\x30\x00\x02\x10\x30\x07\x02\x20\x30\x07"} {
		for j, times := range []string{"", "\x05\x05", "\x05\x05\x10\x10", "\x41\x05\x05\x3f", "\x05\x85\x05\xa5", "\x05\x05\x81\x10"} {
			f.Add([]byte(data), []byte(times), i*j, i*1000)
			f.Add([]byte(data), []byte(times), mostTime+i-3, mostTime-j)
			f.Add([]byte(data), []byte(times), greatest-i, least+j)
			f.Add([]byte(data), []byte(times), least+i, greatest)
		}
	}
	f.Fuzz(func(t *testing.T, data, times []byte, n, start int) {
		// Longer lists and trips show nothing that these do not.
		l := frequenciesOf(data[:min(len(data), 100)], n)
		trip := tripOf(times[:min(len(times), 100)], n)
		checkStart(t, trip, start)
		checkStart(t, trip, n)
		checkTrips(t, l, []api.Trip{trip})
		checkTrips(t, l, []api.Trip{point(), trip, sample(), trip})
		checkTrips(t, l, someTrips())
		for i, f := range l {
			checkStarts(t, f, wantedStarts(f)...)
			checkTrip(t, l[i:], f.Trip)
			checkStart(t, trip, f.From)
			checkStart(t, trip, f.To-1)
		}
		for _, trip := range []int{0, 1, -1, n, start} {
			checkTrip(t, l, trip)
		}
	})
}
