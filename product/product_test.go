package product

import (
	"fmt"
	"math"
	"math/big"
	"regexp"
	"slices"
	"strings"
	"testing"

	"transit/api"
)

// The limits as the document states them.
const (
	mostProducts = 16
	mostPrice    = 1000000
	mostRides    = 8
	mostZones    = 16
	mostModes    = 255
	dayLength    = 86400
)

const (
	least    = math.MinInt
	greatest = math.MaxInt
)

// The chapter's definitions.

// nameForm is the form of an identifier.
var nameForm = regexp.MustCompile(`\A[A-Za-z0-9_.-]{1,32}\z`)

// isOutside reports whether n is not from low to high.
func isOutside(n, low, high int) bool {
	return n < low || n > high
}

// wantedError returns the error of the product i.
func wantedError(l []api.Product, i int) api.Errno {
	p := l[i]
	if !nameForm.MatchString(p.ID) {
		return api.ErrName
	}
	for _, earlier := range l[:i] {
		if earlier.ID == p.ID {
			return api.ErrDuplicate
		}
	}
	if isOutside(p.Price, 0, mostPrice) || isOutside(p.Rides, 1, mostRides) || isOutside(p.Zones, 1, mostZones) || isOutside(p.Seconds, 0, dayLength) || isOutside(p.Modes, 1, mostModes) {
		return api.ErrRange
	}
	return api.OK
}

// wantedCheck returns what Check must return.
func wantedCheck(f api.Fares) (int, api.Errno) {
	if isOutside(f.Discount, 0, mostPrice) || isOutside(f.Within, 0, dayLength) || isOutside(f.Cap, 0, mostPrice) {
		return -1, api.ErrRange
	}
	if len(f.Products) > mostProducts {
		return 0, api.ErrLimit
	}
	for i := range f.Products {
		if e := wantedError(f.Products, i); e != api.OK {
			return i, e
		}
	}
	return 0, api.OK
}

// isSound reports whether Check must find no error.
func isSound(f api.Fares) bool {
	_, e := wantedCheck(f)
	return e == api.OK
}

// elements returns the elements of the union of the bit sets: the places from 0 to 63 at which the 64-bit word of one of them has a 1.
func elements(sets []int) []int {
	var l []int
	for i := range 64 {
		if slices.ContainsFunc(sets, func(n int) bool { return uint64(n)>>i&1 == 1 }) {
			l = append(l, i)
		}
	}
	return l
}

// zonesOf returns the zones of the rides.
func zonesOf(rides []api.Ride) []int {
	var sets []int
	for _, r := range rides {
		sets = append(sets, r.Zones)
	}
	return elements(sets)
}

// modesOf returns the modes of the rides.
func modesOf(rides []api.Ride) []int {
	var sets []int
	for _, r := range rides {
		sets = append(sets, r.Modes)
	}
	return elements(sets)
}

// isBetween reports whether the second time minus the first one is at most seconds.
func isBetween(first, second, seconds int) bool {
	difference := new(big.Int).Sub(big.NewInt(int64(second)), big.NewInt(int64(first)))
	return difference.Cmp(big.NewInt(int64(seconds))) <= 0
}

// wantedCovers returns what Covers must return.
func wantedCovers(p api.Product, rides []api.Ride) bool {
	if len(rides) == 0 {
		return false
	}
	allowed := elements([]int{p.Modes})
	for _, mode := range modesOf(rides) {
		if !slices.Contains(allowed, mode) {
			return false
		}
	}
	return len(rides) <= p.Rides && len(zonesOf(rides)) <= p.Zones && isBetween(rides[0].Depart, rides[len(rides)-1].Depart, p.Seconds)
}

// wantedOptions returns what Options must return.
func wantedOptions(f api.Fares, rides []api.Ride) []int {
	var l []int
	for i := 0; i < len(f.Products); i++ {
		if wantedCovers(f.Products[i], rides) {
			l = append(l, i)
		}
	}
	return l
}

// wantedPrice returns what Price must return.
func wantedPrice(f api.Fares, product int, first bool, wait int) (int, bool) {
	if !isSound(f) || product < 0 || product > len(f.Products)-1 {
		return 0, false
	}
	price := f.Products[product].Price
	if !first && wait <= f.Within {
		price -= f.Discount
		if price < 0 {
			price = 0
		}
	}
	return price, true
}

// wantedCheapest returns what Cheapest must return.
func wantedCheapest(f api.Fares, rides []api.Ride) (int, int, bool) {
	options := wantedOptions(f, rides)
	if !isSound(f) || len(options) == 0 {
		return 0, 0, false
	}
	var prices []int
	for _, i := range options {
		prices = append(prices, f.Products[i].Price)
	}
	smallest := slices.Min(prices)
	return options[slices.Index(prices, smallest)], smallest, true
}

// Inputs.

// given returns the fares of the chapter's examples.
func given() api.Fares {
	return api.Fares{Products: []api.Product{
		{ID: "double", Price: 120, Rides: 2, Zones: 2, Seconds: 600, Modes: 255},
		{ID: "short", Price: 30, Rides: 1, Zones: 2, Seconds: 600, Modes: 255},
	}, Discount: 50, Within: 300}
}

// trip returns rides that depart at those times, in the zone 0 and with the mode 0.
func trip(departs ...int) []api.Ride {
	var l []api.Ride
	for _, depart := range departs {
		l = append(l, api.Ride{Depart: depart, Arrive: depart, Zones: 1, Modes: 1})
	}
	return l
}

// inZones returns rides in those zones that all depart at the same time.
func inZones(zones ...int) []api.Ride {
	var l []api.Ride
	for _, z := range zones {
		l = append(l, api.Ride{Depart: 500, Arrive: 600, Zones: z, Modes: 1})
	}
	return l
}

// withModes returns rides with those modes that all depart at the same time.
func withModes(modes ...int) []api.Ride {
	var l []api.Ride
	for _, m := range modes {
		l = append(l, api.Ride{Depart: 500, Arrive: 600, Zones: 1, Modes: m})
	}
	return l
}

// wide returns a product that covers whatever a valid product can cover.
func wide(id string, price int) api.Product {
	return api.Product{ID: id, Price: price, Rides: mostRides, Zones: mostZones, Seconds: dayLength, Modes: mostModes}
}

// endless returns a product that covers as much as any product can.
func endless() api.Product {
	return api.Product{Rides: greatest, Zones: greatest, Seconds: greatest, Modes: -1}
}

// name returns an identifier for each of the numbers from 0.
func name(i int) string {
	return string(rune('a'+i%26)) + strings.Repeat("-", i/26%31)
}

// valid returns valid fares with n products, which are different.
func valid(n int) api.Fares {
	f := api.Fares{Discount: 40, Within: 300, Cap: 900}
	for i := range n {
		f.Products = append(f.Products, api.Product{ID: name(i), Price: 10 + i*37%101, Rides: 1 + i%mostRides, Zones: 1 + i*5%mostZones, Seconds: i * 613 % dayLength, Modes: 1 + i*29%mostModes})
	}
	return f
}

// offers returns fares with products that have those prices and cover whatever a valid product can cover.
func offers(prices ...int) api.Fares {
	f := api.Fares{Discount: 40, Within: 300}
	for i, price := range prices {
		f.Products = append(f.Products, wide(name(i), price))
	}
	return f
}

// integers returns different integers at the limits of this chapter and at those of the integer types.
func integers() []int {
	list := []int{least, least + 1, greatest, greatest - 1}
	for _, n := range []int{0, 50, 300, 600, mostProducts, mostRides, mostZones, mostModes, dayLength, mostPrice} {
		list = append(list, n-1, n, n+1, -n-1, -n, -n+1)
	}
	for shift := range 63 {
		n := 1 << shift
		list = append(list, n-1, n, n+1, -n-1, -n, -n+1)
	}
	slices.Sort(list)
	return slices.Compact(list)
}

// edgesOfInts returns the integers at the ends of the ints and around 0, and a few between them.
func edgesOfInts() []int {
	return []int{least, least + 1, -1 << 62, -1<<62 + 1, -1 << 32, -100, -2, -1, 0, 1, 2, 3, 63, 64, 100, 1 << 32, 1<<62 - 1, 1 << 62, greatest - 1, greatest}
}

// lists returns all lists of up to length of the elements.
func lists[T any](elements []T, length int) [][]T {
	all := [][]T{nil}
	for from := 0; length > 0; length-- {
		to := len(all)
		for _, l := range all[from:to] {
			for _, x := range elements {
				all = append(all, append(slices.Clone(l), x))
			}
		}
		from = to
	}
	return all
}

// source returns a function that returns integers from 0, up to the one before below, without a pattern.
func source(seed int) func(below int) int {
	state := uint64(seed)
	return func(below int) int {
		state = state*6364136223846793005 + 1442695040888963407
		return int(state>>33) % below
	}
}

// with returns the list with another element at the index i.
func with[T any](l []T, i int, x T) []T {
	l = slices.Clone(l)
	l[i] = x
	return l
}

// never is a rarity with which nothing is wrong.
const never = 1 << 30

// scattered returns fares with up to 16 products without a pattern; they are valid but for one part in rare.
func scattered(next func(below int) int, rare int) api.Fares {
	f := api.Fares{Discount: next(100), Within: next(600), Cap: next(2000)}
	if next(rare) == 0 {
		f.Discount = -1 - next(3)
	}
	for i := range next(mostProducts + 1) {
		p := api.Product{ID: name(i), Price: next(8) * 30, Rides: 1 + next(4), Zones: 1 + next(6), Seconds: next(4) * 300, Modes: 255 &^ (1 << next(12))}
		switch next(rare * 4) {
		case 0:
			p.ID = name(next(i + 1))
		case 1:
			p.ID += "/"
		case 2:
			p.Price = -next(5)
		case 3:
			p.Rides = next(2) * 9
		case 4:
			p.Zones = next(2) * 17
		case 5:
			p.Seconds = -next(5) * 100
		case 6:
			p.Modes = next(2) * 256
		}
		f.Products = append(f.Products, p)
	}
	return f
}

// scatteredRides returns up to n rides without a pattern. With ordered they depart in the order of time.
func scatteredRides(next func(below int) int, n int, ordered bool) []api.Ride {
	var l []api.Ride
	for range next(n + 1) {
		r := api.Ride{Depart: next(9) * 100, Zones: 1<<next(6) | 1<<next(4), Modes: 1 << next(9)}
		if next(3) > 0 {
			r.Modes = 1
		}
		r.Arrive = r.Depart + next(600)
		l = append(l, r)
	}
	if ordered {
		slices.SortFunc(l, func(a, b api.Ride) int { return a.Depart - b.Depart })
	}
	return l
}

// text returns a value, or its beginning, for a report.
func text(x any) string {
	return fmt.Sprintf("%.700s", fmt.Sprintf("%+v", x))
}

// Checks.

func checkCheck(t *testing.T, f api.Fares, index int, e api.Errno) {
	t.Helper()
	if i, got := Check(f); i != index || got != e {
		t.Errorf("Check(%s) = %d, %d; want %d, %d", text(f), i, got, index, e)
	}
}

func checkCovers(t *testing.T, p api.Product, rides []api.Ride, want bool) {
	t.Helper()
	if got := Covers(p, rides); got != want {
		t.Errorf("Covers(%s, %s) = %v; want %v", text(p), text(rides), got, want)
	}
}

func checkOptions(t *testing.T, f api.Fares, rides []api.Ride, want ...int) {
	t.Helper()
	if got := Options(f, rides); !slices.Equal(got, want) {
		t.Errorf("Options(%s, %s) = %v; want %v", text(f), text(rides), got, want)
	}
}

func checkPrice(t *testing.T, f api.Fares, product int, first bool, wait int, price int, ok bool) {
	t.Helper()
	if n, got := Price(f, product, first, wait); n != price || got != ok {
		t.Errorf("Price(%s, %d, %v, %d) = %d, %v; want %d, %v", text(f), product, first, wait, n, got, price, ok)
	}
}

func checkCheapest(t *testing.T, f api.Fares, rides []api.Ride, product, price int, ok bool) {
	t.Helper()
	if i, n, got := Cheapest(f, rides); i != product || n != price || got != ok {
		t.Errorf("Cheapest(%s, %s) = %d, %d, %v; want %d, %d, %v", text(f), text(rides), i, n, got, product, price, ok)
	}
}

// checkError checks that Check returns an error, and Price and Cheapest nothing.
func checkError(t *testing.T, f api.Fares, index int, e api.Errno) {
	t.Helper()
	checkCheck(t, f, index, e)
	for _, i := range []int{-1, 0, 1, len(f.Products) - 1, len(f.Products)} {
		checkPrice(t, f, i, true, 0, 0, false)
		checkPrice(t, f, i, false, 0, 0, false)
		checkPrice(t, f, i, false, greatest, 0, false)
	}
	checkCheapest(t, f, trip(5), 0, 0, false)
	checkCheapest(t, f, nil, 0, 0, false)
}

// checkRides compares Covers, Options and Cheapest with the definitions.
func checkRides(t *testing.T, f api.Fares, rides []api.Ride) {
	t.Helper()
	for _, p := range f.Products {
		checkCovers(t, p, rides, wantedCovers(p, rides))
	}
	checkOptions(t, f, rides, wantedOptions(f, rides)...)
	product, price, ok := wantedCheapest(f, rides)
	checkCheapest(t, f, rides, product, price, ok)
}

// checkWait compares Price with the definition, for a first ticket and for another one.
func checkWait(t *testing.T, f api.Fares, product, wait int) {
	t.Helper()
	for _, first := range []bool{false, true} {
		price, ok := wantedPrice(f, product, first, wait)
		checkPrice(t, f, product, first, wait, price, ok)
	}
}

// P21.1 (Check)

func TestCheckExamples(t *testing.T) {
	checkCheck(t, given(), 0, api.OK)
	checkCheck(t, api.Fares{}, 0, api.OK)
	checkCheck(t, valid(mostProducts), 0, api.OK)
}

// part is a number of the fares themselves, with its greatest value.
type part struct {
	most int
	at   func(f *api.Fares) *int
}

// parts returns the numbers of the fares themselves.
func parts() []part {
	return []part{
		{mostPrice, func(f *api.Fares) *int { return &f.Discount }},
		{dayLength, func(f *api.Fares) *int { return &f.Within }},
		{mostPrice, func(f *api.Fares) *int { return &f.Cap }},
	}
}

// The numbers of the fares themselves, with products that are valid and with others.
func TestCheckOfTheFares(t *testing.T) {
	twice := given()
	twice.Products[1] = twice.Products[0]
	for _, part := range parts() {
		for _, f := range []api.Fares{{}, given(), valid(mostProducts), twice, {Products: make([]api.Product, 3)}, valid(mostProducts + 1), {Products: make([]api.Product, 40)}} {
			for _, n := range integers() {
				*part.at(&f) = n
				if isOutside(n, 0, part.most) {
					checkError(t, f, -1, api.ErrRange)
				} else {
					index, e := wantedCheck(f)
					checkCheck(t, f, index, e)
				}
			}
		}
	}
}

// All combinations of the numbers of the fares themselves at their limits: each has limits of its own, and none of them depends on another one.
func TestCheckOfTheFaresTogether(t *testing.T) {
	numbers := []int{least, -1, 0, 1, dayLength - 1, dayLength, dayLength + 1, mostPrice - 1, mostPrice, mostPrice + 1, greatest}
	for _, discount := range numbers {
		for _, within := range numbers {
			for _, most := range numbers {
				f := given()
				f.Discount, f.Within, f.Cap = discount, within, most
				if isOutside(discount, 0, mostPrice) || isOutside(within, 0, dayLength) || isOutside(most, 0, mostPrice) {
					checkError(t, f, -1, api.ErrRange)
				} else {
					checkCheck(t, f, 0, api.OK)
				}
			}
		}
	}
}

// No product, one, MaxProducts and one more.
func TestCheckLimit(t *testing.T) {
	for _, f := range []api.Fares{{}, {Products: []api.Product{}}, {Products: given().Products[:0]}} {
		checkCheck(t, f, 0, api.OK)
	}
	for n := range mostProducts + 1 {
		checkCheck(t, valid(n), 0, api.OK)
	}
	for _, n := range []int{mostProducts + 1, mostProducts + 2, 2 * mostProducts, 64, 255, 256, 257, 256 + mostProducts, 65536 + 1} {
		checkError(t, valid(n), 0, api.ErrLimit)
		checkError(t, api.Fares{Products: make([]api.Product, n)}, 0, api.ErrLimit)
		checkError(t, api.Fares{Products: slices.Repeat(given().Products[:1], n)}, 0, api.ErrLimit)
	}
	f := valid(mostProducts + 1)
	f.Products = f.Products[1:]
	checkCheck(t, f, 0, api.OK)
}

// checkID checks what Check returns for a full table in which one product has that ID.
func checkID(t *testing.T, id string, e api.Errno) {
	t.Helper()
	for _, i := range []int{0, 1, 9, mostProducts - 1} {
		f := valid(mostProducts)
		f.Products[i].ID = id
		if e == api.OK {
			checkCheck(t, f, 0, api.OK)
			continue
		}
		checkError(t, f, i, e)
		f.Products = f.Products[:i+1]
		checkError(t, f, i, e)
	}
}

func TestCheckName(t *testing.T) {
	for length := range 70 {
		e := api.ErrName
		if length >= 1 && length <= 32 {
			e = api.OK
		}
		checkID(t, strings.Repeat("Z", length), e)
	}
	for c := range 256 {
		e := api.ErrName
		if strings.Contains("ABCDEFGHIJKLMNOPQRSTUVWXYZabcdefghijklmnopqrstuvwxyz0123456789-_.", string([]byte{byte(c)})) {
			e = api.OK
		}
		long := strings.Repeat("Z", 31)
		for _, id := range []string{"%X", "X%", "X%X", "%" + long, long + "%"} {
			checkID(t, strings.Replace(id, "%", string([]byte{byte(c)}), 1), e)
		}
		checkCheck(t, api.Fares{Products: []api.Product{wide(string([]byte{byte(c)}), 5)}}, 0, e)
	}
	for _, id := range []string{"", " ", "a b", "a/b", "ä", "a\x00", "a\n", "\xff", "A,B", strings.Repeat("a", 1000)} {
		checkID(t, id, api.ErrName)
	}
}

// Each pair of places of a full table: an earlier product with the same ID is an error of the later one.
func TestCheckDuplicate(t *testing.T) {
	for j := range mostProducts {
		for i := range j {
			f := valid(mostProducts)
			f.Products[j].ID = f.Products[i].ID
			checkError(t, f, j, api.ErrDuplicate)
			f.Products = f.Products[:j+1]
			checkError(t, f, j, api.ErrDuplicate)
			f.Products[j] = f.Products[i]
			checkError(t, f, j, api.ErrDuplicate)
			f.Products = f.Products[:j]
			checkCheck(t, f, 0, api.OK)
		}
	}
	// Several have the same ID.
	for first := range mostProducts - 1 {
		f := valid(mostProducts)
		for i := first; i < mostProducts; i++ {
			f.Products[i].ID = "x"
		}
		checkError(t, f, first+1, api.ErrDuplicate)
	}
	for _, c := range []struct {
		ids   string
		index int
	}{{"a b a b", 2}, {"a b b a", 2}, {"a a b b", 1}, {"b a c a b", 3}, {"a b c d e c", 5}, {"x.1 x.2 x.1", 2}} {
		checkError(t, named(c.ids), c.index, api.ErrDuplicate)
	}
}

// named returns fares whose products have those IDs and are equal but for them.
func named(ids string) api.Fares {
	var f api.Fares
	for _, id := range strings.Fields(ids) {
		f.Products = append(f.Products, wide(id, 5))
	}
	return f
}

// IDs are compared byte by byte, as a whole.
func TestCheckOfSimilarIDs(t *testing.T) {
	for _, ids := range []string{"a A b B", "a aa aaa", "aa a", "a. .a a a- -a a_ _a", "1 01 001 1.0 10", "x-1 x_1 x.1 x1", "ab ba", strings.Repeat("a", 32) + " " + strings.Repeat("a", 31) + "b", strings.Repeat("a", 32) + " b" + strings.Repeat("a", 31), strings.Repeat("a", 32) + " " + strings.Repeat("a", 31)} {
		checkCheck(t, named(ids), 0, api.OK)
	}
	// The same bytes in other memory.
	f := named("x y")
	f.Products[1].ID = string([]byte{'x'})
	checkError(t, f, 1, api.ErrDuplicate)
}

// field is a number of a product, with its limits.
type field struct {
	least, most int
	at          func(p *api.Product) *int
}

// fields returns the numbers of a product.
func fields() []field {
	return []field{
		{0, mostPrice, func(p *api.Product) *int { return &p.Price }},
		{1, mostRides, func(p *api.Product) *int { return &p.Rides }},
		{1, mostZones, func(p *api.Product) *int { return &p.Zones }},
		{0, dayLength, func(p *api.Product) *int { return &p.Seconds }},
		{1, mostModes, func(p *api.Product) *int { return &p.Modes }},
	}
}

func TestCheckRange(t *testing.T) {
	for _, field := range fields() {
		for _, n := range integers() {
			for i := range mostProducts {
				f := valid(mostProducts)
				*field.at(&f.Products[i]) = n
				if isOutside(n, field.least, field.most) {
					checkError(t, f, i, api.ErrRange)
				} else {
					checkCheck(t, f, 0, api.OK)
				}
			}
		}
		// All numbers that are allowed are, and their neighbors are not.
		for n := field.least - 1; n <= field.most+1; n += 1 + (field.most-1)/300 {
			f := given()
			*field.at(&f.Products[1]) = n
			index, e := wantedCheck(f)
			checkCheck(t, f, index, e)
		}
	}
}

// Two numbers of a product at their limits: none of them depends on another one.
func TestCheckRangeOfTwo(t *testing.T) {
	numbers := []int{least, -1, 0, 1, 2, mostRides, mostRides + 1, mostZones, mostZones + 1, mostModes, mostModes + 1, dayLength, dayLength + 1, mostPrice, mostPrice + 1, greatest}
	for _, one := range fields() {
		for _, other := range fields() {
			for _, n := range numbers {
				for _, m := range numbers {
					f := given()
					*one.at(&f.Products[1]) = n
					*other.at(&f.Products[1]) = m
					index, e := wantedCheck(f)
					checkCheck(t, f, index, e)
				}
			}
		}
	}
}

// wrong changes the product at an index so that it is not valid; of two that apply, the one with the lower rank comes first.
type wrong struct {
	e      api.Errno
	rank   int
	change func(l []api.Product, i int)
}

// wrongs returns changes for each error of a product; those with a lower rank are applied last.
func wrongs() []wrong {
	list := []wrong{
		{api.ErrName, 0, func(l []api.Product, i int) { l[i].ID = "" }},
		{api.ErrName, 0, func(l []api.Product, i int) { l[i].ID += "/" }},
		{api.ErrName, 0, func(l []api.Product, i int) { l[i].ID = strings.Repeat("a", 33) }},
		{api.ErrDuplicate, 1, func(l []api.Product, i int) { l[i].ID = l[0].ID }},
	}
	for _, field := range fields() {
		for _, n := range []int{field.least - 1, field.most + 1, least, greatest} {
			list = append(list, wrong{api.ErrRange, 2, func(l []api.Product, i int) { *field.at(&l[i]) = n }})
		}
	}
	return list
}

// needsEarlier reports whether the change is about an earlier product.
func (w wrong) needsEarlier() bool {
	return w.e == api.ErrDuplicate
}

// checkScene checks what is returned for a full table with those changes, for its beginning up to the last one, and with errors that come before all of them.
func checkScene(t *testing.T, index int, e api.Errno, last int, change func(l []api.Product)) {
	t.Helper()
	f := valid(mostProducts)
	change(f.Products)
	all := f.Products
	checkError(t, f, index, e)
	f.Products = all[:last+1]
	checkError(t, f, index, e)
	f.Products = all[:index]
	checkCheck(t, f, 0, api.OK)
	f.Products = slices.Concat(all, all)[:mostProducts+1]
	checkError(t, f, 0, api.ErrLimit)
	f.Within = -1
	checkError(t, f, -1, api.ErrRange)
	f.Products = all
	checkError(t, f, -1, api.ErrRange)
}

// Each change is an error on its own.
func TestCheckEachError(t *testing.T) {
	for _, w := range wrongs() {
		for i := range mostProducts {
			if i > 0 || !w.needsEarlier() {
				checkScene(t, i, w.e, i, func(l []api.Product) { w.change(l, i) })
			}
		}
	}
}

// Of several errors of one product, the one that the promise names first is returned.
func TestCheckErrorsOfOneProduct(t *testing.T) {
	for _, first := range wrongs() {
		for _, second := range wrongs() {
			if first.rank > second.rank {
				continue
			}
			for _, i := range []int{1, 7, mostProducts - 1} {
				checkScene(t, i, first.e, i, func(l []api.Product) {
					second.change(l, i)
					first.change(l, i)
				})
			}
			for _, third := range wrongs() {
				if second.rank < third.rank {
					checkScene(t, 4, first.e, 4, func(l []api.Product) {
						third.change(l, 4)
						second.change(l, 4)
						first.change(l, 4)
					})
				}
			}
		}
	}
	// The same wrong ID twice is an error of the first of the two.
	checkError(t, api.Fares{Products: []api.Product{wide("", 5), wide("", 5)}}, 0, api.ErrName)
	checkError(t, api.Fares{Products: []api.Product{wide("x", 5), wide("", 5), wide("", 5)}}, 1, api.ErrName)
	// So is the same ID twice, if the first of the two has an error.
	checkError(t, api.Fares{Products: []api.Product{wide("x", -1), wide("x", 5)}}, 0, api.ErrRange)
}

// Of the errors of two products, the one of the earlier product is returned, whatever the errors are.
func TestCheckErrorsOfTwoProducts(t *testing.T) {
	for _, j := range []int{1, 2, 3, 8, mostProducts - 1} {
		for _, i := range []int{0, 1, 2, 7, mostProducts - 2} {
			if i >= j {
				continue
			}
			for _, first := range wrongs() {
				if first.needsEarlier() && i == 0 {
					continue
				}
				for _, second := range wrongs() {
					checkScene(t, i, first.e, j, func(l []api.Product) {
						second.change(l, j)
						first.change(l, i)
					})
				}
			}
		}
	}
}

// kinds returns products some of which are not valid, and with equal IDs.
func kinds() []api.Product {
	return []api.Product{
		{ID: "a", Price: 20, Rides: 2, Zones: 2, Seconds: 300, Modes: 3},
		{ID: "b", Price: 20, Rides: 1, Zones: 3, Seconds: 0, Modes: 1},
		{ID: "c", Price: 10, Rides: 3, Zones: 1, Seconds: 500, Modes: 255},
		{ID: "a", Price: 10, Rides: 3, Zones: 4, Seconds: 100, Modes: 7},
		{ID: "b", Price: 5, Rides: 0, Zones: 3, Seconds: 300, Modes: 3},
		{ID: "?", Price: 0, Rides: 3, Zones: 3, Seconds: 300, Modes: 3},
		{ID: "d", Price: 0, Rides: 3, Zones: 0, Seconds: -100, Modes: 256},
		{},
	}
}

// All lists of up to four products that are valid or not.
func TestAllShortLists(t *testing.T) {
	count := map[api.Errno]int{}
	for _, l := range lists(kinds(), 4) {
		f := api.Fares{Products: l, Discount: 12, Within: 300}
		index, e := wantedCheck(f)
		count[e]++
		checkCheck(t, f, index, e)
		for _, rides := range [][]api.Ride{nil, trip(5), trip(100, 400), trip(100, 500, 200), inZones(1, 2), withModes(1, 2)} {
			product, price, ok := wantedCheapest(f, rides)
			checkCheapest(t, f, rides, product, price, ok)
		}
		checkOptions(t, f, trip(100, 400), wantedOptions(f, trip(100, 400))...)
		for i := -1; i <= len(l); i++ {
			checkWait(t, f, i, 300)
		}
	}
	for _, e := range []api.Errno{api.OK, api.ErrName, api.ErrDuplicate, api.ErrRange} {
		if count[e] < 20 {
			t.Errorf("Check returned %d only %d times", e, count[e])
		}
	}
}

// P21.2 (Covers, Options)

func TestCoversExamples(t *testing.T) {
	p := given().Products[0]
	a, b := api.Ride{Depart: 1000, Arrive: 1100, Zones: 1, Modes: 1}, api.Ride{Depart: 1600, Arrive: 1700, Zones: 3, Modes: 128}
	checkCovers(t, p, []api.Ride{a, b}, true)
	late := b
	late.Depart++
	checkCovers(t, p, []api.Ride{a, late}, false)
	checkCovers(t, p, []api.Ride{a, b, b}, false)
	checkCovers(t, p, []api.Ride{a}, true)
	checkCovers(t, p, nil, false)
}

// No ride, one, Rides of the product and one more.
func TestCoversNumberOfRides(t *testing.T) {
	p := endless()
	for _, n := range integers() {
		p.Rides = n
		checkCovers(t, p, nil, false)
		checkCovers(t, p, []api.Ride{}, false)
		checkCovers(t, p, trip(5)[:0], false)
		for count := 1; count <= 20; count++ {
			checkCovers(t, p, make([]api.Ride, count), count <= n)
		}
		for _, count := range []int{n - 1, n, n + 1} {
			if count > 0 && count < 10000 {
				checkCovers(t, p, make([]api.Ride, count), count <= n)
			}
		}
	}
	for _, p := range []api.Product{{}, {Modes: mostModes}, {Rides: -1, Zones: -1, Seconds: -1}, endless(), wide("x", 5)} {
		checkCovers(t, p, nil, false)
	}
}

// Neither the ID and the Price of the product nor Arrive of the rides count.
func TestCoversOtherFields(t *testing.T) {
	a, b := api.Ride{Depart: 1000, Arrive: 1100, Zones: 1, Modes: 1}, api.Ride{Depart: 1600, Arrive: 1700, Zones: 2, Modes: 2}
	for _, n := range integers() {
		for _, id := range []string{"", "a", "a/b"} {
			p := api.Product{ID: id, Price: n, Rides: 2, Zones: 2, Seconds: 600, Modes: 3}
			checkCovers(t, p, []api.Ride{a, b}, true)
			checkCovers(t, p, []api.Ride{a, b, b}, false)
			for _, m := range []int{n, 0, 1100, 1700, least, greatest} {
				early, late := a, b
				early.Arrive, late.Arrive = n, m
				checkCovers(t, p, []api.Ride{early, late}, true)
				p.Seconds = 599
				checkCovers(t, p, []api.Ride{early, late}, false)
				p.Seconds = 600
			}
		}
	}
}

// checkZones checks that exactly the products with at least count zones cover the rides.
func checkZones(t *testing.T, rides []api.Ride, count int) {
	t.Helper()
	if len(zonesOf(rides)) != count {
		t.Errorf("%s have %d zones; want %d", text(rides), len(zonesOf(rides)), count)
	}
	p := endless()
	for _, n := range []int{least, -1, 0, 1, 2, count - 1, count, count + 1, 62, 63, 64, 65, greatest} {
		p.Zones = n
		checkCovers(t, p, rides, n >= count)
	}
}

// As many different zones as Zones, one more and one less, in one ride and in several.
func TestCoversZones(t *testing.T) {
	for i := range 64 {
		checkZones(t, inZones(1<<i), 1)
		checkZones(t, inZones(1<<i, 1<<i, 1<<i), 1)
		checkZones(t, inZones(0, 1<<i), 1)
		checkZones(t, inZones(1<<i, 0), 1)
		checkZones(t, inZones(^(1 << i)), 63)
		checkZones(t, inZones(^(1<<i), 1<<i), 64)
		for j := range i {
			checkZones(t, inZones(1<<i|1<<j), 2)
			checkZones(t, inZones(1<<i, 1<<j), 2)
			checkZones(t, inZones(1<<j, 1<<i|1<<j, 1<<i), 2)
		}
	}
	var rides []api.Ride
	for n := 1; n <= 64; n++ {
		rides = append(rides, inZones(1<<(n*11%64))...)
		checkZones(t, rides, n)
		checkZones(t, slices.Concat(rides, rides), n)
		checkZones(t, inZones(-1<<(64-n)), n)
		checkZones(t, inZones(-1<<(64-n), -1<<(64-n)), n)
	}
	for _, c := range []struct {
		zones []int
		count int
	}{
		{[]int{0}, 0}, {[]int{0, 0, 0}, 0}, {[]int{1, 2, 4}, 3}, {[]int{3, 6, 12}, 4}, {[]int{7, 7}, 3}, {[]int{1, 8, 1, 8}, 2}, {[]int{-1}, 64}, {[]int{-2}, 63}, {[]int{-1, 5, 0}, 64}, {[]int{least}, 1}, {[]int{least, 1}, 2}, {[]int{least, least + 1, 1}, 2}, {[]int{greatest}, 63}, {[]int{greatest, least}, 64}, {[]int{5, greatest, 1}, 63}, {[]int{0xFFFF}, 16}, {[]int{0xFF, 0xFF00, 0x10000}, 17}, {[]int{1 << 32, 1 << 31, 1}, 3},
	} {
		checkZones(t, inZones(c.zones...), c.count)
	}
}

// Rides of which each is in few zones can be in many together, and the ride in the middle counts as the others do.
func TestCoversZonesOfEachRide(t *testing.T) {
	for n := 1; n <= 9; n++ {
		for i := range n {
			zones := slices.Repeat([]int{3}, n)
			checkZones(t, inZones(zones...), 2)
			checkZones(t, inZones(with(zones, i, 7)...), 3)
			if n > 1 {
				checkZones(t, inZones(with(zones, i, least)...), 3)
			}
		}
	}
}

// The times at both ends of the integers, and those around the limit.
func TestCoversSeconds(t *testing.T) {
	p := endless()
	for _, first := range edgesOfInts() {
		for _, seconds := range edgesOfInts() {
			p.Seconds = seconds
			for _, last := range append(edgesOfInts(), first+seconds-1, first+seconds, first+seconds+1, first-1, first, first+1) {
				checkCovers(t, p, trip(first, last), isBetween(first, last, seconds))
			}
		}
	}
	for _, n := range integers() {
		p.Seconds = n
		checkCovers(t, p, trip(n), n >= 0)
		for _, m := range integers() {
			for _, last := range []int{m + n - 1, m + n, m + n + 1} {
				checkCovers(t, p, trip(m, last), isBetween(m, last, n))
			}
			p.Seconds = 600
			checkCovers(t, p, trip(n, m), isBetween(n, m, 600))
			p.Seconds = 0
			checkCovers(t, p, trip(n, m), isBetween(n, m, 0))
			p.Seconds = n
		}
	}
}

// Each difference around the limit, also with a last ride that departs before the first one.
func TestCoversSecondsOfNeighbors(t *testing.T) {
	p := endless()
	for seconds := -20; seconds <= 20; seconds++ {
		p.Seconds = seconds
		for difference := -45; difference <= 45; difference++ {
			for _, first := range []int{-30, 0, 7, 1000, least + 60, greatest - 60} {
				checkCovers(t, p, trip(first, first+difference), difference <= seconds)
			}
			for _, first := range []int{least, greatest} {
				last := first + difference
				if (last > first) == (difference > 0) {
					checkCovers(t, p, trip(first, last), difference <= seconds)
				}
			}
		}
	}
	for _, seconds := range []int{0, 1, 599, 600, 601, dayLength - 1, dayLength} {
		p.Seconds = seconds
		checkCovers(t, p, trip(1000, 1000+seconds-1), true)
		checkCovers(t, p, trip(1000, 1000+seconds), true)
		checkCovers(t, p, trip(1000, 1000+seconds+1), false)
		checkCovers(t, p, trip(1000), true)
		checkCovers(t, p, trip(1000, 500), true)
	}
}

// The rides between the first and the last one may depart at any time.
func TestCoversSecondsOfOtherRides(t *testing.T) {
	p := endless()
	p.Seconds = 600
	for _, n := range integers() {
		checkCovers(t, p, trip(1000, n, 1600), true)
		checkCovers(t, p, trip(1000, n, 1601), false)
		checkCovers(t, p, trip(1000, 1600, n), isBetween(1000, n, 600))
		checkCovers(t, p, trip(n, 1000, 1600), isBetween(n, 1600, 600))
		for _, m := range edgesOfInts() {
			checkCovers(t, p, trip(1000, n, m, 1600), true)
			checkCovers(t, p, trip(1000, m, n, m, 1601), false)
		}
	}
}

// All sets of modes of a valid product, with all sets of modes of a ride, and with two rides that have them together.
func TestCoversModes(t *testing.T) {
	p := endless()
	for modes := range mostModes + 1 {
		p.Modes = modes
		for set := range mostModes + 2 {
			is := set&modes == set
			checkCovers(t, p, withModes(set), is)
			checkCovers(t, p, withModes(set&0x55, set&^0x55), is)
			checkCovers(t, p, withModes(0, set, 0), is)
		}
	}
}

// Sets of up to 64 modes, which no valid product and no valid ride have.
func TestCoversModesOfWords(t *testing.T) {
	p := endless()
	for i := range 64 {
		for j := range 64 {
			p.Modes = 1 << j
			checkCovers(t, p, withModes(1<<i), i == j)
			checkCovers(t, p, withModes(1<<j, 1<<i, 1<<j), i == j)
			p.Modes = ^(1 << j)
			checkCovers(t, p, withModes(1<<i), i != j)
			checkCovers(t, p, withModes(1<<i, 0), i != j)
			checkCovers(t, p, withModes(-1<<i), j < i)
		}
	}
	for _, n := range integers() {
		for _, m := range integers() {
			p.Modes = n
			checkCovers(t, p, withModes(m), n&m == m)
			checkCovers(t, p, withModes(n, m, n), n&m == m)
		}
		p.Modes = n
		checkCovers(t, p, withModes(0), true)
		checkCovers(t, p, withModes(0, 0), true)
		p.Modes = 0
		checkCovers(t, p, withModes(n), n == 0)
		p.Modes = -1
		checkCovers(t, p, withModes(n, 3), true)
	}
}

// One ride with another mode is enough, wherever it is.
func TestCoversModesOfEachRide(t *testing.T) {
	p := endless()
	p.Modes = 6
	for n := 1; n <= 9; n++ {
		for i := range n {
			modes := slices.Repeat([]int{2}, n)
			checkCovers(t, p, withModes(modes...), true)
			checkCovers(t, p, withModes(with(modes, i, 4)...), true)
			checkCovers(t, p, withModes(with(modes, i, 1)...), false)
			checkCovers(t, p, withModes(with(modes, i, 10)...), false)
			checkCovers(t, p, withModes(with(modes, i, least)...), false)
		}
	}
}

// One condition that does not hold is enough.
func TestCoversEachCondition(t *testing.T) {
	rides := []api.Ride{{Depart: 100, Zones: 1, Modes: 1}, {Depart: 150, Zones: 4, Modes: 8}, {Depart: 200, Zones: 1, Modes: 1}}
	for _, rideCount := range []int{2, 3, 4} {
		for _, zoneCount := range []int{1, 2, 3} {
			for _, seconds := range []int{99, 100, 101} {
				for _, modes := range []int{1, 8, 9, 255} {
					p := api.Product{Rides: rideCount, Zones: zoneCount, Seconds: seconds, Modes: modes}
					checkCovers(t, p, rides, rideCount >= 3 && zoneCount >= 2 && seconds >= 100 && modes&9 == 9)
				}
			}
		}
	}
}

// smallRides returns rides with few different times, zones and modes.
func smallRides() []api.Ride {
	var l []api.Ride
	for i, depart := range []int{0, 1, 3} {
		for zones := range 4 {
			for modes := range 3 {
				l = append(l, api.Ride{Depart: depart, Arrive: depart + i, Zones: zones, Modes: modes})
			}
		}
	}
	return l
}

// All pairs of small rides, with all products with small numbers.
func TestCoversAllSmall(t *testing.T) {
	count := 0
	pairs := lists(smallRides(), 2)
	for rides := range 4 {
		for zones := -1; zones <= 2; zones++ {
			for seconds := -3; seconds <= 3; seconds++ {
				for modes := range 4 {
					p := api.Product{ID: "x", Rides: rides, Zones: zones, Seconds: seconds, Modes: modes}
					for i := (rides + zones + seconds + modes + 10) % 5; i < len(pairs); i += 5 {
						want := wantedCovers(p, pairs[i])
						checkCovers(t, p, pairs[i], want)
						if want {
							count++
						}
					}
				}
			}
		}
	}
	if count < 5000 {
		t.Errorf("only %d are covered", count)
	}
}

// No product, one and several that cover the rides.
func TestOptionsExamples(t *testing.T) {
	f := given()
	checkOptions(t, f, trip(5), 0, 1)
	checkOptions(t, f, trip(5, 5), 0)
	checkOptions(t, f, trip(5, 5, 5))
	checkOptions(t, f, nil)
	checkOptions(t, api.Fares{}, trip(5))
	checkOptions(t, api.Fares{}, nil)
	checkOptions(t, f, inZones(3), 0, 1)
	checkOptions(t, f, inZones(7))
	f.Products = append(f.Products, wide("all", 0), f.Products[1], api.Product{})
	checkOptions(t, f, trip(5), 0, 1, 2, 3)
	checkOptions(t, f, trip(5, 5), 0, 2)
	checkOptions(t, f, trip(5, 5, 5), 2)
}

// Each set of the products of a table can be those that cover the rides.
func TestOptionsOfEachPlace(t *testing.T) {
	for set := range 1 << 10 {
		f := valid(10)
		var want []int
		for i := range f.Products {
			f.Products[i] = wide(name(i), 5)
			if set>>i&1 == 1 {
				want = append(want, i)
			} else {
				f.Products[i].Modes = 2
			}
		}
		checkOptions(t, f, trip(5, 6), want...)
	}
}

// Neither the fares nor the rides need be valid.
func TestOptionsOfInvalidFares(t *testing.T) {
	rides := trip(5, 6)
	for _, n := range integers() {
		for _, part := range parts() {
			f := given()
			*part.at(&f) = n
			checkOptions(t, f, rides, 0)
		}
		for _, field := range fields() {
			f := given()
			*field.at(&f.Products[0]) = n
			*field.at(&f.Products[1]) = n
			checkOptions(t, f, rides, wantedOptions(f, rides)...)
			checkOptions(t, f, rides[:1], wantedOptions(f, rides[:1])...)
			odd := []api.Ride{{Depart: n, Arrive: -n, Zones: n, Modes: n}}
			checkOptions(t, f, odd, wantedOptions(f, odd)...)
		}
	}
	checkOptions(t, api.Fares{Products: kinds()}, trip(5), wantedOptions(api.Fares{Products: kinds()}, trip(5))...)
	// The same product at several indices, and with an ID that is none.
	f := api.Fares{Products: slices.Repeat([]api.Product{wide("", -5), {}, endless()}, 3), Cap: -1}
	checkOptions(t, f, rides, 0, 2, 3, 5, 6, 8)
	// More than MaxProducts products.
	for _, n := range []int{17, 18, 64, 256, 1000, 70000} {
		f := api.Fares{Products: slices.Repeat([]api.Product{endless(), {}}, n)}
		var want []int
		for i := 0; i < 2*n; i += 2 {
			want = append(want, i)
		}
		checkOptions(t, f, rides, want...)
	}
}

// More rides than any valid product covers.
func TestOptionsOfManyRides(t *testing.T) {
	f := api.Fares{Products: []api.Product{endless(), wide("a", 5), {Rides: 999, Zones: 9, Modes: 1}, {Rides: 1000, Zones: 1, Modes: 1}, {Rides: 1001, Zones: 1, Modes: 1, Seconds: 5}, {Rides: 1000, Modes: 1}}}
	checkOptions(t, f, trip(make([]int, 1000)...), 0, 3, 4)
	checkOptions(t, f, trip(make([]int, 999)...), 0, 2, 3, 4)
	checkOptions(t, f, trip(make([]int, 1001)...), 0, 4)
	checkOptions(t, f, trip(make([]int, 9)...), 0, 2, 3, 4)
	checkOptions(t, f, trip(make([]int, 8)...), 0, 1, 2, 3, 4)
}

// P21.3 (Price)

func TestPriceExamples(t *testing.T) {
	f := given()
	checkPrice(t, f, 0, false, 300, 70, true)
	checkPrice(t, f, 0, false, 301, 120, true)
	checkPrice(t, f, 0, true, 300, 120, true)
	checkPrice(t, f, 1, false, 300, 0, true)
	checkPrice(t, f, 1, false, 301, 30, true)
	checkPrice(t, f, 1, true, 0, 30, true)
	checkPrice(t, f, 2, true, 0, 0, false)
	checkPrice(t, f, -1, true, 0, 0, false)
}

// Each index of tables of each length, and integers that are none.
func TestPriceOfEachProduct(t *testing.T) {
	for n := range mostProducts + 1 {
		f := valid(n)
		for _, i := range append(integers(), n-1, n, n+1, n/2) {
			for _, wait := range []int{0, 300, 301} {
				checkWait(t, f, i, wait)
			}
			if isOutside(i, 0, n-1) {
				checkPrice(t, f, i, true, 0, 0, false)
				checkPrice(t, f, i, false, greatest, 0, false)
			}
		}
	}
	checkPrice(t, api.Fares{}, 0, true, 0, 0, false)
	checkPrice(t, api.Fares{Discount: 5, Within: 5, Cap: 5}, 0, false, 0, 0, false)
}

// Prices less than, equal to and greater than the discount, with waits on both sides of Within.
func TestPriceOfEachWait(t *testing.T) {
	amounts := []int{0, 1, 2, 49, 50, 51, 100, mostPrice / 2, mostPrice - 1, mostPrice}
	for _, price := range amounts {
		for _, discount := range amounts {
			for _, within := range []int{0, 1, 299, 300, dayLength - 1, dayLength} {
				f := offers(7, price, 9)
				f.Discount, f.Within = discount, within
				reduced := max(0, price-discount)
				for _, wait := range []int{least, least + 1, -1 << 32, -dayLength - 1, -dayLength, -301, -300, -1, 0, within - 1, within} {
					checkPrice(t, f, 1, false, wait, reduced, true)
					checkPrice(t, f, 1, true, wait, price, true)
				}
				for _, wait := range []int{within + 1, within + 2, dayLength + 1, mostPrice, 1 << 32, 1<<32 + within, greatest - 1, greatest} {
					checkPrice(t, f, 1, false, wait, price, true)
					checkPrice(t, f, 1, true, wait, price, true)
				}
			}
		}
	}
	for _, f := range []api.Fares{given(), valid(3), offers(0, 40, 41)} {
		for _, wait := range integers() {
			for i := range f.Products {
				checkWait(t, f, i, wait)
			}
		}
	}
}

// What the product covers and the cap do not count.
func TestPriceOfOtherFields(t *testing.T) {
	for _, most := range []int{0, 1, 69, 70, 119, 120, mostPrice} {
		f := given()
		f.Cap = most
		checkPrice(t, f, 0, false, 300, 70, true)
		checkPrice(t, f, 0, true, 300, 120, true)
		for _, field := range fields()[1:] {
			for _, n := range []int{field.least, field.most} {
				*field.at(&f.Products[0]) = n
				checkPrice(t, f, 0, false, 300, 70, true)
				checkPrice(t, f, 0, false, 301, 120, true)
			}
		}
	}
}

// P21.4 (Cheapest)

func TestCheapestExamples(t *testing.T) {
	f := given()
	checkCheapest(t, f, trip(5), 1, 30, true)
	checkCheapest(t, f, trip(5, 605), 0, 120, true)
	checkCheapest(t, f, trip(5, 606), 0, 0, false)
	checkCheapest(t, f, nil, 0, 0, false)
	checkCheapest(t, f, []api.Ride{}, 0, 0, false)
	checkCheapest(t, api.Fares{}, trip(5), 0, 0, false)
	checkCheapest(t, api.Fares{}, nil, 0, 0, false)
}

// Of several products with the smallest Price, it is the first one.
func TestCheapestOfEqualPrices(t *testing.T) {
	for _, c := range []struct {
		prices         []int
		product, price int
	}{
		{[]int{7}, 0, 7}, {[]int{7, 7}, 0, 7}, {[]int{7, 7, 7}, 0, 7}, {[]int{8, 7, 7}, 1, 7}, {[]int{7, 8, 7}, 0, 7}, {[]int{9, 8, 7}, 2, 7}, {[]int{7, 8, 9}, 0, 7}, {[]int{8, 9, 7, 9, 7}, 2, 7}, {[]int{0, 0}, 0, 0}, {[]int{1, 0, 0}, 1, 0}, {[]int{0, 1}, 0, 0}, {[]int{mostPrice}, 0, mostPrice}, {[]int{mostPrice, mostPrice - 1, mostPrice}, 1, mostPrice - 1},
	} {
		checkCheapest(t, offers(c.prices...), trip(5, 6, 7), c.product, c.price, true)
	}
	for _, prices := range lists([]int{0, 1, 2}, 6) {
		f := offers(prices...)
		if len(prices) == 0 {
			checkCheapest(t, f, trip(5), 0, 0, false)
			continue
		}
		smallest := slices.Min(prices)
		checkCheapest(t, f, trip(5), slices.Index(prices, smallest), smallest, true)
	}
}

// A cheaper product counts only if it covers the rides, all of them.
func TestCheapestOfThoseThatCover(t *testing.T) {
	narrow := []func(p *api.Product){
		func(p *api.Product) { p.Rides = 2 },
		func(p *api.Product) { p.Zones = 1 },
		func(p *api.Product) { p.Seconds = 199 },
		func(p *api.Product) { p.Modes = 1 },
		func(p *api.Product) { p.Modes = 2 },
	}
	rides := []api.Ride{{Depart: 100, Zones: 1, Modes: 1}, {Depart: 200, Zones: 2, Modes: 2}, {Depart: 300, Zones: 1, Modes: 1}}
	for _, change := range narrow {
		for _, prices := range lists([]int{0, 3, 5}, 3) {
			for set := range 1 << len(prices) {
				f := offers(prices...)
				product, price, ok := 0, 0, false
				for i := range f.Products {
					if set>>i&1 == 1 {
						change(&f.Products[i])
					} else if !ok || prices[i] < price {
						product, price, ok = i, prices[i], true
					}
				}
				checkCheapest(t, f, rides, product, price, ok)
			}
		}
	}
}

// The discount and the cap do not count.
func TestCheapestOfOtherFields(t *testing.T) {
	for _, discount := range []int{0, 5, 30, mostPrice} {
		for _, within := range []int{0, 300, dayLength} {
			for _, most := range []int{0, 1, 29, 30, mostPrice} {
				f := given()
				f.Discount, f.Within, f.Cap = discount, within, most
				checkCheapest(t, f, trip(5), 1, 30, true)
				checkCheapest(t, f, trip(5, 5), 0, 120, true)
			}
		}
	}
}

// An error of the fares counts also where it is one of a product that does not cover the rides or is not the cheapest one.
func TestCheapestOfInvalidFares(t *testing.T) {
	for _, w := range wrongs() {
		for i := range 3 {
			f := offers(3, 2, 5)
			w.change(f.Products, i)
			if isSound(f) {
				continue
			}
			for _, rides := range [][]api.Ride{nil, trip(5), trip(5, 6), trip(5, 5+dayLength), inZones(-1)} {
				checkCheapest(t, f, rides, 0, 0, false)
			}
		}
	}
	checkCheapest(t, offers(make([]int, mostProducts)...), trip(5), 0, 0, true)
	checkCheapest(t, offers(make([]int, mostProducts+1)...), trip(5), 0, 0, false)
}

// Rides that are not valid can be covered by valid products.
func TestCheapestOfInvalidRides(t *testing.T) {
	f := offers(9, 8)
	for _, n := range integers() {
		checkCheapest(t, f, trip(n), 1, 8, true)
		checkCheapest(t, f, []api.Ride{{Depart: n, Arrive: least, Zones: 1, Modes: 1}, {Depart: n, Arrive: n, Zones: 1}}, 1, 8, true)
		for _, l := range [][]api.Ride{inZones(n), withModes(n), {{Depart: 5, Zones: n, Modes: n}}} {
			checkRides(t, f, l)
		}
	}
	checkCheapest(t, f, inZones(-1<<62), 1, 8, true)
	checkCheapest(t, f, inZones(-1), 0, 0, false)
	checkCheapest(t, f, withModes(-1), 0, 0, false)
	checkCheapest(t, f, withModes(0), 1, 8, true)
	checkCheapest(t, f, trip(least, greatest), 0, 0, false)
	checkCheapest(t, f, trip(greatest, least), 1, 8, true)
}

// P21.5 (parts of rides)

// more returns products with the same modes that allow at least as many rides, zones and seconds.
func more(p api.Product, next func(below int) int) []api.Product {
	l := []api.Product{p}
	for i := range 5 {
		q := p
		q.ID, q.Price = "other", next(9)
		if i != 1 {
			q.Rides += next(3)
		}
		if i != 2 {
			q.Zones += next(3)
		}
		if i != 3 {
			q.Seconds += next(300)
		}
		if i == 4 {
			q.Rides, q.Zones, q.Seconds = greatest, greatest, greatest
		}
		l = append(l, q)
	}
	return l
}

// checkParts checks that the product, which covers the rides, and those that allow more cover each part of the rides for whose first and last one counts is true, and returns the number of these parts.
func checkParts(t *testing.T, p api.Product, rides []api.Ride, next func(below int) int, counts func(first, last api.Ride) bool) int {
	t.Helper()
	n := 0
	for i := range rides {
		for k := i; k < len(rides); k++ {
			if !counts(rides[i], rides[k]) {
				continue
			}
			n++
			for _, q := range more(p, next) {
				checkCovers(t, q, rides[i:k+1], true)
			}
		}
	}
	return n
}

func TestPartsOfRides(t *testing.T) {
	count := 0
	for seed := range 8000 {
		next := source(seed)
		f := scattered(next, never)
		rides := scatteredRides(next, 5, true)
		for _, p := range f.Products {
			if Covers(p, rides) {
				count += checkParts(t, p, rides, next, func(first, last api.Ride) bool { return true })
			}
		}
	}
	if count < 20000 {
		t.Errorf("only %d parts of rides", count)
	}
}

// Of rides in any order, those parts are covered whose last ride departs not longer after their first one.
func TestPartsOfRidesInAnyOrder(t *testing.T) {
	count := 0
	for seed := range 8000 {
		next := source(seed)
		rides := scatteredRides(next, 6, false)
		p := api.Product{Rides: next(7), Zones: next(7), Seconds: next(9)*100 - 300, Modes: 0x1FF &^ (1 << next(20))}
		if Covers(p, rides) {
			whole := rides[len(rides)-1].Depart - rides[0].Depart
			count += checkParts(t, p, rides, next, func(first, last api.Ride) bool { return last.Depart-first.Depart <= whole })
		}
	}
	if count < 1500 {
		t.Errorf("only %d parts of rides", count)
	}
}

// P21.6 (discounts)

func TestDiscounts(t *testing.T) {
	reduced := 0
	for seed := range 3000 {
		next := source(seed)
		f := scattered(next, never)
		waits := append(edgesOfInts(), f.Within-1, f.Within, f.Within+1, next(700), next(700))
		slices.Sort(waits)
		for i, p := range f.Products {
			before := 0
			for _, wait := range waits {
				full, ok := Price(f, i, true, wait)
				if full != p.Price || !ok {
					t.Errorf("Price(%s, %d, true, %d) = %d, %v", text(f), i, wait, full, ok)
				}
				price, ok := Price(f, i, false, wait)
				if !ok || price < before || price > full || full-price > f.Discount || price < 0 {
					t.Errorf("Price(%s, %d, false, %d) = %d, %v; with a smaller wait %d, and without a discount %d", text(f), i, wait, price, ok, before, full)
				}
				if price < full {
					reduced++
				}
				before = price
			}
			if before != p.Price {
				t.Errorf("Price(%s, %d) = %d with the greatest wait", text(f), i, before)
			}
		}
	}
	if reduced < 50000 {
		t.Errorf("only %d prices are reduced", reduced)
	}
}

// All functions, compared with the definitions.

func TestAgainstDefinitions(t *testing.T) {
	count := map[api.Errno]int{}
	covered, uncovered := 0, 0
	for seed := range 6000 {
		next := source(seed)
		f := scattered(next, 1+seed%150)
		index, e := wantedCheck(f)
		checkCheck(t, f, index, e)
		count[e]++
		for range 4 {
			rides := scatteredRides(next, 6, next(2) == 0)
			checkRides(t, f, rides)
			if _, _, ok := Cheapest(f, rides); ok {
				covered++
			} else if e == api.OK {
				uncovered++
			}
		}
		for i := -1; i <= len(f.Products); i++ {
			checkWait(t, f, i, next(700))
			checkWait(t, f, i, f.Within+next(3)-1)
		}
	}
	for _, e := range []api.Errno{api.OK, api.ErrName, api.ErrDuplicate, api.ErrRange} {
		if count[e] < 100 {
			t.Errorf("Check returned %d only %d times", e, count[e])
		}
	}
	if covered < 2000 || uncovered < 2000 {
		t.Errorf("only %d lists of rides are covered and %d not", covered, uncovered)
	}
}

// The products before the index are valid, and those up to the index are not.
func TestBeginningsOfInvalidFares(t *testing.T) {
	for seed := range 2000 {
		next := source(seed)
		f := scattered(next, 1+seed%100)
		i, e := Check(f)
		if i < 0 {
			continue
		}
		all := f.Products
		for n := range all {
			f.Products = all[:n+1]
			switch {
			case e == api.OK || n < i:
				checkCheck(t, f, 0, api.OK)
			default:
				checkCheck(t, f, i, e)
			}
		}
	}
}

// Rules: arguments are neither changed nor retained, and results share no memory.

// spare returns a copy of a list with spare capacity, whose elements are zero values.
func spare[T any](l []T) []T {
	return append(make([]T, 0, 2*len(l)+3), l...)
}

// isKept reports whether a copy that spare has made is unchanged, also behind its end.
func isKept[T comparable](l, original []T) bool {
	return slices.Equal(l, original) && slices.Equal(l[len(l):cap(l)], make([]T, cap(l)-len(l)))
}

func TestArgumentsAreNotChanged(t *testing.T) {
	for seed := range 500 {
		next := source(seed)
		f := scattered(next, 1+seed)
		rides := scatteredRides(next, 6, false)
		if seed == 0 {
			f = api.Fares{Products: append(kinds(), endless(), api.Product{ID: " a ", Price: greatest, Rides: least, Zones: least, Seconds: least, Modes: least})}
			rides = append(inZones(-1, least, 0, 5), api.Ride{Depart: greatest, Arrive: least, Zones: greatest, Modes: greatest})
		}
		kept := f
		kept.Products = spare(f.Products)
		keptRides := spare(rides)
		Check(kept)
		Options(kept, keptRides)
		Cheapest(kept, keptRides)
		for i, p := range kept.Products {
			Covers(p, keptRides)
			Covers(p, keptRides[:len(rides)/2])
			Price(kept, i, i%2 == 0, next(600))
		}
		if !isKept(kept.Products, f.Products) || !isKept(keptRides, rides) {
			t.Errorf("%s and %s were changed to %s and %s", text(f), text(rides), text(kept), text(keptRides))
		}
	}
}

// spoil changes all elements of a list, and whatever is behind them, which belongs to the list as well.
func spoil[T any](l []T, x T) {
	l = l[:cap(l)]
	for i := range l {
		l[i] = x
	}
}

func TestResultsShareNoMemory(t *testing.T) {
	for seed := range 300 {
		next := source(seed)
		f := scattered(next, 1+seed)
		rides := scatteredRides(next, 3, false)
		want := wantedOptions(f, rides)
		products, givenRides := spare(f.Products), spare(rides)
		kept := f
		kept.Products = products
		first, second := Options(kept, givenRides), Options(kept, givenRides)
		spoil(first, -7)
		if !slices.Equal(second, want) || !isKept(products, f.Products) || !isKept(givenRides, rides) {
			t.Errorf("results share memory: %v, %s, %s", second, text(products), text(givenRides))
		}
		spoil(products, api.Product{ID: "spoilt", Rides: -7})
		spoil(givenRides, api.Ride{Depart: -7, Zones: -7})
		if !slices.Equal(second, want) {
			t.Errorf("the result changed with the lists to %v; want %v", second, want)
		}
		checkRides(t, f, rides)
	}
}

// The results of a call depend only on its arguments.
func TestCallsDoNotAffectEachOther(t *testing.T) {
	twice := given()
	twice.Products = append(twice.Products, twice.Products[0])
	for range 3 {
		checkCheck(t, given(), 0, api.OK)
		checkCheck(t, twice, 2, api.ErrDuplicate)
		checkCheck(t, given(), 0, api.OK)
		checkCovers(t, twice.Products[0], trip(5, 6), true)
		checkCovers(t, twice.Products[0], inZones(3, 4), false)
		checkCovers(t, twice.Products[0], trip(5, 6), true)
		checkOptions(t, twice, trip(5, 6), 0, 2)
		checkOptions(t, twice, trip(5), 0, 1, 2)
		checkOptions(t, twice, nil)
		checkPrice(t, given(), 0, false, 300, 70, true)
		checkPrice(t, given(), 0, true, 300, 120, true)
		checkPrice(t, twice, 0, false, 300, 0, false)
		checkCheapest(t, given(), trip(5), 1, 30, true)
		checkCheapest(t, given(), trip(5, 6), 0, 120, true)
		checkCheapest(t, given(), trip(5, 6, 7), 0, 0, false)
		checkCheapest(t, twice, trip(5), 0, 0, false)
	}
}

// P1: every function terminates and does not panic.

func TestAnyArguments(t *testing.T) {
	for _, n := range edgesOfInts() {
		for _, m := range edgesOfInts() {
			f := api.Fares{Products: []api.Product{
				{ID: "a", Price: n, Rides: m, Zones: n, Seconds: m, Modes: n},
				{ID: "b", Price: 5, Rides: 2, Zones: m, Seconds: n, Modes: m},
				{ID: "a", Price: m, Rides: greatest, Zones: greatest, Seconds: n, Modes: -1},
				wide("c", m),
			}}
			rides := []api.Ride{{Depart: n, Arrive: m, Zones: n, Modes: m}, {Depart: m, Arrive: n, Zones: m, Modes: n}, {Depart: 5, Zones: 1, Modes: 1}, {Depart: n, Arrive: n, Zones: 3, Modes: 1}}
			for i := range rides {
				for k := i; k <= len(rides); k++ {
					checkRides(t, f, rides[i:k])
				}
			}
			fares := []api.Fares{f, {Products: f.Products, Discount: n, Within: m}, {Products: f.Products[3:], Within: n, Cap: m}, {Products: f.Products[3:], Discount: m, Cap: n}, {Products: []api.Product{wide("a", 70)}, Discount: n, Within: m, Cap: n}}
			for _, f := range fares {
				index, e := wantedCheck(f)
				checkCheck(t, f, index, e)
				for _, i := range []int{0, 1, n, m} {
					checkWait(t, f, i, n)
					checkWait(t, f, i, m)
				}
			}
		}
	}
}

// faresOf makes fares of six bytes for each product.
func faresOf(data []byte, n, m int) api.Fares {
	f := api.Fares{Discount: 50, Within: 300, Cap: 500}
	for ; len(data) >= 6; data = data[6:] {
		p := api.Product{ID: name(len(f.Products)), Price: int(data[0]), Rides: 1 + int(data[1]&7), Zones: 1 + int(data[2]&15), Seconds: 10 * int(data[3]), Modes: max(1, int(data[4]))}
		switch data[5] {
		case 1:
			p.ID = name(int(data[0]))
		case 2:
			p.ID = string(data[:2])
		case 3:
			p.Price = n
		case 4:
			p.Rides = n
		case 5:
			p.Zones = n
		case 6:
			p.Seconds = n
		case 7:
			p.Modes = n
		case 8:
			f.Discount = n
		case 9:
			f.Within = n
		case 10:
			f.Cap = n
		case 11:
			p.Rides, p.Zones, p.Seconds, p.Modes = greatest, greatest, m, -1
		}
		f.Products = append(f.Products, p)
	}
	return f
}

// ridesOf makes rides of four bytes for each.
func ridesOf(data []byte, n, m int) []api.Ride {
	var l []api.Ride
	for ; len(data) >= 4; data = data[4:] {
		r := api.Ride{Depart: 10 * int(data[0]), Arrive: 10*int(data[0]) + int(data[3]), Zones: 1 << (data[1] & 63), Modes: 1 << (data[2] & 7)}
		switch data[3] {
		case 1:
			r.Depart = n
		case 2:
			r.Depart = m
		case 3:
			r.Zones = n
		case 4:
			r.Modes = m
		case 5:
			r.Zones, r.Modes = int(data[1]), int(data[2])
		}
		l = append(l, r)
	}
	return l
}

func FuzzProduct(f *testing.F) {
	for i, data := range []string{"", "\x20\x01\x01\x3c\xff\x00", "\x20\x01\x01\x3c\xff\x00\x10\x00\x00\x3c\x01\x01", "0123456789abcdefgh", "\x20\x01\x01\x3c\xff\x03\x20\x01\x01\x3c\xff\x0b"} {
		for k, rides := range []string{"", "\x0a\x00\x00\x00", "\x0a\x00\x00\x00\x20\x01\x03\x09", "\x0a\x00\x00\x01\x20\x01\x03\x02", "0123456789abcdef"} {
			f.Add([]byte(data), []byte(rides), i, k)
			f.Add([]byte(data), []byte(rides), greatest-i, least+k)
			f.Add([]byte(data), []byte(rides), least+i, -k)
		}
	}
	f.Fuzz(func(t *testing.T, data, more []byte, n, m int) {
		fares := faresOf(data[:min(len(data), 120)], n, m)
		rides := ridesOf(more[:min(len(more), 60)], n, m)
		index, e := wantedCheck(fares)
		checkCheck(t, fares, index, e)
		for k := range len(rides) + 1 {
			checkRides(t, fares, rides[:k])
			checkRides(t, fares, rides[k:])
		}
		for _, i := range []int{-1, 0, 1, len(fares.Products) - 1, len(fares.Products), n, m} {
			for _, wait := range []int{n, m, 0, fares.Within - 1, fares.Within, fares.Within + 1} {
				checkWait(t, fares, i, wait)
			}
		}
	})
}
