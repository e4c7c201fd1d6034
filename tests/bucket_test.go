package tests

import (
	"math"
	"math/rand"
	"slices"
	"testing"

	"loop.example/g00967/impl"
)

// The limits of a bucket and of what is simulated with one, as the document states them.
const (
	mostRate   = 100
	mostBurst  = 100
	mostAsks   = 200
	mostTakes  = 20
	mostPeriod = 100000
	mostTicks  = 1000000000
)

func bucket(rate int, burst int, have int) impl.Bucket {
	return impl.Bucket{Rate: rate, Burst: burst, Have: have}
}

// wantBucketOk checks BucketOk and, for a bucket that is not valid, the fixed results of the other functions.
func wantBucketOk(t *testing.T, b impl.Bucket, want bool) {
	t.Helper()
	if got := impl.BucketOk(b); got != want {
		t.Errorf("BucketOk(%v) is %v", b, got)
	}
	if got := tableBucketOk(b); got != want {
		t.Errorf("the tests say %v of %v", got, b)
	}
	if want {
		return
	}
	wantTakeOne(t, b, b, false)
	for _, ticks := range []int{-1, 0, 1, 2, 100, mostPeriod, mostTicks, mostTicks + 1} {
		wantFilled(t, b, ticks, b)
		wantMostIn(t, b, ticks, 0)
	}
	wantRun(t, b, nil)
	wantRun(t, b, []int{1})
	wantRun(t, b, []int{0, 3, 21})
	wantRun(t, b, slices.Repeat([]int{1}, mostAsks))
	wantRun(t, b, slices.Repeat([]int{1}, mostAsks+1))
}

func wantBucketNew(t *testing.T, rate int, burst int, want bool) {
	t.Helper()
	b, ok := impl.BucketNew(rate, burst)
	made := impl.Bucket{}
	if want {
		made = bucket(rate, burst, burst)
	}
	if b != made || ok != want {
		t.Errorf("BucketNew(%d, %d) = %v, %v", rate, burst, b, ok)
	}
	if want && !impl.BucketOk(b) {
		t.Errorf("the bucket %v of BucketNew is not valid", b)
	}
}

func wantTakeOne(t *testing.T, b impl.Bucket, want impl.Bucket, wantOk bool) {
	t.Helper()
	if got, ok := impl.TakeOne(b); got != want || ok != wantOk {
		t.Errorf("TakeOne(%v) = %v, %v; want %v, %v", b, got, ok, want, wantOk)
	}
}

func wantFilled(t *testing.T, b impl.Bucket, ticks int, want impl.Bucket) {
	t.Helper()
	if got := impl.Filled(b, ticks); got != want {
		t.Errorf("Filled(%v, %d) = %v; want %v", b, ticks, got, want)
	}
}

// wantRun checks RunBucket, without and with spare elements behind asks, which it must leave alone.
func wantRun(t *testing.T, b impl.Bucket, asks []int, want ...bool) {
	t.Helper()
	for _, behind := range [][]int{nil, {5, 6, 7}} {
		given := withSpare(asks, behind...)
		got := impl.RunBucket(b, given)
		if !slices.Equal(got, want) {
			t.Errorf("RunBucket(%v, %v) = %v; want %v", b, asks, got, want)
		}
		if sharesElements(got, given) {
			t.Errorf("RunBucket(%v, %v) shares memory with its argument", b, asks)
		}
		wantKept(t, "RunBucket", given, withSpare(asks, behind...))
	}
}

func wantMostIn(t *testing.T, b impl.Bucket, ticks int, want int) {
	t.Helper()
	if got := impl.MostIn(b, ticks); got != want {
		t.Errorf("MostIn(%v, %d) = %d; want %d", b, ticks, got, want)
	}
}

// tableBucketOk is BucketOk, counting up to each field.
func tableBucketOk(b impl.Bucket) bool {
	rateOk, burstOk, haveOk := false, false, false
	for n := range 101 {
		rateOk = rateOk || b.Rate == n
		burstOk = burstOk || b.Burst == n+1 && n < 100
		haveOk = haveOk || b.Have == n && n <= b.Burst
	}
	return rateOk && burstOk && haveOk
}

// tableFilled is Filled of a valid bucket, one token after the other.
func tableFilled(b impl.Bucket, ticks int) impl.Bucket {
	if ticks < 0 || ticks > mostTicks || b.Rate == 0 {
		return b
	}
	for range ticks {
		for range b.Rate {
			if b.Have == b.Burst {
				return b
			}
			b.Have++
		}
	}
	return b
}

// tableRun is RunBucket of a valid bucket, from the number of tokens that are given in each tick.
func tableRun(b impl.Bucket, asks []int) []bool {
	if len(asks) > mostAsks {
		return nil
	}
	var taken []bool
	have := b.Have
	for _, ask := range asks {
		have += b.Rate
		if have > b.Burst {
			have = b.Burst
		}
		asked := max(0, ask)
		if asked > mostTakes {
			asked = mostTakes
		}
		given := asked
		if given > have {
			given = have
		}
		have -= given
		taken = append(taken, slices.Repeat([]bool{true}, given)...)
		taken = append(taken, slices.Repeat([]bool{false}, asked-given)...)
	}
	return taken
}

// countTrue returns how many of the calls of TakeOne were successful.
func countTrue(taken []bool) int {
	n := 0
	for _, ok := range taken {
		if ok {
			n++
		}
	}
	return n
}

// results returns the results of calls of TakeOne, of which y stands for one that is successful and n for one that is not.
func results(text string) []bool {
	var taken []bool
	for _, c := range text {
		taken = append(taken, c == 'y')
	}
	return taken
}

// everyBucket are all valid buckets whose Rate and Burst are small, and those around the limits.
func everyBucket() []impl.Bucket {
	var list []impl.Bucket
	for _, rate := range []int{0, 1, 2, 3, 4, 5, 7, 19, 20, 21, 50, 99, 100} {
		for _, burst := range []int{1, 2, 3, 4, 5, 6, 19, 20, 21, 99, 100} {
			for have := range burst + 1 {
				list = append(list, bucket(rate, burst, have))
			}
		}
	}
	return list
}

// invalidBuckets are buckets with at least one field that is not in its range.
func invalidBuckets() []impl.Bucket {
	list := []impl.Bucket{
		{}, {Rate: 1}, {Rate: 1, Have: 1}, {Have: 1}, {Rate: 100, Burst: 0, Have: 0},
		bucket(-1, 3, 2), bucket(101, 3, 2), bucket(1, 0, 0), bucket(1, -1, 0), bucket(1, -1, -1), bucket(1, 101, 2), bucket(1, 101, 101),
		bucket(1, 3, -1), bucket(1, 3, 4), bucket(1, 100, 101), bucket(0, 1, 2), bucket(-1, 0, -1), bucket(101, 101, 102), bucket(1, -3, -5),
	}
	for _, n := range append(farNumbers(), -2, -100) {
		if n > mostRate || n < 0 {
			list = append(list, bucket(n, 3, 2), bucket(1, n, 2), bucket(1, n, 0), bucket(1, n, n), bucket(1, 3, n), bucket(n, n, n))
		}
	}
	return list
}

func TestBucketOkOfKnownBuckets(t *testing.T) {
	for _, known := range []struct {
		b    impl.Bucket
		want bool
	}{
		{bucket(1, 3, 3), true},
		{bucket(1, 3, 0), true},
		{bucket(1, 3, 1), true},
		// Rate.
		{bucket(-1, 3, 1), false},
		{bucket(0, 3, 1), true},
		{bucket(100, 3, 1), true},
		{bucket(101, 3, 1), false},
		// Burst.
		{bucket(1, 0, 0), false},
		{bucket(1, 1, 0), true},
		{bucket(1, 100, 0), true},
		{bucket(1, 101, 0), false},
		{bucket(1, -1, 0), false},
		// Have.
		{bucket(1, 7, -1), false},
		{bucket(1, 7, 0), true},
		{bucket(1, 7, 7), true},
		{bucket(1, 7, 8), false},
		{bucket(1, 1, 1), true},
		{bucket(1, 1, 2), false},
		{bucket(1, 100, 100), true},
		{bucket(1, 100, 101), false},
		// All at their limits, and the zero bucket.
		{bucket(0, 1, 0), true},
		{bucket(100, 100, 100), true},
		{bucket(101, 101, 101), false},
		{impl.Bucket{}, false},
	} {
		wantBucketOk(t, known.b, known.want)
	}
}

func TestBucketOkOfEveryBucket(t *testing.T) {
	for rate := -2; rate <= 103; rate++ {
		for burst := -2; burst <= 103; burst++ {
			for have := -2; have <= 103; have++ {
				b := bucket(rate, burst, have)
				want := rate >= 0 && rate <= 100 && burst >= 1 && burst <= 100 && have >= 0 && have <= burst
				if impl.BucketOk(b) != want {
					t.Fatalf("BucketOk(%v) is not %v", b, want)
				}
			}
		}
	}
	for _, b := range everyBucket() {
		wantBucketOk(t, b, true)
	}
	for _, b := range invalidBuckets() {
		wantBucketOk(t, b, false)
	}
}

func TestBucketNew(t *testing.T) {
	for _, rate := range []int{-1, 0, 1, 2, 99, 100, 101} {
		for _, burst := range []int{-1, 0, 1, 2, 99, 100, 101} {
			wantBucketNew(t, rate, burst, rate != -1 && rate != 101 && burst > 0 && burst != 101)
		}
	}
	// What the later chapters use.
	if b, ok := impl.BucketNew(1, 3); b != bucket(1, 3, 3) || !ok {
		t.Error("BucketNew(1, 3)", b, ok)
	}
	if b, ok := impl.BucketNew(3, 1); b != bucket(3, 1, 1) || !ok {
		t.Error("BucketNew(3, 1)", b, ok)
	}
	for rate := -3; rate <= 104; rate++ {
		for burst := -3; burst <= 104; burst++ {
			wantBucketNew(t, rate, burst, tableBucketOk(bucket(rate, burst, 0)))
		}
	}
	for _, n := range farNumbers() {
		wantBucketNew(t, n, 3, n == 100)
		wantBucketNew(t, 1, n, n == 100)
		wantBucketNew(t, n, n, n == 100)
	}
}

func TestTakeOneOfKnownBuckets(t *testing.T) {
	wantTakeOne(t, bucket(1, 3, 0), bucket(1, 3, 0), false)
	wantTakeOne(t, bucket(1, 3, 1), bucket(1, 3, 0), true)
	wantTakeOne(t, bucket(1, 3, 2), bucket(1, 3, 1), true)
	wantTakeOne(t, bucket(1, 3, 3), bucket(1, 3, 2), true)
	wantTakeOne(t, bucket(0, 1, 0), bucket(0, 1, 0), false)
	wantTakeOne(t, bucket(0, 1, 1), bucket(0, 1, 0), true)
	wantTakeOne(t, bucket(100, 100, 0), bucket(100, 100, 0), false)
	wantTakeOne(t, bucket(100, 100, 1), bucket(100, 100, 0), true)
	wantTakeOne(t, bucket(100, 100, 100), bucket(100, 100, 99), true)
	// Buckets that are not valid stay as they are, and give nothing.
	wantTakeOne(t, bucket(1, 3, 4), bucket(1, 3, 4), false)
	wantTakeOne(t, bucket(1, 3, -1), bucket(1, 3, -1), false)
	wantTakeOne(t, bucket(101, 3, 2), bucket(101, 3, 2), false)
	wantTakeOne(t, bucket(-1, 3, 2), bucket(-1, 3, 2), false)
	wantTakeOne(t, bucket(1, 0, 0), bucket(1, 0, 0), false)
	wantTakeOne(t, bucket(1, 101, 2), bucket(1, 101, 2), false)
	wantTakeOne(t, impl.Bucket{}, impl.Bucket{}, false)
}

// A bucket that is not filled gives all that it has, one after the other, and then nothing.
func TestTakeOneUntilEmpty(t *testing.T) {
	for _, first := range everyBucket() {
		b := first
		for left := first.Have - 1; left >= 0; left-- {
			wantTakeOne(t, b, bucket(first.Rate, first.Burst, left), true)
			b, _ = impl.TakeOne(b)
		}
		wantTakeOne(t, b, bucket(first.Rate, first.Burst, 0), false)
	}
}

func TestFilledOfKnownBuckets(t *testing.T) {
	for _, known := range []struct {
		b     impl.Bucket
		ticks int
		have  int
	}{
		// No ticks, and one.
		{bucket(1, 3, 0), 0, 0},
		{bucket(1, 3, 2), 0, 2},
		{bucket(100, 100, 5), 0, 5},
		{bucket(1, 3, 0), 1, 1},
		{bucket(1, 3, 1), 1, 2},
		{bucket(2, 9, 3), 1, 5},
		{bucket(100, 100, 0), 1, 100},
		{bucket(99, 100, 0), 1, 99},
		{bucket(99, 100, 1), 1, 100},
		{bucket(99, 100, 2), 1, 100},
		{bucket(100, 1, 0), 1, 1},
		// The ticks that fill the bucket just, one fewer and one more.
		{bucket(1, 100, 0), 99, 99},
		{bucket(1, 100, 0), 100, 100},
		{bucket(1, 100, 0), 101, 100},
		{bucket(1, 100, 40), 59, 99},
		{bucket(1, 100, 40), 60, 100},
		{bucket(1, 100, 40), 61, 100},
		{bucket(5, 20, 0), 3, 15},
		{bucket(5, 20, 0), 4, 20},
		{bucket(5, 20, 0), 5, 20},
		{bucket(7, 20, 1), 2, 15},
		{bucket(7, 20, 1), 3, 20},
		// A full and an empty bucket.
		{bucket(1, 3, 3), 1, 3},
		{bucket(1, 3, 3), 0, 3},
		{bucket(1, 3, 3), mostTicks, 3},
		{bucket(1, 3, 0), 2, 2},
		{bucket(1, 3, 0), 3, 3},
		{bucket(1, 1, 0), 1, 1},
		{bucket(1, 1, 1), 1, 1},
		// A Rate of 0 adds nothing, however long the pause.
		{bucket(0, 3, 0), 1, 0},
		{bucket(0, 3, 2), 100, 2},
		{bucket(0, 3, 0), mostTicks, 0},
		{bucket(0, 100, 99), mostTicks, 99},
		{bucket(0, 3, 3), mostTicks, 3},
		// A long pause fills the bucket, and no more.
		{bucket(1, 3, 0), 1000000, 3},
		{bucket(1, 100, 0), 1 << 20, 100},
		{bucket(1, 3, 0), mostTicks - 1, 3},
		{bucket(1, 3, 0), mostTicks, 3},
		{bucket(1, 100, 0), mostTicks, 100},
		{bucket(100, 100, 0), mostTicks, 100},
		{bucket(100, 1, 0), mostTicks, 1},
		// A number of ticks that is not in the range changes nothing.
		{bucket(1, 3, 0), mostTicks + 1, 0},
		{bucket(100, 100, 7), mostTicks + 1, 7},
		{bucket(1, 3, 1), -1, 1},
		{bucket(1, 3, 3), -1, 3},
		{bucket(100, 100, 100), -1, 100},
		{bucket(1, 3, 2), -mostTicks, 2},
		{bucket(1, 3, 2), math.MinInt, 2},
		{bucket(1, 3, 2), math.MaxInt, 2},
		{bucket(2, 100, 2), math.MaxInt/2 + 3, 2},
		{bucket(100, 100, 0), math.MaxInt / 100, 0},
		{bucket(16, 100, 0), 1 << 60, 0},
		{bucket(1, 100, 0), 1<<32 + 5, 0},
		{bucket(0, 3, 1), -1, 1},
	} {
		wantFilled(t, known.b, known.ticks, bucket(known.b.Rate, known.b.Burst, known.have))
	}
}

func TestFilledOfEveryBucket(t *testing.T) {
	for _, b := range everyBucket() {
		for _, ticks := range []int{0, 1, 2, 3, 4, 5, 19, 20, 21, 49, 50, 99, 100, 101, 1000, mostTicks - 1, mostTicks} {
			wantFilled(t, b, ticks, tableFilled(b, ticks))
		}
		for _, ticks := range []int{mostTicks + 1, mostTicks + 2, 2 * mostTicks, 1 << 32, math.MaxInt, -1, -2, -100, -mostTicks, math.MinInt} {
			wantFilled(t, b, ticks, b)
		}
	}
	for _, b := range invalidBuckets() {
		for _, ticks := range []int{-1, 0, 1, 2, 3, 100, mostTicks, mostTicks + 1, math.MaxInt, math.MinInt} {
			wantFilled(t, b, ticks, b)
		}
	}
}

// The ticks that fill a bucket just, one fewer and one more, for each Rate and each number of tokens that it lacks.
func TestFilledJust(t *testing.T) {
	for rate := 1; rate <= mostRate; rate++ {
		for lack := 0; lack <= mostBurst; lack++ {
			b := bucket(rate, mostBurst, mostBurst-lack)
			// The division is rounded up: a bucket that lacks one token needs one tick.
			just := (lack + rate - 1) / rate
			wantFilled(t, b, just, bucket(rate, mostBurst, mostBurst))
			wantFilled(t, b, just+1, bucket(rate, mostBurst, mostBurst))
			if just > 0 {
				wantFilled(t, b, just-1, bucket(rate, mostBurst, mostBurst-lack+rate*(just-1)))
			}
		}
	}
}

// Two pauses fill a bucket as one does that is as long as both.
func TestPausesAdd(t *testing.T) {
	for _, b := range everyBucket() {
		for one := range 8 {
			for two := range 8 {
				wantFilled(t, impl.Filled(b, one), two, impl.Filled(b, one+two))
			}
		}
		wantFilled(t, impl.Filled(b, mostTicks), 5, impl.Filled(b, mostTicks))
	}
}

func TestRunBucketOfKnownAsks(t *testing.T) {
	for _, known := range []struct {
		b    impl.Bucket
		asks []int
		want string
	}{
		// No asks, and asks of nothing.
		{bucket(1, 3, 3), nil, ""},
		{bucket(1, 3, 3), []int{}, ""},
		{bucket(1, 3, 3), []int{0}, ""},
		{bucket(1, 3, 3), []int{-1}, ""},
		{bucket(1, 3, 3), []int{-5, 0, math.MinInt}, ""},
		// The bucket is filled first, and then asked.
		{bucket(1, 2, 2), []int{4, 0, 2}, "yynnyy"},
		{bucket(1, 3, 0), []int{1}, "y"},
		{bucket(1, 3, 0), []int{2}, "yn"},
		{bucket(1, 3, 2), []int{3}, "yyy"},
		{bucket(1, 3, 3), []int{4}, "yyyn"},
		{bucket(0, 3, 0), []int{1}, "n"},
		{bucket(100, 3, 0), []int{4}, "yyyn"},
		// An ask of nothing, or of a negative number, is a tick too.
		{bucket(1, 3, 0), []int{0, 0, 3}, "yyy"},
		{bucket(1, 3, 0), []int{-1, -7, 3}, "yyy"},
		{bucket(1, 3, 0), []int{0, 3}, "yyn"},
		{bucket(1, 3, 3), []int{3, 0, 0, 0, 0, 4}, "yyyyyyn"},
		{bucket(1, 3, 1), []int{-1, 4}, "yyyn"},
		// More than Have.
		{bucket(1, 3, 3), []int{5, 1, 1, 2}, "yyynnyyyn"},
		{bucket(1, 3, 1), []int{5, 5}, "yynnnynnnn"},
		{bucket(0, 3, 2), []int{1, 1, 1, 1}, "yynn"},
		{bucket(0, 3, 2), []int{5}, "yynnn"},
		{bucket(2, 3, 3), []int{3, 3, 3}, "yyyyynyyn"},
		{bucket(3, 2, 0), []int{3, 3}, "yynyyn"},
		// 20, and more than 20.
		{bucket(0, 30, 30), []int{19}, "yyyyyyyyyyyyyyyyyyy"},
		{bucket(0, 30, 30), []int{20}, "yyyyyyyyyyyyyyyyyyyy"},
		{bucket(0, 30, 30), []int{21}, "yyyyyyyyyyyyyyyyyyyy"},
		{bucket(0, 30, 30), []int{21, 21}, "yyyyyyyyyyyyyyyyyyyyyyyyyyyyyynnnnnnnnnn"},
		{bucket(0, 5, 5), []int{20}, "yyyyynnnnnnnnnnnnnnn"},
		{bucket(0, 5, 5), []int{22}, "yyyyynnnnnnnnnnnnnnn"},
		{bucket(0, 1, 0), []int{math.MaxInt}, "nnnnnnnnnnnnnnnnnnnn"},
		{bucket(0, 1, 1), []int{1000000, 1}, "ynnnnnnnnnnnnnnnnnnnn"},
		{bucket(0, 1, 1), []int{1<<32 + 1, 1}, "ynnnnnnnnnnnnnnnnnnnn"},
		// The bucket is not valid.
		{bucket(1, 3, 4), []int{1, 2}, ""},
		{bucket(1, 3, -1), []int{1, 2}, ""},
		{bucket(101, 3, 3), []int{1, 2}, ""},
		{bucket(-1, 3, 3), []int{1, 2}, ""},
		{bucket(1, 0, 0), []int{1, 2}, ""},
		{impl.Bucket{}, []int{1}, ""},
	} {
		wantRun(t, known.b, known.asks, results(known.want)...)
	}
}

// 200 elements are simulated, and 201 are not.
func TestRunBucketOfEveryNumberOfAsks(t *testing.T) {
	for many := range 420 {
		ones, zeros, full := slices.Repeat([]int{1}, many), make([]int, many), slices.Repeat([]int{25}, many)
		if many > mostAsks {
			wantRun(t, bucket(1, 3, 3), ones)
			wantRun(t, bucket(1, 3, 3), zeros)
			wantRun(t, bucket(100, 100, 0), full)
			continue
		}
		wantRun(t, bucket(1, 3, 3), ones, slices.Repeat([]bool{true}, many)...)
		wantRun(t, bucket(0, 1, 0), ones, make([]bool, many)...)
		wantRun(t, bucket(1, 3, 3), zeros)
		wantRun(t, bucket(100, 100, 0), full, slices.Repeat([]bool{true}, 20*many)...)
	}
	for _, many := range []int{456, 457, 512, 1000, 5000} {
		wantRun(t, bucket(1, 3, 3), slices.Repeat([]int{1}, many))
	}
	// The last of 200 elements counts.
	late := append(make([]int, 199), 4)
	wantRun(t, bucket(1, 3, 0), late, true, true, true, false)
	wantRun(t, bucket(1, 3, 0), append(late, 1))
}

// All lists of up to four small asks.
func TestRunBucketOfAllSmallLists(t *testing.T) {
	lists := [][]int{nil}
	for i := 0; i < len(lists); i++ {
		for _, ask := range []int{-1, 0, 1, 2, 5} {
			if len(lists[i]) < 4 {
				lists = append(lists, append(slices.Clone(lists[i]), ask))
			}
		}
	}
	for _, asks := range lists {
		for rate := range 4 {
			for burst := 1; burst <= 4; burst++ {
				for have := range burst + 1 {
					b := bucket(rate, burst, have)
					wantRun(t, b, asks, tableRun(b, asks)...)
				}
			}
		}
	}
}

// anyBucket returns a random valid bucket.
func anyBucket(r *rand.Rand) impl.Bucket {
	limits := [][2]int{{3, 4}, {6, 30}, {101, 100}}[r.Intn(3)]
	burst := 1 + r.Intn(limits[1])
	return bucket(r.Intn(limits[0]), burst, r.Intn(burst+1))
}

// anyAsks returns a random list of up to most asks.
func anyAsks(r *rand.Rand, most int) []int {
	asks := make([]int, r.Intn(most+1))
	widest := []int{3, 8, 30}[r.Intn(3)]
	for i := range asks {
		asks[i] = r.Intn(widest) - 1
	}
	return asks
}

// RunBucket gives what the functions that it is made of give, one call after the other.
func TestRunBucketOfRandomAsks(t *testing.T) {
	random := rand.New(rand.NewSource(13))
	for range 3000 {
		b, asks := anyBucket(random), anyAsks(random, 202)
		want := tableRun(b, asks)
		wantRun(t, b, asks, want...)
		var taken []bool
		for _, ask := range asks {
			b = impl.Filled(b, 1)
			for range min(ask, mostTakes) {
				after, ok := impl.TakeOne(b)
				b, taken = after, append(taken, ok)
			}
		}
		if len(asks) <= mostAsks && !slices.Equal(taken, want) {
			t.Errorf("the calls give %v, not %v, for %v", taken, want, asks)
		}
	}
}

func TestMostInOfKnownBuckets(t *testing.T) {
	for _, known := range []struct {
		b     impl.Bucket
		ticks int
		want  int
	}{
		{bucket(1, 2, 2), 3, 5},
		{bucket(1, 3, 3), 0, 3},
		{bucket(1, 3, 3), 1, 4},
		{bucket(1, 3, 3), 20, 23},
		{bucket(4, 7, 7), 5, 27},
		// The tokens that the bucket has do not count.
		{bucket(1, 3, 0), 0, 3},
		{bucket(4, 7, 0), 5, 27},
		{bucket(4, 7, 3), 5, 27},
		// More than Burst for each tick is counted, although no bucket can hold it.
		{bucket(100, 1, 1), 2, 201},
		// A Rate of 0.
		{bucket(0, 3, 3), 0, 3},
		{bucket(0, 3, 0), 1, 3},
		{bucket(0, 100, 100), mostPeriod, 100},
		{bucket(0, 1, 0), mostPeriod + 1, 0},
		// 100000 ticks, one more, and a negative number.
		{bucket(1, 3, 3), 99999, 100002},
		{bucket(1, 3, 3), mostPeriod, 100003},
		{bucket(1, 3, 3), mostPeriod + 1, 0},
		{bucket(100, 100, 0), mostPeriod, 10000100},
		{bucket(100, 100, 0), mostPeriod + 1, 0},
		{bucket(1, 3, 3), -1, 0},
		{bucket(0, 3, 3), -1, 0},
		{bucket(1, 3, 3), -2, 0},
		{bucket(1, 3, 3), mostTicks, 0},
		{bucket(1, 3, 3), math.MaxInt, 0},
		{bucket(1, 3, 3), math.MinInt, 0},
		{bucket(1, 3, 3), 1 << 32, 0},
		// The bucket is not valid.
		{bucket(101, 3, 3), 1, 0},
		{bucket(-1, 3, 3), 1, 0},
		{bucket(1, 0, 0), 1, 0},
		{bucket(1, 101, 3), 1, 0},
		{bucket(1, 3, 4), 1, 0},
		{bucket(1, 3, -1), 1, 0},
		{impl.Bucket{}, 0, 0},
	} {
		wantMostIn(t, known.b, known.ticks, known.want)
	}
}

func TestMostInOfEveryBucket(t *testing.T) {
	for _, b := range everyBucket() {
		most := b.Burst
		for ticks := range 130 {
			wantMostIn(t, b, ticks, most)
			most += b.Rate
		}
		wantMostIn(t, b, mostPeriod-1, b.Burst+99999*b.Rate)
		wantMostIn(t, b, mostPeriod, b.Burst+100000*b.Rate)
		for _, ticks := range []int{-1, -2, -100, math.MinInt, mostPeriod + 1, mostPeriod + 2, 2 * mostPeriod, mostTicks, 1 << 32, math.MaxInt} {
			wantMostIn(t, b, ticks, 0)
		}
	}
}

// takenBefore returns how many tokens RunBucket has given before each tick, and after the last one.
func takenBefore(b impl.Bucket, asks []int) []int {
	before := []int{}
	for ticks := range len(asks) + 1 {
		before = append(before, countTrue(impl.RunBucket(b, asks[:ticks])))
	}
	return before
}

// Promise 13: no period of ticks contains more tokens than MostIn permits, whatever is asked.
func TestNoPeriodHasMoreThanTheBucketPermits(t *testing.T) {
	random := rand.New(rand.NewSource(131))
	for range 400 {
		b, asks := anyBucket(random), anyAsks(random, 40)
		before := takenBefore(b, asks)
		for from := range before {
			for to := from; to < len(before); to++ {
				if taken := before[to] - before[from]; taken > impl.MostIn(b, to-from) {
					t.Fatalf("%d tokens of %v from tick %d to %d, asked %v", taken, b, from, to, asks)
				}
			}
		}
	}
}

// Promise 13 for calls in any order, with pauses of any length, also very long ones.
func TestNoPeriodWithPausesHasMoreThanTheBucketPermits(t *testing.T) {
	random := rand.New(rand.NewSource(132))
	type answer struct{ at, many int }
	for range 300 {
		b := anyBucket(random)
		now, many := 0, 0
		answers := []answer{{}}
		for range 60 {
			pause := []int{0, 0, 1, 1, 2, 5, 1000, 1500}[random.Intn(8)]
			now, b = now+pause, impl.Filled(b, pause)
			for range random.Intn(2 * b.Burst) {
				after, ok := impl.TakeOne(b)
				if b = after; ok {
					many++
				}
			}
			answers = append(answers, answer{now, many})
		}
		for i, from := range answers {
			for _, to := range answers[i:] {
				if to.many-from.many > impl.MostIn(b, to.at-from.at) {
					t.Fatalf("%d tokens of %v from tick %d to %d", to.many-from.many, b, from.at, to.at)
				}
			}
		}
	}
}

// After a pause, however long, a bucket gives no more than Burst at once; and buckets that are emptied in each tick give all that MostIn permits.
func TestBucketGivesWhatItPermits(t *testing.T) {
	for _, first := range everyBucket() {
		b := impl.Filled(first, mostTicks)
		many := 0
		for range 2 * mostBurst {
			after, ok := impl.TakeOne(b)
			if b = after; ok {
				many++
			}
		}
		want := first.Burst
		if first.Rate == 0 {
			want = first.Have
		}
		if many != want {
			t.Errorf("%v gives %d tokens after a long pause", first, many)
		}
	}
	for _, b := range []impl.Bucket{bucket(1, 3, 3), bucket(0, 5, 5), bucket(5, 5, 5), bucket(20, 20, 20)} {
		// One tick takes all that the bucket has; the next ones take what is added in each.
		asks := slices.Repeat([]int{20}, 50)
		for ticks := 1; ticks <= 50; ticks++ {
			if got := countTrue(impl.RunBucket(b, asks[:ticks])); got != impl.MostIn(b, ticks-1) {
				t.Errorf("%v gives %d tokens in %d ticks", b, got, ticks)
			}
		}
	}
}

// Each result of RunBucket belongs to the caller alone, and the argument is not kept.
func TestTokensAreNewMemory(t *testing.T) {
	for _, asks := range [][]int{nil, {0}, {4, 0, 2}, {20, 20}, slices.Repeat([]int{2}, 200), make([]int, 201)} {
		b, given := bucket(1, 3, 3), withSpare(asks, 8, 9)
		first, second := impl.RunBucket(b, given), impl.RunBucket(b, given)
		want := slices.Clone(second)
		if sharesElements(first, second) || sharesElements(first, given) || sharesElements(second, given) {
			t.Errorf("the results of RunBucket of %v share memory", asks)
		}
		for i := range first[:cap(first)] {
			first[:cap(first)][i] = !first[:cap(first)][i]
		}
		for i := range given[:cap(given)] {
			given[:cap(given)][i] = 7
		}
		if !slices.Equal(second, want) || !slices.Equal(impl.RunBucket(b, asks), want) {
			t.Errorf("RunBucket of %v is changed to %v", asks, second)
		}
	}
}
