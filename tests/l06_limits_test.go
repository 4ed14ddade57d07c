package tests

import (
	"fmt"
	"math"
	"math/rand"
	"regexp"
	"slices"
	"strings"
	"testing"

	"loop.example/g01202/impl"
)

func bucket(size, every, left, at int64) impl.Bucket {
	return impl.Bucket{Size: size, Every: every, Left: left, At: at}
}

func strike(member, kind, at int64) impl.Strike {
	return impl.Strike{Member: member, Kind: kind, At: at}
}

// notSpans are no numbers of ticks that are at least one.
func notSpans() []int64 { return append(notTicks(), 0) }

// badBuckets are buckets that are not valid, each in one way.
func badBuckets() map[string]impl.Bucket {
	return map[string]impl.Bucket{
		"the empty bucket": {}, "Size 0": bucket(0, 10, 0, 5), "Size -1": bucket(-1, 10, -1, 5), "Size 1001": bucket(1001, 10, 2, 5), "the greatest Size": bucket(math.MaxInt64, 10, 2, 5),
		"Every 0": bucket(3, 0, 2, 5), "Every -1": bucket(3, -1, 2, 5), "Every too great": bucket(3, impl.MaxTick+1, 2, 5), "the least Every": bucket(3, math.MinInt64, 2, 5),
		"the greatest Every": bucket(3, math.MaxInt64, 2, 5), "Left -1": bucket(3, 10, -1, 5), "Left above Size": bucket(3, 10, 4, 5), "the least Left": bucket(3, 10, math.MinInt64, 5),
		"the greatest Left": bucket(3, 10, math.MaxInt64, 5), "At -1": bucket(3, 10, 2, -1), "At too great": bucket(3, 10, 2, impl.MaxTick+1), "the least At": bucket(3, 10, 2, math.MinInt64),
		"the greatest At": bucket(3, 10, 2, math.MaxInt64),
	}
}

// throughText writes an x for what is let through, and a point for what is not.
func throughText(through []bool) string {
	var text strings.Builder
	for _, did := range through {
		if did {
			text.WriteByte('x')
		} else {
			text.WriteByte('.')
		}
	}
	return text.String()
}

// notTimes are lists of ticks of which no calls can be made from 5 on.
func notTimes() map[string][]int64 {
	bad := map[string][]int64{
		"ticks that go back": {5, 7, 6}, "a tick that goes back at once": {6, 5}, "a tick that goes back at the end": {5, 6, 7, 8, 9, 10, 9}, "257 ticks": slices.Repeat([]int64{9}, impl.MaxCalls+1),
		"20000 ticks": slices.Repeat([]int64{9}, 20000),
	}
	for _, n := range notTicks() {
		bad[fmt.Sprint("the tick ", n)] = []int64{n}
		if n > 0 {
			bad[fmt.Sprint("the tick ", n, " at the end")] = []int64{5, 6, n}
		} else {
			bad[fmt.Sprint("the tick ", n, " at the beginning")] = []int64{n, 5, 6}
		}
	}
	return bad
}

// The examples of chapter 6.
func TestExamplesOfLimits(t *testing.T) {
	b, ok := impl.NewBucket(2, 10, 0)
	isValue(t, "a new bucket", b, ok, bucket(2, 10, 2, 0))
	end, through, ok := impl.RunBucket(b, []int64{0, 0, 9, 10})
	isList(t, "two at 0, none at 9 and one at 10", through, ok, true, true, false, true)
	isValue(t, "the bucket behind them", end, ok, bucket(2, 10, 0, 10))
	_, through, ok = impl.RunBucket(b, []int64{0, 0, 0, 9, 9, 10, 10})
	isValue(t, "no more than these", throughText(through), ok, "xx...x.")
	text, ok := impl.CensorText("A bad dog", []string{"bad"})
	isValue(t, "a censored text", text, ok, "A b** dog")
}

func TestConstantsOfLimits(t *testing.T) {
	isList(t, "limits", []int64{impl.MaxWords, impl.MaxStrikes, impl.MaxCalls}, true, 64, 64, 256)
	isList(t, "kinds", []int64{impl.StrikeWord, impl.StrikeFlood, impl.StrikeTaken}, true, 0, 1, 2)
}

func TestValidBucket(t *testing.T) {
	for name, b := range map[string]impl.Bucket{
		"some drops": bucket(3, 10, 2, 5), "no drops": bucket(3, 10, 0, 5), "full": bucket(3, 10, 3, 5), "the least one": bucket(1, 1, 0, 0), "the least full one": bucket(1, 1, 1, 0),
		"the greatest one": bucket(1000, impl.MaxTick, 1000, impl.MaxTick), "the greatest one without drops": bucket(1000, impl.MaxTick, 0, impl.MaxTick),
	} {
		isBool(t, name, impl.ValidBucket(b), true)
	}
	for name, b := range badBuckets() {
		isBool(t, name, impl.ValidBucket(b), false)
	}
}

func TestNewBucket(t *testing.T) {
	for _, c := range [][3]int64{{1, 1, 0}, {2, 10, 7}, {1000, impl.MaxTick, impl.MaxTick}, {1, impl.MaxTick, 0}, {1000, 1, impl.MaxTick}} {
		b, ok := impl.NewBucket(c[0], c[1], c[2])
		isValue(t, fmt.Sprint(c), b, ok, bucket(c[0], c[1], c[0], c[2]))
	}
	for _, size := range []int64{0, -1, 1001, math.MinInt64, math.MaxInt64} {
		b, ok := impl.NewBucket(size, 10, 5)
		isNothing(t, fmt.Sprint("the size ", size), b, ok)
	}
	for _, every := range notSpans() {
		b, ok := impl.NewBucket(3, every, 5)
		isNothing(t, fmt.Sprint("every ", every), b, ok)
	}
	for _, at := range notTicks() {
		b, ok := impl.NewBucket(3, 10, at)
		isNothing(t, fmt.Sprint("at ", at), b, ok)
	}
}

func TestLeftAt(t *testing.T) {
	for _, c := range []struct {
		b        impl.Bucket
		at, want int64
	}{
		// A drop comes at 17, 27 and 37; then the bucket is full.
		{bucket(3, 10, 0, 7), 7, 0}, {bucket(3, 10, 0, 7), 16, 0}, {bucket(3, 10, 0, 7), 17, 1}, {bucket(3, 10, 0, 7), 18, 1}, {bucket(3, 10, 0, 7), 26, 1}, {bucket(3, 10, 0, 7), 27, 2},
		{bucket(3, 10, 0, 7), 36, 2}, {bucket(3, 10, 0, 7), 37, 3}, {bucket(3, 10, 0, 7), 46, 3}, {bucket(3, 10, 0, 7), 47, 3}, {bucket(3, 10, 0, 7), impl.MaxTick, 3},
		{bucket(3, 10, 2, 7), 7, 2}, {bucket(3, 10, 2, 7), 16, 2}, {bucket(3, 10, 2, 7), 17, 3}, {bucket(3, 10, 2, 7), 27, 3},
		{bucket(3, 10, 3, 7), 7, 3}, {bucket(3, 10, 3, 7), 16, 3}, {bucket(3, 10, 3, 7), 17, 3}, {bucket(3, 10, 3, 7), impl.MaxTick, 3},
		{bucket(1, 1, 0, 0), 0, 0}, {bucket(1, 1, 0, 0), 1, 1}, {bucket(1, 1, 0, 0), 2, 1}, {bucket(1, 5, 1, 3), 3, 1}, {bucket(1, 5, 1, 3), 8, 1},
		{bucket(1000, 1, 0, 0), 999, 999}, {bucket(1000, 1, 0, 0), 1000, 1000}, {bucket(1000, 1, 0, 0), 1001, 1000}, {bucket(1000, 1000, 0, 0), impl.MaxTick, 1000},
		{bucket(1000, 1001, 0, 0), impl.MaxTick, 999}, {bucket(1000, impl.MaxTick, 0, 0), impl.MaxTick - 1, 0}, {bucket(1000, impl.MaxTick, 0, 0), impl.MaxTick, 1},
		{bucket(1000, impl.MaxTick, 999, impl.MaxTick), impl.MaxTick, 999}, {bucket(5, impl.MaxTick, 2, 1), impl.MaxTick, 2},
	} {
		left, ok := impl.LeftAt(c.b, c.at)
		isValue(t, fmt.Sprint(c.b, " at ", c.at), left, ok, c.want)
	}
	for _, at := range append(notTicks(), 0, 6) {
		left, ok := impl.LeftAt(bucket(3, 10, 2, 7), at)
		isNothing(t, fmt.Sprint("at ", at), left, ok)
	}
	for name, b := range badBuckets() {
		for _, at := range []int64{5, 100, impl.MaxTick} {
			left, ok := impl.LeftAt(b, at)
			isNothing(t, name, left, ok)
		}
	}
}

func TestTakeBucket(t *testing.T) {
	for _, c := range []struct {
		b         impl.Bucket
		count, at int64
		want      impl.Bucket
	}{
		// Drops come at 17, 27 and 37.
		{bucket(3, 10, 1, 7), 1, 7, bucket(3, 10, 0, 7)}, {bucket(3, 10, 1, 7), 1, 16, bucket(3, 10, 0, 7)}, {bucket(3, 10, 0, 7), 1, 17, bucket(3, 10, 0, 17)},
		{bucket(3, 10, 0, 7), 1, 18, bucket(3, 10, 0, 17)}, {bucket(3, 10, 0, 7), 1, 26, bucket(3, 10, 0, 17)}, {bucket(3, 10, 0, 7), 1, 27, bucket(3, 10, 1, 27)},
		{bucket(3, 10, 0, 7), 2, 36, bucket(3, 10, 0, 27)}, {bucket(3, 10, 1, 7), 2, 19, bucket(3, 10, 0, 17)},
		// It becomes full at 37: then At is the tick itself, also where no drop would come.
		{bucket(3, 10, 0, 7), 1, 37, bucket(3, 10, 2, 37)}, {bucket(3, 10, 0, 7), 1, 38, bucket(3, 10, 2, 38)}, {bucket(3, 10, 0, 7), 3, 46, bucket(3, 10, 0, 46)},
		{bucket(3, 10, 0, 7), 3, 47, bucket(3, 10, 0, 47)}, {bucket(3, 10, 0, 7), 2, 1234, bucket(3, 10, 1, 1234)}, {bucket(3, 10, 2, 7), 1, 16, bucket(3, 10, 1, 7)},
		{bucket(3, 10, 2, 7), 1, 17, bucket(3, 10, 2, 17)}, {bucket(3, 10, 2, 7), 1, 18, bucket(3, 10, 2, 18)},
		// It is full before and behind.
		{bucket(3, 10, 3, 7), 1, 7, bucket(3, 10, 2, 7)}, {bucket(3, 10, 3, 7), 1, 12, bucket(3, 10, 2, 12)}, {bucket(3, 10, 3, 7), 3, 17, bucket(3, 10, 0, 17)}, {bucket(3, 10, 3, 7), 2, 19, bucket(3, 10, 1, 19)},
		{bucket(1, 5, 1, 3), 1, 4, bucket(1, 5, 0, 4)}, {bucket(1, 5, 0, 4), 1, 9, bucket(1, 5, 0, 9)}, {bucket(1, 5, 0, 4), 1, 11, bucket(1, 5, 0, 11)}, {bucket(1, 1, 0, 0), 1, 1, bucket(1, 1, 0, 1)},
		{bucket(1000, 1, 0, 0), 999, 999, bucket(1000, 1, 0, 999)}, {bucket(1000, 3, 0, 0), 999, 2999, bucket(1000, 3, 0, 2997)}, {bucket(1000, 3, 0, 0), 1000, 3002, bucket(1000, 3, 0, 3002)},
		{bucket(1000, impl.MaxTick, 1000, impl.MaxTick), 1000, impl.MaxTick, bucket(1000, impl.MaxTick, 0, impl.MaxTick)},
		{bucket(1000, impl.MaxTick, 5, 0), 6, impl.MaxTick, bucket(1000, impl.MaxTick, 0, impl.MaxTick)}, {bucket(1000, impl.MaxTick, 5, 9), 5, impl.MaxTick, bucket(1000, impl.MaxTick, 0, 9)},
	} {
		b, did, ok := impl.TakeBucket(c.b, c.count, c.at)
		isValue(t, fmt.Sprint(c.count, " of ", c.b, " at ", c.at), b, ok, c.want)
		isBool(t, fmt.Sprint(c.count, " of ", c.b, " at ", c.at, ": taken"), did, true)
	}
}

func TestDropsThatAreNotThere(t *testing.T) {
	for _, c := range []struct {
		b         impl.Bucket
		count, at int64
	}{
		{bucket(3, 10, 0, 7), 1, 7}, {bucket(3, 10, 0, 7), 1, 16}, {bucket(3, 10, 0, 7), 2, 17}, {bucket(3, 10, 0, 7), 2, 26}, {bucket(3, 10, 0, 7), 3, 36}, {bucket(3, 10, 2, 7), 3, 7},
		{bucket(3, 10, 2, 7), 3, 16}, {bucket(1, 1, 0, 0), 1, 0}, {bucket(1, impl.MaxTick, 0, 1), 1, impl.MaxTick}, {bucket(1000, 1, 0, 0), 1000, 999}, {bucket(1000, impl.MaxTick, 999, 0), 1000, 5},
	} {
		b, did, ok := impl.TakeBucket(c.b, c.count, c.at)
		isValue(t, fmt.Sprint(c.count, " of ", c.b, " at ", c.at), b, ok, c.b)
		isBool(t, fmt.Sprint(c.count, " of ", c.b, " at ", c.at, ": taken"), did, false)
	}
}

// isNotTaken fails the test unless neither TakeBucket nor WaitFor takes these arguments.
func isNotTaken(t *testing.T, what string, b impl.Bucket, count, at int64) {
	t.Helper()
	after, did, ok := impl.TakeBucket(b, count, at)
	isNothing(t, what, after, ok)
	isBool(t, what+": taken", did, false)
	wait, ok := impl.WaitFor(b, count, at)
	isNothing(t, what+": the wait", wait, ok)
}

func TestDropsThatCannotBeAskedFor(t *testing.T) {
	for _, left := range []int64{0, 2, 3} {
		b := bucket(3, 10, left, 7)
		for _, count := range []int64{0, -1, 4, 1000, math.MinInt64, math.MaxInt64} {
			isNotTaken(t, fmt.Sprint(count, " of ", b), b, count, 50)
			isNotTaken(t, fmt.Sprint(count, " of ", b, " at once"), b, count, 7)
		}
		for _, at := range append(notTicks(), 0, 6) {
			isNotTaken(t, fmt.Sprint(b, " at ", at), b, 1, at)
		}
	}
	isNotTaken(t, "1001 of 1000", bucket(1000, 1, 1000, 0), 1001, 0)
	isNotTaken(t, "2 of 1", bucket(1, 1, 1, 0), 2, 9)
	for name, b := range badBuckets() {
		for _, at := range []int64{5, 100, impl.MaxTick} {
			isNotTaken(t, name, b, 1, at)
		}
	}
}

func TestWaitFor(t *testing.T) {
	for _, c := range []struct {
		b               impl.Bucket
		count, at, want int64
	}{
		{bucket(3, 10, 0, 7), 1, 7, 10}, {bucket(3, 10, 0, 7), 1, 8, 9}, {bucket(3, 10, 0, 7), 1, 16, 1}, {bucket(3, 10, 0, 7), 1, 17, 0}, {bucket(3, 10, 0, 7), 1, 18, 0}, {bucket(3, 10, 0, 7), 1, 500, 0},
		{bucket(3, 10, 0, 7), 2, 7, 20}, {bucket(3, 10, 0, 7), 2, 17, 10}, {bucket(3, 10, 0, 7), 2, 26, 1}, {bucket(3, 10, 0, 7), 2, 27, 0}, {bucket(3, 10, 0, 7), 3, 7, 30}, {bucket(3, 10, 0, 7), 3, 19, 18},
		{bucket(3, 10, 0, 7), 3, 37, 0}, {bucket(3, 10, 0, 7), 3, impl.MaxTick, 0}, {bucket(3, 10, 2, 7), 2, 7, 0}, {bucket(3, 10, 2, 7), 1, 7, 0}, {bucket(3, 10, 2, 7), 3, 7, 10},
		{bucket(3, 10, 3, 7), 3, 7, 0}, {bucket(3, 10, 3, 7), 3, 12, 0}, {bucket(1, 1, 0, 0), 1, 0, 1}, {bucket(1000, 1, 0, 0), 1000, 0, 1000}, {bucket(1000, 2, 1, 5), 1000, 6, 1997},
		// These end at the greatest tick.
		{bucket(1, 10, 0, impl.MaxTick-10), 1, impl.MaxTick - 10, 10}, {bucket(1, 10, 0, impl.MaxTick-10), 1, impl.MaxTick - 1, 1}, {bucket(1, 10, 0, impl.MaxTick-10), 1, impl.MaxTick, 0},
		{bucket(1, impl.MaxTick, 0, 0), 1, 0, impl.MaxTick}, {bucket(1000, 1000, 0, 0), 1000, 0, impl.MaxTick}, {bucket(1000, 1000, 0, 0), 1000, 5, impl.MaxTick - 5},
		{bucket(1000, impl.MaxTick, 1000, impl.MaxTick), 1000, impl.MaxTick, 0}, {bucket(9, impl.MaxTick, 4, impl.MaxTick), 4, impl.MaxTick, 0},
	} {
		wait, ok := impl.WaitFor(c.b, c.count, c.at)
		isValue(t, fmt.Sprint(c.count, " of ", c.b, " at ", c.at), wait, ok, c.want)
	}
	// These would end beyond it.
	for _, c := range []struct {
		b         impl.Bucket
		count, at int64
	}{
		{bucket(1, 10, 0, impl.MaxTick-9), 1, impl.MaxTick - 9}, {bucket(1, 10, 0, impl.MaxTick-9), 1, impl.MaxTick}, {bucket(3, 10, 0, impl.MaxTick-10), 2, impl.MaxTick}, {bucket(1, impl.MaxTick, 0, 1), 1, 1},
		{bucket(1000, 1000, 0, 1), 1000, 1}, {bucket(1000, 1001, 0, 0), 1000, 0}, {bucket(1000, impl.MaxTick, 0, 0), 2, 0}, {bucket(1000, impl.MaxTick, 0, impl.MaxTick), 1000, impl.MaxTick},
	} {
		wait, ok := impl.WaitFor(c.b, c.count, c.at)
		isNothing(t, fmt.Sprint(c.count, " of ", c.b, " at ", c.at), wait, ok)
	}
}

func TestRunBucket(t *testing.T) {
	for _, c := range []struct {
		b     impl.Bucket
		times []int64
		want  string
		end   impl.Bucket
	}{
		{bucket(2, 10, 2, 0), []int64{0, 0, 9, 10, 11}, "xx.x.", bucket(2, 10, 0, 10)},
		{bucket(2, 10, 0, 5), []int64{5, 14, 15, 15, 16, 24, 25}, "..x...x", bucket(2, 10, 0, 25)},
		// A bucket that is full has no drop on its way: the next one comes 10 ticks behind 13.
		{bucket(2, 10, 2, 0), []int64{13, 13, 20, 22, 23, 24}, "xx..x.", bucket(2, 10, 0, 23)},
		// One drop is there at 8: the next one comes at 10 nevertheless.
		{bucket(2, 10, 1, 0), []int64{8, 9, 10, 11}, "x.x.", bucket(2, 10, 0, 10)},
		{bucket(1, 1, 1, 0), []int64{0, 0, 1, 1, 2, 4, 4}, "x.x.xx.", bucket(1, 1, 0, 4)},
		{bucket(1, impl.MaxTick, 0, 0), []int64{0, impl.MaxTick - 1, impl.MaxTick, impl.MaxTick}, "..x.", bucket(1, impl.MaxTick, 0, impl.MaxTick)},
		{bucket(3, 10, 1, 7), nil, "", bucket(3, 10, 1, 7)},
		{bucket(3, 10, 1, 7), []int64{}, "", bucket(3, 10, 1, 7)},
		{bucket(3, 10, 1, 7), []int64{impl.MaxTick}, "x", bucket(3, 10, 2, impl.MaxTick)},
		{bucket(3, 10, 0, 7), []int64{7}, ".", bucket(3, 10, 0, 7)},
		{bucket(1000, 1, 1000, 0), make([]int64, impl.MaxCalls), strings.Repeat("x", impl.MaxCalls), bucket(1000, 1, 1000-impl.MaxCalls, 0)},
		{bucket(255, 1, 255, 0), make([]int64, impl.MaxCalls), strings.Repeat("x", impl.MaxCalls-1) + ".", bucket(255, 1, 0, 0)},
	} {
		end, through, ok := impl.RunBucket(c.b, c.times)
		isValue(t, fmt.Sprint(c.b, c.times), throughText(through), ok, c.want)
		isValue(t, fmt.Sprint(c.b, c.times, ": the bucket"), end, ok, c.end)
	}
}

// isNotRun fails the test unless RunBucket does not take these arguments.
func isNotRun(t *testing.T, what string, b impl.Bucket, times []int64) {
	t.Helper()
	end, through, ok := impl.RunBucket(b, times)
	isNothing(t, what+": the bucket", end, ok)
	isNoList(t, what, through, ok)
}

func TestRunsThatFail(t *testing.T) {
	for name, times := range notTimes() {
		isNotRun(t, name, bucket(3, 10, 2, 0), times)
		through, ok := impl.RunWindow(times, 10, 2)
		isNoList(t, name, through, ok)
	}
	isNotRun(t, "a tick before At", bucket(3, 10, 2, 7), []int64{6})
	isNotRun(t, "a tick before At at the beginning", bucket(3, 10, 2, 7), []int64{6, 7, 8})
	isNotRun(t, "a tick before At of a bucket that is full", bucket(3, 10, 3, 7), []int64{0, 100})
	for name, b := range badBuckets() {
		isNotRun(t, name, b, nil)
		isNotRun(t, name, b, []int64{5, 100})
	}
	for _, window := range notSpans() {
		for _, times := range [][]int64{nil, {5, 6}} {
			through, ok := impl.RunWindow(times, window, 2)
			isNoList(t, fmt.Sprint("the window ", window), through, ok)
		}
	}
	for _, most := range []int64{0, -1, impl.MaxCalls + 1, impl.MaxTick, math.MinInt64, math.MaxInt64} {
		for _, times := range [][]int64{nil, {5, 6}} {
			through, ok := impl.RunWindow(times, 10, most)
			isNoList(t, fmt.Sprint("at most ", most), through, ok)
		}
	}
}

func TestRunWindow(t *testing.T) {
	for _, c := range []struct {
		times        []int64
		window, most int64
		want         string
	}{
		{[]int64{0, 1, 2, 10}, 10, 2, "xx.x"},
		// The window is left at 15, and not at 14.
		{[]int64{5, 14}, 10, 1, "x."}, {[]int64{5, 15}, 10, 1, "xx"}, {[]int64{5, 16}, 10, 1, "xx"}, {[]int64{5, 14, 15, 24, 25}, 10, 1, "x.x.x"},
		// What is not let through does not count.
		{[]int64{0, 5, 9, 10, 11, 19, 20}, 10, 1, "x..x..x"}, {[]int64{0, 4, 5, 6, 9, 10, 11, 13, 14, 15}, 10, 2, "xx...x..x."},
		{[]int64{7, 7, 7, 7}, 1, 3, "xxx."}, {[]int64{7, 7, 8, 8, 8}, 1, 1, "x.x.."}, {[]int64{7, 8, 8, 9}, 2, 2, "xx.x"},
		{[]int64{0, 0, 0}, impl.MaxTick, 3, "xxx"}, {[]int64{0, impl.MaxTick - 1, impl.MaxTick}, impl.MaxTick, 1, "x.x"}, {[]int64{impl.MaxTick, impl.MaxTick}, 1, 1, "x."},
		{nil, 10, 2, ""}, {[]int64{}, 1, impl.MaxCalls, ""}, {[]int64{impl.MaxTick}, impl.MaxTick, impl.MaxCalls, "x"},
		{make([]int64, impl.MaxCalls), 1, impl.MaxCalls, strings.Repeat("x", impl.MaxCalls)}, {make([]int64, impl.MaxCalls), 1, impl.MaxCalls - 1, strings.Repeat("x", impl.MaxCalls-1) + "."},
		{upTo(impl.MaxCalls), 4, 2, strings.Repeat("xx..", impl.MaxCalls/4)},
	} {
		through, ok := impl.RunWindow(c.times, c.window, c.most)
		isValue(t, fmt.Sprint(c.times, c.window, c.most), throughText(through), ok, c.want)
	}
}

// someTimes chooses ticks in order from one on, many of which are equal or near to one another.
func someTimes(rounds *rand.Rand, from int64) []int64 {
	times := make([]int64, rounds.Intn(40))
	step := 1 + rounds.Int63n(8)
	for i := range times {
		from = min(from+max(rounds.Int63n(3*step)-step, 0), impl.MaxTick)
		times[i] = from
	}
	return times
}

// aBucket chooses a valid bucket, most often a small one.
func aBucket(rounds *rand.Rand) impl.Bucket {
	size, every, at := 1+rounds.Int63n(5), 1+rounds.Int63n(12), rounds.Int63n(30)
	if rounds.Intn(6) == 0 {
		at = impl.MaxTick - rounds.Int63n(60)
	}
	if rounds.Intn(9) == 0 {
		size = 1000
	}
	return bucket(size, every, rounds.Int63n(size+1), at)
}

// A tank is a bucket that is watched tick by tick, without the program.
type tank struct {
	size, every, left int64
	// now is the tick up to which it was watched, and came the last one at which a drop came, or would have come.
	now, came int64
}

func tankOf(b impl.Bucket) *tank {
	return &tank{size: b.Size, every: b.Every, left: b.Left, now: b.At, came: b.At}
}

// wait lets one tick pass.
func (k *tank) wait() {
	k.now++
	if k.now == k.came+k.every {
		k.came = k.now
		k.left = min(k.left+1, k.size)
	}
}

func (k *tank) take(count int64) bool {
	if k.left < count {
		return false
	}
	if k.left == k.size {
		k.came = k.now
	}
	k.left -= count
	return true
}

// Promise 7: buckets give what is seen of them tick by tick.
func TestBucketsTickByTick(t *testing.T) {
	rounds := rand.New(rand.NewSource(14))
	taken, refused := 0, 0
	for range 300 {
		b := aBucket(rounds)
		k := tankOf(b)
		// The bucket keeps the At of the last taking, while the tank goes on.
		for last := min(b.At+200, impl.MaxTick); k.now <= last; k.wait() {
			what := fmt.Sprint(b, " at ", k.now)
			left, ok := impl.LeftAt(b, k.now)
			isValue(t, what, left, ok, k.left)
			if rounds.Intn(3) == 0 {
				count := 1 + rounds.Int63n(min(b.Size, 6))
				after, did, ok := impl.TakeBucket(b, count, k.now)
				want, wantTaken := b, k.take(count)
				if wantTaken {
					want = bucket(b.Size, b.Every, k.left, k.came)
					taken++
				} else {
					refused++
				}
				isValue(t, fmt.Sprint(what, ": without ", count), after, ok, want)
				isBool(t, fmt.Sprint(what, ": ", count, " taken"), did, wantTaken)
				b = after
			}
		}
	}
	isBool(t, fmt.Sprint("both come often enough: ", taken, " and ", refused), min(taken, refused) > 500, true)
}

// Promise 7: a wait ends at the first tick at which there are as many drops.
func TestWaitsEndInTime(t *testing.T) {
	rounds := rand.New(rand.NewSource(15))
	ended, never := 0, 0
	for range 9000 {
		b := aBucket(rounds)
		count, at := 1+rounds.Int63n(b.Size), min(b.At+rounds.Int63n(40), impl.MaxTick)
		what := fmt.Sprint(count, " of ", b, " at ", at)
		wait, ok := impl.WaitFor(b, count, at)
		if !ok {
			left, _ := impl.LeftAt(b, impl.MaxTick)
			isBool(t, what+": at the end", left < count, true)
			never++
			continue
		}
		left, _ := impl.LeftAt(b, at+wait)
		isBool(t, what+": as many", left >= count && wait >= 0, true)
		if wait > 0 {
			left, _ := impl.LeftAt(b, at+wait-1)
			isBool(t, what+": not earlier", left < count, true)
			ended++
		}
	}
	isBool(t, fmt.Sprint("both come often enough: ", ended, " and ", never), min(ended, never) > 100, true)
}

// Promise 7: in no time does a bucket let through more than Size, and one for each Every ticks that have passed.
func TestBucketsNeverLetThroughMore(t *testing.T) {
	rounds := rand.New(rand.NewSource(16))
	for range 500 {
		b := aBucket(rounds)
		times := someTimes(rounds, b.At)
		end, through, ok := impl.RunBucket(b, times)
		isBool(t, "RunBucket", ok && len(through) == len(times), true)
		k, after := tankOf(b), b
		for i, at := range times {
			for k.now < at {
				k.wait()
			}
			next, did, _ := impl.TakeBucket(after, 1, at)
			isBool(t, fmt.Sprint(b, times, ": the call ", i), through[i], k.take(1))
			isBool(t, fmt.Sprint(b, times, ": the call ", i, " is that of TakeBucket"), through[i], did)
			after = next
			passed := int64(0)
			for j := i; j >= 0; j-- {
				if through[j] {
					passed++
				}
				isBool(t, fmt.Sprint(b, times, j, i, ": more than may be"), passed > b.Size+(at-times[j])/b.Every, false)
			}
			isBool(t, fmt.Sprint(b, times, i, ": more than there are"), passed > b.Left+(at-b.At)/b.Every, false)
		}
		isValue(t, fmt.Sprint(b, times, ": the bucket"), end, ok, after)
	}
}

// Promise 7: no window lets through more than it may, nor less.
func TestWindowsNeverLetThroughMore(t *testing.T) {
	rounds := rand.New(rand.NewSource(17))
	passed, refused := 0, 0
	for round := range 500 {
		window, most := 1+rounds.Int63n(25), 1+rounds.Int63n(6)
		times := someTimes(rounds, []int64{0, 50, impl.MaxTick - 30}[round%3])
		through, ok := impl.RunWindow(times, window, most)
		isBool(t, "RunWindow", ok && len(through) == len(times), true)
		for i, at := range times {
			inWindow := int64(0)
			for j := range i {
				if through[j] && times[j] > at-window {
					inWindow++
				}
			}
			isBool(t, fmt.Sprint(times, window, most, ": the call ", i), through[i], inWindow < most)
			if through[i] {
				passed++
			} else {
				refused++
			}
		}
	}
	isBool(t, fmt.Sprint("both come often enough: ", passed, " and ", refused), min(passed, refused) > 1000, true)
}

// namesUpTo returns n names in increasing order, all of 8 letters.
func namesUpTo(n int) []string {
	names := make([]string, n)
	for i := range names {
		names[i] = "badwor" + string(rune('a'+i/26)) + string(rune('a'+i%26))
	}
	return names
}

// notBadWords are lists of words that are no bad words.
func notBadWords() map[string][]string {
	return map[string][]string{
		"another order": {"b", "a"}, "another order at the end": {"bad", "cat", "dog", "cow"}, "a word twice": {"bad", "bad"}, "a word twice at the end": {"bad", "cat", "cat"}, "a word twice apart": {"bad", "cat", "bad"},
		"an empty word": {""}, "an empty word in front": {"", "bad"}, "a word of 9 letters": {"abcdefghi"}, "a capital letter": {"Bad"}, "capital letters": {"BAD", "bad"}, "a digit": {"bad7"}, "a blank": {"bad dog"},
		"a star": {"b**"}, "an accent": {"bäd"}, "a byte that is none": {"bad\xff"}, "65 words": namesUpTo(impl.MaxWords + 1), "676 words": namesUpTo(676), "20000 words": make([]string, 20000), "a longer one in front": {"badly", "bad"},
	}
}

func TestAreBadWords(t *testing.T) {
	for name, words := range map[string][]string{
		"none": nil, "an empty list": {}, "one": {"bad"}, "two": {"bad", "cat"}, "one letter": {"a", "z"}, "8 letters": {"abcdefgh"}, "the beginning of another one": {"bad", "badly", "bae"}, "64 words": namesUpTo(impl.MaxWords),
	} {
		isBool(t, name, impl.AreBadWords(words), true)
	}
	for name, words := range notBadWords() {
		isBool(t, name, impl.AreBadWords(words), false)
	}
}

// textsWithWords are texts with bad words of animals, as they are found and as they are censored.
func textsWithWords() []struct {
	text, censored string
	found          []string
} {
	return []struct {
		text, censored string
		found          []string
	}{
		{"", "", nil}, {" ", " ", nil}, {"all is well", "all is well", nil}, {"bad", "b**", []string{"bad"}}, {"A bad dog", "A b** dog", []string{"bad"}}, {"bad dog", "b** dog", []string{"bad"}}, {"dog, bad", "dog, b**", []string{"bad"}},
		{"BAD Bad bAD baD", "B** B** b** b**", []string{"bad"}}, {"badly bade abad", "badly bade abad", nil}, {"bad7 7bad 7bad7 b4d", "bad7 7bad 7bad7 b4d", nil}, {"ba d b ad", "ba d b ad", nil},
		{"bad-bad.bad,bad", "b**-b**.b**,b**", []string{"bad"}}, {"badbad", "badbad", nil}, {"cat bad CAT", "c** b** C**", []string{"bad", "cat"}}, {"zebra cat bad", "z**** c** b**", []string{"bad", "cat", "zebra"}},
		{"x X xx", "x X xx", []string{"x"}}, {"bad x", "b** x", []string{"bad", "x"}}, {"elephant ELEPHANT elephants", "e******* E******* elephants", []string{"elephant"}},
		// The bytes next to letters and digits.
		{"@bad[bad`bad{bad/bad:", "@b**[b**`b**{b**/b**:", []string{"bad"}}, {"~bad!bad~", "~b**!b**~", []string{"bad"}}, {"*bad* b** ***", "*b*** b** ***", []string{"bad"}},
		{strings.Repeat("bad ", 20), strings.Repeat("b** ", 20), []string{"bad"}}, {strings.Repeat("x", impl.MaxText), strings.Repeat("x", impl.MaxText), nil},
		{strings.Repeat(".", impl.MaxText-3) + "bAd", strings.Repeat(".", impl.MaxText-3) + "b**", []string{"bad"}}, {strings.Repeat("badx", 20), strings.Repeat("badx", 20), nil},
	}
}

func TestTextsWithWords(t *testing.T) {
	words := []string{"ant", "bad", "cat", "elephant", "x", "zebra"}
	for _, c := range textsWithWords() {
		found, ok := impl.BadWordsIn(c.text, words)
		isList(t, "the bad words of "+c.text, found, ok, c.found...)
		isBool(t, c.text+" has a bad word", impl.HasBadWord(c.text, words), len(c.found) > 0)
		censored, ok := impl.CensorText(c.text, words)
		isValue(t, c.text+" is censored", censored, ok, c.censored)
		for _, none := range [][]string{nil, {}, {"here", "nobody", "was"}} {
			found, ok := impl.BadWordsIn(c.text, none)
			isList(t, "no bad words of "+c.text, found, ok)
			isBool(t, c.text+" has no bad word", impl.HasBadWord(c.text, none), false)
			censored, ok := impl.CensorText(c.text, none)
			isValue(t, c.text+" is not censored", censored, ok, c.text)
		}
	}
	// The last one of 64 words counts too, and a beginning of another one is a word of its own.
	most := namesUpTo(impl.MaxWords)
	for _, word := range most {
		found, ok := impl.BadWordsIn("a "+word+"!", most)
		isList(t, "one of 64 words", found, ok, word)
	}
	nested := []string{"bad", "badly"}
	censored, ok := impl.CensorText("badly BAD badl", nested)
	isValue(t, "words that begin with one another", censored, ok, "b**** B** badl")
}

// isNotRead fails the test unless no function with texts takes these arguments.
func isNotRead(t *testing.T, what, text string, words []string) {
	t.Helper()
	isBool(t, what+": has a bad word", impl.HasBadWord(text, words), false)
	found, ok := impl.BadWordsIn(text, words)
	isNoList(t, what+": bad words", found, ok)
	censored, ok := impl.CensorText(text, words)
	isNothing(t, what+": censored", censored, ok)
}

func TestTextsThatAreNotRead(t *testing.T) {
	for _, text := range append(notTexts(), "bad\n", "bad dög", "\tbad", "bad \x7f", strings.Repeat("bad ", 20)+"x") {
		isNotRead(t, fmt.Sprintf("%q", text), text, []string{"bad", "x"})
		isNotRead(t, fmt.Sprintf("%q and no words", text), text, nil)
	}
	for name, words := range notBadWords() {
		for _, text := range []string{"a bad cat", "bad", namesUpTo(1)[0], "x", ""} {
			isNotRead(t, name+" and "+text, text, words)
		}
	}
}

// Promise 7: censored texts change only where bad words are, and there wherever they are.
func TestCensoredTexts(t *testing.T) {
	rounds := rand.New(rand.NewSource(18))
	run := regexp.MustCompile("[A-Za-z0-9]+")
	pieces := []string{"a", "b", "B", "ab", "AB", "ba", "7", " ", " ", "-", ".", "@", "[", "`", "{", "/", ":", "~", "*", "Abba"}
	all := []string{"a", "ab", "abb", "abba", "b", "ba", "baa"}
	censored, kept := 0, 0
	for range 4000 {
		var text, want strings.Builder
		for range rounds.Intn(20) {
			text.WriteString(pieces[rounds.Intn(len(pieces))])
		}
		var words []string
		for _, word := range all {
			if rounds.Intn(2) == 0 {
				words = append(words, word)
			}
		}
		there := map[string]bool{}
		want.WriteString(run.ReplaceAllStringFunc(text.String(), func(s string) string {
			small := strings.ToLower(s)
			if !slices.Contains(words, small) {
				return s
			}
			there[small] = true
			return s[:1] + strings.Repeat("*", len(s)-1)
		}))
		got, ok := impl.CensorText(text.String(), words)
		isValue(t, fmt.Sprintf("%q without %v", text.String(), words), got, ok, want.String())
		found, ok := impl.BadWordsIn(text.String(), words)
		isList(t, fmt.Sprintf("%v in %q", words, text.String()), found, ok, slices.DeleteFunc(slices.Clone(words), func(word string) bool { return !there[word] })...)
		isBool(t, fmt.Sprintf("%q has one of %v", text.String(), words), impl.HasBadWord(text.String(), words), len(there) > 0)
		if got == text.String() {
			kept++
		} else {
			censored++
		}
	}
	isBool(t, fmt.Sprint("both come often enough: ", censored, " and ", kept), min(censored, kept) > 500, true)
}

// trouble are strikes of 1, 2, 5 and 9; those of 2 and 5 are equal, but in another order.
func trouble() []impl.Strike {
	return []impl.Strike{
		strike(1, impl.StrikeTaken, 0), strike(9, impl.StrikeWord, 3), strike(2, impl.StrikeFlood, 10), strike(5, impl.StrikeWord, 10), strike(5, impl.StrikeFlood, 10), strike(2, impl.StrikeWord, 10),
		strike(1, impl.StrikeFlood, 20), strike(impl.MaxMember, impl.StrikeTaken, impl.MaxTick),
	}
}

// manyStrikes returns n strikes of the members from 1 on, each at its own tick.
func manyStrikes(n int64) []impl.Strike {
	var strikes []impl.Strike
	for _, i := range upTo(n) {
		strikes = append(strikes, strike(i, i%3, i))
	}
	return strikes
}

// notStrikes are lists that are no strikes, each in one way.
func notStrikes() map[string][]impl.Strike {
	bad := map[string][]impl.Strike{
		"65 strikes": manyStrikes(impl.MaxStrikes + 1), "20000 strikes": make([]impl.Strike, 20000), "ticks that go back": {strike(1, 0, 5), strike(1, 0, 4)},
		"ticks that go back at the end": append(trouble(), strike(1, 0, impl.MaxTick-1)), "another order": {strike(1, 0, 9), strike(2, 0, 3), strike(3, 0, 10)},
	}
	for name, s := range badStrikes() {
		bad[name] = []impl.Strike{s}
		bad[name+" behind others"] = append(trouble()[:7], s)
	}
	return bad
}

// badStrikes are no strikes, each in one way.
func badStrikes() map[string]impl.Strike {
	bad := map[string]impl.Strike{"the empty strike": {}}
	for _, n := range notMembers() {
		bad[fmt.Sprint("the member ", n)] = strike(n, impl.StrikeFlood, 30)
	}
	for _, n := range []int64{-1, 3, 4, math.MinInt64, math.MaxInt64} {
		bad[fmt.Sprint("the kind ", n)] = strike(7, n, 30)
	}
	for _, n := range notTicks() {
		bad[fmt.Sprint("the tick ", n)] = strike(7, impl.StrikeFlood, n)
	}
	return bad
}

func TestAreStrikes(t *testing.T) {
	for name, strikes := range map[string][]impl.Strike{
		"none": nil, "an empty list": {}, "some": trouble(), "64": manyStrikes(impl.MaxStrikes), "the least one": {strike(1, 0, 0)}, "the greatest one": {strike(impl.MaxMember, 2, impl.MaxTick)},
		"the same one": slices.Repeat([]impl.Strike{strike(7, 1, 5)}, impl.MaxStrikes), "members that fall": {strike(9, 2, 5), strike(8, 1, 5), strike(7, 0, 5)},
	} {
		isBool(t, name, impl.AreStrikes(strikes), true)
	}
	for name, strikes := range notStrikes() {
		isBool(t, name, impl.AreStrikes(strikes), false)
	}
}

func TestAddStrike(t *testing.T) {
	for _, s := range []impl.Strike{strike(impl.MaxMember, impl.StrikeTaken, impl.MaxTick), strike(1, impl.StrikeWord, impl.MaxTick), strike(7, impl.StrikeFlood, impl.MaxTick)} {
		more, ok := impl.AddStrike(trouble(), s)
		isList(t, fmt.Sprint("and ", s), more, ok, append(trouble(), s)...)
	}
	for _, none := range [][]impl.Strike{nil, {}} {
		more, ok := impl.AddStrike(none, strike(7, impl.StrikeFlood, 0))
		isList(t, "the first one", more, ok, strike(7, impl.StrikeFlood, 0))
	}
	seven := trouble()[:7]
	more, ok := impl.AddStrike(seven, strike(3, impl.StrikeWord, 20))
	isList(t, "at the same tick", more, ok, append(slices.Clone(seven), strike(3, impl.StrikeWord, 20))...)
	for _, at := range []int64{19, 10, 0} {
		more, ok := impl.AddStrike(seven, strike(3, impl.StrikeWord, at))
		isNoList(t, fmt.Sprint("at ", at), more, ok)
	}
	more, ok = impl.AddStrike(manyStrikes(impl.MaxStrikes-1), strike(64, 64%3, 64))
	isList(t, "the strike 64", more, ok, manyStrikes(impl.MaxStrikes)...)
	more, ok = impl.AddStrike(more, strike(64, 0, 64))
	isNoList(t, "the strike 65", more, ok)
	for name, s := range badStrikes() {
		more, ok := impl.AddStrike(seven, s)
		isNoList(t, name, more, ok)
		more, ok = impl.AddStrike(nil, s)
		isNoList(t, name+" alone", more, ok)
	}
	for name, strikes := range notStrikes() {
		more, ok := impl.AddStrike(strikes, strike(7, impl.StrikeFlood, impl.MaxTick))
		isNoList(t, name, more, ok)
	}
}

func TestPointsOf(t *testing.T) {
	for _, c := range []struct{ member, at, fade, want int64 }{
		// The 4 points of 1 at 0 are halved at 10, 20 and 30.
		{1, 0, 10, 4}, {1, 9, 10, 4}, {1, 10, 10, 2}, {1, 19, 10, 2}, {1, 20, 10, 1 + 2}, {1, 29, 10, 1 + 2}, {1, 30, 10, 0 + 1}, {1, 39, 10, 1}, {1, 40, 10, 0}, {1, impl.MaxTick, 10, 0},
		{1, 20, impl.MaxTick, 6}, {1, impl.MaxTick - 1, impl.MaxTick, 6}, {1, impl.MaxTick, impl.MaxTick, 2 + 2}, {1, 0, 1, 4}, {1, 1, 1, 2}, {1, 2, 1, 1}, {1, 3, 1, 0}, {1, 20, 1, 2},
		{9, 2, 10, 0}, {9, 3, 10, 1}, {9, 12, 10, 1}, {9, 13, 10, 0}, {2, 9, 10, 0}, {2, 10, 10, 3}, {2, 19, 10, 3}, {2, 20, 10, 1}, {2, 29, 10, 1}, {2, 30, 10, 0}, {5, 10, 10, 3}, {5, 20, 10, 1},
		{3, 50, 10, 0}, {999, 50, 10, 0}, {impl.MaxMember, impl.MaxTick - 1, 10, 0}, {impl.MaxMember, impl.MaxTick, 10, 4}, {impl.MaxMember, impl.MaxTick, 1, 4},
	} {
		points, ok := impl.PointsOf(trouble(), c.member, c.at, c.fade)
		isValue(t, fmt.Sprint(c.member, " at ", c.at, " with the fade ", c.fade), points, ok, c.want)
	}
	// Each strike is halved by itself, so that single points are nothing behind one fade, however many they are.
	single := slices.Repeat([]impl.Strike{strike(7, impl.StrikeWord, 0)}, impl.MaxStrikes)
	for at, want := range map[int64]int64{0: 64, 9: 64, 10: 0} {
		points, ok := impl.PointsOf(single, 7, at, 10)
		isValue(t, fmt.Sprint("64 single points at ", at), points, ok, want)
	}
	most := slices.Repeat([]impl.Strike{strike(7, impl.StrikeTaken, 0)}, impl.MaxStrikes)
	points, ok := impl.PointsOf(most, 7, 0, 1)
	isValue(t, "the most points", points, ok, 256)
	points, ok = impl.PointsOf(nil, 7, 0, 1)
	isValue(t, "no strikes", points, ok, 0)
}

// Both functions that tell points fail alike.
func TestPointsThatFail(t *testing.T) {
	isFailed := func(what string, strikes []impl.Strike, at, fade int64) {
		t.Helper()
		points, ok := impl.PointsOf(strikes, 7, at, fade)
		isNothing(t, what, points, ok)
		worst, ok := impl.WorstMembers(strikes, at, fade, 5)
		isNoList(t, what, worst, ok)
	}
	for _, at := range notTicks() {
		isFailed(fmt.Sprint("at ", at), trouble(), at, 10)
		isFailed(fmt.Sprint("nobody at ", at), nil, at, 10)
	}
	for _, fade := range notSpans() {
		isFailed(fmt.Sprint("the fade ", fade), trouble(), 20, fade)
		isFailed(fmt.Sprint("nobody and the fade ", fade), nil, 20, fade)
	}
	for name, strikes := range notStrikes() {
		isFailed(name, strikes, 20, 10)
	}
	for _, member := range notMembers() {
		for _, strikes := range [][]impl.Strike{nil, trouble()} {
			points, ok := impl.PointsOf(strikes, member, 20, 10)
			isNothing(t, fmt.Sprint("the member ", member), points, ok)
		}
	}
	for _, count := range []int64{-1, impl.MaxStrikes + 1, impl.MaxTick, math.MinInt64, math.MaxInt64} {
		for _, strikes := range [][]impl.Strike{nil, trouble()} {
			worst, ok := impl.WorstMembers(strikes, 20, 10, count)
			isNoList(t, fmt.Sprint(count, " members"), worst, ok)
		}
	}
}

func TestPenaltyOf(t *testing.T) {
	for points, want := range map[int64]int64{
		math.MinInt64: 0, -1: 0, 0: 0, 1: 0, 2: 0, 3: 10, 4: 10, 5: 10, 6: 100, 7: 100, 11: 100, 12: 1000, 13: 1000, 256: 1000, impl.MaxValue + 1: 1000, math.MaxInt64: 1000,
	} {
		isValue(t, fmt.Sprint(points, " points"), impl.PenaltyOf(points), true, want)
	}
}

func TestWorstMembers(t *testing.T) {
	for _, c := range []struct {
		at, fade, count int64
		want            []int64
	}{
		// At 10, 2 and 5 have 3 points each, 1 has 2 and 9 has 1.
		{10, 10, 64, []int64{2, 5, 1, 9}}, {10, 10, 4, []int64{2, 5, 1, 9}}, {10, 10, 3, []int64{2, 5, 1}}, {10, 10, 2, []int64{2, 5}}, {10, 10, 1, []int64{2}}, {10, 10, 0, nil}, {10, 11, 64, []int64{1, 2, 5, 9}},
		{0, 10, 64, []int64{1}}, {3, 10, 64, []int64{1, 9}}, {20, 10, 64, []int64{1, 2, 5}}, {30, 10, 64, []int64{1}}, {40, 10, 64, nil}, {impl.MaxTick, 10, 64, []int64{impl.MaxMember}},
		{impl.MaxTick, impl.MaxTick, 64, []int64{1, impl.MaxMember, 2, 5, 9}}, {impl.MaxTick - 1, impl.MaxTick, 64, []int64{1, 2, 5, 9}},
	} {
		worst, ok := impl.WorstMembers(trouble(), c.at, c.fade, c.count)
		isList(t, fmt.Sprint("at ", c.at, " with the fade ", c.fade, " up to ", c.count), worst, ok, c.want...)
	}
	// The members with the remainder 2 have 4 points, and so on; each is in order.
	var want []int64
	for _, remainder := range []int64{2, 1, 0} {
		want = append(want, slices.DeleteFunc(upTo(64), func(n int64) bool { return n%3 != remainder })...)
	}
	worst, ok := impl.WorstMembers(manyStrikes(impl.MaxStrikes), 64, impl.MaxTick, impl.MaxStrikes)
	isList(t, "64 members", worst, ok, want...)
	worst, ok = impl.WorstMembers(nil, 5, 5, 5)
	isList(t, "nobody", worst, ok)
}

func TestForgiveOld(t *testing.T) {
	for before, first := range map[int64]int{0: 0, 1: 1, 2: 1, 3: 1, 4: 2, 9: 2, 10: 2, 11: 6, 19: 6, 20: 6, 21: 7, impl.MaxTick - 1: 7, impl.MaxTick: 7} {
		kept, ok := impl.ForgiveOld(trouble(), before)
		isList(t, fmt.Sprint("before ", before), kept, ok, trouble()[first:]...)
		kept, ok = impl.ForgiveOld(nil, before)
		isList(t, fmt.Sprint("nothing before ", before), kept, ok)
	}
	kept, ok := impl.ForgiveOld(manyStrikes(impl.MaxStrikes), 0)
	isList(t, "64 strikes", kept, ok, manyStrikes(impl.MaxStrikes)...)
	kept, ok = impl.ForgiveOld(trouble()[:7], impl.MaxTick)
	isList(t, "all are old", kept, ok)
	for _, before := range notTicks() {
		for _, strikes := range [][]impl.Strike{nil, trouble()} {
			kept, ok := impl.ForgiveOld(strikes, before)
			isNoList(t, fmt.Sprint("before ", before), kept, ok)
		}
	}
	for name, strikes := range notStrikes() {
		kept, ok := impl.ForgiveOld(strikes, 0)
		isNoList(t, name, kept, ok)
	}
}

// pointsIn tells without the program how many points a member has, halving fade by fade.
func pointsIn(strikes []impl.Strike, member, at, fade int64) int64 {
	sum := int64(0)
	for _, s := range strikes {
		if s.Member != member || s.At > at {
			continue
		}
		points := map[int64]int64{0: 1, 1: 2, 2: 4}[s.Kind]
		for faded := s.At + fade; faded <= at && points > 0; faded += fade {
			points /= 2
		}
		sum += points
	}
	return sum
}

// Points are told for each member, and the worst members by them.
func TestPointsOfManyStrikes(t *testing.T) {
	rounds := rand.New(rand.NewSource(19))
	for range 300 {
		var strikes []impl.Strike
		at := int64(0)
		for range rounds.Intn(impl.MaxStrikes + 1) {
			at += rounds.Int63n(4)
			s := strike(1+rounds.Int63n(9), rounds.Int63n(3), at)
			more, ok := impl.AddStrike(strikes, s)
			isList(t, "AddStrike", more, ok, append(strikes, s)...)
			strikes = more
		}
		now, fade, count := rounds.Int63n(at+20), 1+rounds.Int63n(30), rounds.Int63n(12)
		var want []int64
		for points := int64(256); points > 0; points-- {
			for _, member := range upTo(9) {
				if pointsIn(strikes, member, now, fade) == points {
					want = append(want, member)
				}
			}
		}
		worst, ok := impl.WorstMembers(strikes, now, fade, count)
		isList(t, fmt.Sprint(strikes, " at ", now, " with the fade ", fade, " up to ", count), worst, ok, want[:min(int(count), len(want))]...)
		for _, member := range upTo(10) {
			points, ok := impl.PointsOf(strikes, member, now, fade)
			isValue(t, fmt.Sprint(strikes, " of ", member, " at ", now, " with the fade ", fade), points, ok, pointsIn(strikes, member, now, fade))
		}
		kept, ok := impl.ForgiveOld(strikes, now)
		isList(t, fmt.Sprint(strikes, " from ", now), kept, ok, slices.DeleteFunc(slices.Clone(strikes), func(s impl.Strike) bool { return s.At < now })...)
	}
}
