package tests

import (
	"math"
	"math/rand"
	"slices"
	"testing"

	"loop.example/g00967/impl"
)

// The numbers of the codes, as the document states them.
const (
	tagBack  = 1
	tagDone  = 2
	tagAddr  = 3
	mostTags = 300
)

// tagFields are all numbers of a Tag.
func tagFields() []intField[impl.Tag] {
	return []intField[impl.Tag]{
		{"Kind", func(tag *impl.Tag) *int { return &tag.Kind }},
		{"One", func(tag *impl.Tag) *int { return &tag.One }},
		{"Two", func(tag *impl.Tag) *int { return &tag.Two }},
		{"A", func(tag *impl.Tag) *int { return &tag.A }},
		{"B", func(tag *impl.Tag) *int { return &tag.B }},
	}
}

// tagMaker is one of the three functions that return a code, with the Kind of its codes.
type tagMaker struct {
	name string
	kind int
	of   func(mine int, theirs int, a int, b int) impl.Tag
}

func tagMakers() []tagMaker {
	return []tagMaker{
		{"TagBack", tagBack, impl.TagBack},
		{"TagDone", tagDone, impl.TagDone},
		{"TagAddr", tagAddr, impl.TagAddr},
	}
}

// tagOf returns the Tag with these five numbers.
func tagOf(kind int, one int, two int, a int, b int) impl.Tag {
	return impl.Tag{Kind: kind, One: one, Two: two, A: a, B: b}
}

// tagNumbers are numbers that the fields of a Tag, and keys, may have: there is no limit.
func tagNumbers() []int {
	return []int{0, 1, -1, 2, -2, 5, 7, 255, 256, 1000, 65536, mostNum, mostNum + 1, -mostNum, 1 << 31, 1 << 32, 1<<32 + 1, -1 << 32, math.MaxInt - 1, math.MaxInt, math.MinInt, math.MinInt + 1}
}

// tagRow returns many Tags. Each differs from the others in all fields but its keys, which are 2001 and 2002.
func tagRow(many int) []impl.Tag {
	row := make([]impl.Tag, many)
	for i := range row {
		row[i] = tagOf(10+i, 2001, 2002, 3000+i, 5000+i)
	}
	return row
}

// knows returns the knowledge of these keys, and of no code.
func knows(keys ...int) impl.Known { return impl.Known{Keys: keys} }

// learned returns the knowledge of these codes, and of no key.
func learned(tags ...impl.Tag) impl.Known { return impl.Known{Tags: tags} }

func sameTag(a impl.Tag, b impl.Tag) bool {
	return a.Kind == b.Kind && a.One == b.One && a.Two == b.Two && a.A == b.A && a.B == b.B
}

// tableCanMake is CanMake, from each key and each code alone.
func tableCanMake(k impl.Known, tag impl.Tag) bool {
	one, two, can := false, false, sameTag(tag, impl.Tag{})
	for _, key := range k.Keys {
		one, two = one || key == tag.One, two || key == tag.Two
	}
	for i, other := range k.Tags {
		can = can || i < mostTags && sameTag(tag, other)
	}
	return can || one && two
}

// onKnown calls f with k, without and with the keys of the tag and the tag itself in the capacity behind k, and checks that f leaves all of it alone and returns want in new memory.
func onKnown(t *testing.T, what string, k impl.Known, tag impl.Tag, want impl.Known, f func(k impl.Known) impl.Known) {
	t.Helper()
	for _, behindKeys := range [][]int{nil, {tag.One, tag.Two, tag.One}} {
		for _, behindTags := range [][]impl.Tag{nil, {tag, tagOf(7, 7, 7, 7, 7), tag}} {
			given := impl.Known{Keys: withSpare(k.Keys, behindKeys...), Tags: withSpare(k.Tags, behindTags...)}
			got := f(given)
			if !slices.Equal(got.Keys, want.Keys) || !slices.Equal(got.Tags, want.Tags) {
				t.Errorf("%s of %v and %v = %v; want %v", what, k, tag, got, want)
			}
			if sharesElements(got.Keys, given.Keys) || sharesElements(got.Tags, given.Tags) {
				t.Errorf("%s of %v and %v shares memory with its argument", what, k, tag)
			}
			wantKept(t, what, given.Keys, withSpare(k.Keys, behindKeys...))
			wantKept(t, what, given.Tags, withSpare(k.Tags, behindTags...))
		}
	}
}

func wantCanMake(t *testing.T, k impl.Known, tag impl.Tag, want bool) {
	t.Helper()
	onKnown(t, "CanMake", k, tag, impl.Known{}, func(k impl.Known) impl.Known {
		if got := impl.CanMake(k, tag); got != want {
			t.Errorf("CanMake(%v, %v) is %v", k, tag, got)
		}
		return impl.Known{}
	})
	if got := tableCanMake(k, tag); got != want {
		t.Errorf("the tests say %v of %v and %v", got, k, tag)
	}
}

// wantLearn checks that Learn appends the tag, and that it can be produced afterwards and not before.
func wantLearn(t *testing.T, k impl.Known, tag impl.Tag) {
	t.Helper()
	wantCanMake(t, k, tag, false)
	more := impl.Known{Keys: k.Keys, Tags: slices.Concat(k.Tags, []impl.Tag{tag})}
	onKnown(t, "Learn", k, tag, more, func(k impl.Known) impl.Known { return impl.Learn(k, tag) })
	wantCanMake(t, impl.Learn(k, tag), tag, true)
	// What was learned once is not learned again.
	onKnown(t, "second Learn", more, tag, more, func(k impl.Known) impl.Known { return impl.Learn(k, tag) })
}

// wantNoLearn checks that Learn returns k unchanged.
func wantNoLearn(t *testing.T, k impl.Known, tag impl.Tag) {
	t.Helper()
	onKnown(t, "Learn", k, tag, k, func(k impl.Known) impl.Known { return impl.Learn(k, tag) })
}

// wantTableKnown checks CanMake and Learn against the second version.
func wantTableKnown(t *testing.T, k impl.Known, tag impl.Tag) {
	t.Helper()
	can := tableCanMake(k, tag)
	wantCanMake(t, k, tag, can)
	if can || len(k.Tags) >= mostTags {
		wantNoLearn(t, k, tag)
	} else {
		wantLearn(t, k, tag)
	}
}

func TestTagConstants(t *testing.T) {
	if impl.TgBack != tagBack || impl.TgDone != tagDone || impl.TgAddr != tagAddr || impl.MaxTags != mostTags {
		t.Error("constants", impl.TgBack, impl.TgDone, impl.TgAddr, impl.MaxTags)
	}
}

func TestKnownTags(t *testing.T) {
	for _, known := range []struct{ got, want impl.Tag }{
		{impl.TagBack(1, 2, 3, 4), tagOf(1, 1, 2, 3, 4)},
		{impl.TagDone(1, 2, 3, 4), tagOf(2, 1, 2, 3, 4)},
		{impl.TagAddr(1, 2, 3, 4), tagOf(3, 1, 2, 3, 4)},
		{impl.TagBack(1002, 1001, 1006, 1005), tagOf(1, 1002, 1001, 1006, 1005)},
		{impl.TagDone(1001, 1002, 1005, 1006), tagOf(2, 1001, 1002, 1005, 1006)},
		{impl.TagAddr(1001, 1002, 255, 65535), tagOf(3, 1001, 1002, 255, 65535)},
		{impl.TagBack(0, 0, 0, 0), tagOf(1, 0, 0, 0, 0)},
		{impl.TagDone(0, 0, 0, 0), tagOf(2, 0, 0, 0, 0)},
		{impl.TagAddr(0, 0, 0, 0), tagOf(3, 0, 0, 0, 0)},
		{impl.TagBack(-1, -2, -3, -4), tagOf(1, -1, -2, -3, -4)},
		{impl.TagDone(math.MaxInt, math.MinInt, math.MaxInt, math.MinInt), tagOf(2, math.MaxInt, math.MinInt, math.MaxInt, math.MinInt)},
		{impl.TagAddr(math.MinInt, math.MaxInt, math.MinInt, math.MaxInt), tagOf(3, math.MinInt, math.MaxInt, math.MinInt, math.MaxInt)},
	} {
		if !sameTag(known.got, known.want) {
			t.Errorf("%v is not %v", known.got, known.want)
		}
	}
}

// Each argument has a place of its own, whatever number it is and whatever the others are.
func TestTagsHaveTheirArgumentsInTheirPlaces(t *testing.T) {
	for _, m := range tagMakers() {
		for _, one := range tagNumbers() {
			for _, two := range tagNumbers() {
				for _, tag := range []struct{ got, want impl.Tag }{
					{m.of(one, two, 33, 44), tagOf(m.kind, one, two, 33, 44)},
					{m.of(one, 22, two, 44), tagOf(m.kind, one, 22, two, 44)},
					{m.of(one, 22, 33, two), tagOf(m.kind, one, 22, 33, two)},
					{m.of(11, one, two, 44), tagOf(m.kind, 11, one, two, 44)},
					{m.of(11, one, 33, two), tagOf(m.kind, 11, one, 33, two)},
					{m.of(11, 22, one, two), tagOf(m.kind, 11, 22, one, two)},
					{m.of(one, one, two, two), tagOf(m.kind, one, one, two, two)},
					{m.of(one, two, one, two), tagOf(m.kind, one, two, one, two)},
					{m.of(one, two, two, one), tagOf(m.kind, one, two, two, one)},
					{m.of(one, one, one, one), tagOf(m.kind, one, one, one, one)},
				} {
					if !sameTag(tag.got, tag.want) {
						t.Errorf("%s gives %v in place of %v", m.name, tag.got, tag.want)
					}
				}
			}
		}
	}
}

// The codes of two functions, of other arguments, and of arguments in another order differ.
func TestTagsOfOtherArgumentsDiffer(t *testing.T) {
	seen := map[impl.Tag]bool{}
	many := 0
	numbers := []int{0, 1, 2, -1, mostNum}
	for _, m := range tagMakers() {
		for _, one := range numbers {
			for _, two := range numbers {
				for _, a := range numbers {
					for _, b := range numbers {
						seen[m.of(one, two, a, b)] = true
						many++
					}
				}
			}
		}
	}
	if len(seen) != many || seen[impl.Tag{}] {
		t.Errorf("%d codes for %d different arguments", len(seen), many)
	}
}

func TestKnownCanMake(t *testing.T) {
	back := impl.TagBack(1, 2, 3, 4)
	for _, known := range []struct {
		k    impl.Known
		tag  impl.Tag
		want bool
	}{
		{knows(1, 2), back, true},
		{knows(2, 1), back, true},
		{knows(9, 2, 8, 1, 7), back, true},
		{knows(1), back, false},
		{knows(2), back, false},
		{knows(), back, false},
		{knows(3, 4), back, false},
		{knows(1, 3, 4), back, false},
		{knows(2, 3, 4), back, false},
		{knows(12, 21, 0), back, false},
		{knows(-1, -2), back, false},
		{knows(1<<32+1, 1<<32+2), back, false},
		{knows(-1, -2), impl.TagDone(-1, -2, 3, 4), true},
		{knows(math.MinInt, math.MaxInt), impl.TagAddr(math.MaxInt, math.MinInt, 0, 0), true},
		{knows(math.MinInt), impl.TagAddr(math.MaxInt, math.MinInt, 0, 0), false},
		{impl.Known{}, impl.Tag{}, true},
		{knows(5, 7), impl.Tag{}, true},
		{learned(back), impl.Tag{}, true},
		{learned(back), back, true},
		{learned(back), impl.TagDone(1, 2, 3, 4), false},
		{learned(back), impl.TagBack(2, 1, 3, 4), false},
		{learned(back), impl.TagBack(1, 2, 4, 3), false},
		{impl.Known{Keys: []int{1}, Tags: []impl.Tag{back}}, impl.TagBack(1, 2, 3, 5), false},
		{impl.Known{Keys: []int{2}, Tags: []impl.Tag{back}}, impl.TagBack(1, 2, 3, 5), false},
		{impl.Known{Keys: []int{2, 1}, Tags: []impl.Tag{back}}, impl.TagBack(1, 2, 3, 5), true},
	} {
		wantCanMake(t, known.k, known.tag, known.want)
	}
}

// Both keys, the first alone, the second alone and neither are known, among others and in each order.
func TestCanMakeWithKeys(t *testing.T) {
	for _, m := range tagMakers() {
		for _, one := range tagNumbers() {
			for _, two := range tagNumbers() {
				if one == two {
					continue
				}
				tag := m.of(one, two, 33, 44)
				wantCanMake(t, knows(one, two), tag, true)
				wantCanMake(t, knows(two, one), tag, true)
				wantCanMake(t, knows(33, two, 44, one, 55), tag, true)
				wantCanMake(t, knows(one), tag, false)
				wantCanMake(t, knows(one, 33, 44), tag, false)
				wantCanMake(t, knows(two), tag, false)
				wantCanMake(t, knows(33, 44, two), tag, false)
				wantCanMake(t, knows(33, 44), tag, false)
				wantCanMake(t, knows(), tag, false)
			}
		}
	}
}

// One key that is both keys of a code is enough if it is known, and two other keys are not.
func TestCanMakeWithEqualKeys(t *testing.T) {
	for _, m := range tagMakers() {
		for _, key := range tagNumbers() {
			tag := m.of(key, key, 33, 44)
			wantCanMake(t, knows(key), tag, true)
			wantCanMake(t, knows(key, key), tag, true)
			wantCanMake(t, knows(44, 33, key), tag, true)
			wantCanMake(t, knows(), tag, false)
			wantCanMake(t, knows(33, 44), tag, false)
			wantCanMake(t, knows(33, 33), tag, false)
			wantCanMake(t, impl.Known{Keys: []int{33, 44}, Tags: tagRow(3)}, tag, false)
		}
	}
}

// A key that stands twice is not two keys.
func TestCanMakeWithAKeyThatStandsTwice(t *testing.T) {
	for _, m := range tagMakers() {
		tag := m.of(5, 7, 33, 44)
		for _, keys := range [][]int{{5, 5}, {7, 7}, {5, 33, 5}, {7, 7, 7}, {33, 33}, slices.Repeat([]int{5}, 50)} {
			wantCanMake(t, knows(keys...), tag, false)
			wantLearn(t, knows(keys...), tag)
		}
		for _, keys := range [][]int{{5, 5, 7}, {7, 5, 5}, {5, 7, 5, 7}, {7, 7, 5}, append(slices.Repeat([]int{5}, 50), 7)} {
			wantCanMake(t, knows(keys...), tag, true)
			wantNoLearn(t, knows(keys...), tag)
		}
	}
}

// There is no limit on the number of keys.
func TestCanMakeWithManyKeys(t *testing.T) {
	keys := make([]int, 1000)
	for i := range keys {
		keys[i] = 3 * i
	}
	for _, one := range []int{0, 3, 299 * 3, 300 * 3, 301 * 3, 999 * 3} {
		for _, two := range []int{0, 3, 299 * 3, 300 * 3, 301 * 3, 999 * 3} {
			wantCanMake(t, knows(keys...), impl.TagDone(one, two, 4, 5), true)
			wantCanMake(t, knows(keys...), impl.TagDone(one+1, two, 4, 5), false)
			wantCanMake(t, knows(keys...), impl.TagDone(one, two-1, 4, 5), false)
		}
	}
}

// With both keys a code of each Kind can be produced, also one that no function returns, and whatever A and B are.
func TestCanMakeOfEveryKindWithBothKeys(t *testing.T) {
	for _, kind := range append(tagNumbers(), 3, 4) {
		for _, n := range tagNumbers() {
			for _, tag := range []impl.Tag{tagOf(kind, 5, 7, n, 44), tagOf(kind, 7, 5, 33, n), tagOf(kind, 5, 5, n, n)} {
				wantCanMake(t, knows(5, 7), tag, true)
				wantNoLearn(t, knows(5, 7), tag)
				wantCanMake(t, knows(5, 8), tag, tag.Two == 5 && tag.One == 5)
				wantCanMake(t, knows(n+1, kind+100), tagOf(kind, -500, -600, n, n), false)
			}
		}
	}
}

// The zero Tag can be produced without any knowledge, and with any.
func TestZeroTagNeedsNoKnowledge(t *testing.T) {
	for _, k := range []impl.Known{
		{},
		{Keys: []int{}, Tags: []impl.Tag{}},
		knows(0),
		knows(0, 0),
		knows(5, 7),
		knows(-1),
		learned(impl.Tag{}),
		learned(tagRow(1)...),
		{Keys: []int{5, 7}, Tags: tagRow(3)},
		learned(tagRow(mostTags - 1)...),
		learned(tagRow(mostTags)...),
		learned(tagRow(mostTags + 1)...),
		learned(append(tagRow(mostTags), impl.Tag{})...),
	} {
		wantCanMake(t, k, impl.Tag{}, true)
		wantNoLearn(t, k, impl.Tag{})
	}
}

// A Tag that differs from the zero Tag in one field is a code as others are.
func TestTagsThatDifferFromTheZeroTagInOneField(t *testing.T) {
	for _, f := range tagFields() {
		for _, n := range tagNumbers() {
			if n == 0 {
				continue
			}
			tag := f.set(impl.Tag{}, n)
			for _, k := range []impl.Known{{}, knows(-7, 33), learned(impl.Tag{}), learned(tagRow(4)...)} {
				wantLearn(t, k, tag)
			}
			// Its keys are 0, or one of them is n.
			wantCanMake(t, knows(0), tag, f.name != "One" && f.name != "Two")
			wantCanMake(t, knows(n), tag, false)
			wantCanMake(t, knows(n, 0), tag, true)
			wantNoLearn(t, knows(n, 0), tag)
		}
	}
}

// A code that was learned can be produced, and none that differs from it in one field.
func TestCanMakeOfALearnedTag(t *testing.T) {
	for _, m := range tagMakers() {
		for _, tag := range []impl.Tag{m.of(1001, 1002, 1005, 1006), m.of(1, 1, 1, 1), m.of(0, 0, 0, 0), m.of(-5, math.MaxInt, math.MinInt, 1<<32)} {
			k := learned(tag)
			wantCanMake(t, k, tag, true)
			wantNoLearn(t, k, tag)
			for _, f := range tagFields() {
				old := *f.of(&tag)
				for _, n := range append(tagNumbers(), old+1, old-1, -old, 3, 4) {
					other := f.set(tag, n)
					if sameTag(other, tag) || sameTag(other, impl.Tag{}) {
						continue
					}
					wantLearn(t, k, other)
					wantCanMake(t, impl.Learn(k, other), tag, true)
				}
			}
		}
	}
}

// Codes give no keys, neither those under which they were made nor the numbers in them.
func TestLearnedTagsGiveNoKeys(t *testing.T) {
	var tags []impl.Tag
	for _, m := range tagMakers() {
		tags = append(tags, m.of(1001, 1002, 5, 7), m.of(1002, 1001, 7, 5), m.of(1001, 1001, 1001, 1002), m.of(1002, 1002, 1002, 1001))
	}
	for _, keys := range [][]int{nil, {5, 7}, {1001}, {1002}, {1001, 5}} {
		k := impl.Known{Keys: keys, Tags: tags}
		for _, m := range tagMakers() {
			wantLearn(t, k, m.of(1001, 1002, 5, 8))
			wantLearn(t, k, m.of(1002, 1001, 5, 7))
			wantCanMake(t, k, m.of(1001, 1002, 5, 7), true)
			wantCanMake(t, k, m.of(1001, 1001, 5, 7), slices.Contains(keys, 1001))
			wantCanMake(t, k, m.of(5, 7, 1001, 1002), slices.Contains(keys, 5) && slices.Contains(keys, 7))
		}
	}
}

// The first MaxTags Tags count, and no others: the Tag at place 300 is known, and that at place 301 is not.
func TestCanMakeAtEveryPlace(t *testing.T) {
	row := tagRow(mostTags + 4)
	for _, many := range []int{1, 2, mostTags - 1, mostTags, mostTags + 1, mostTags + 4} {
		k := learned(row[:many]...)
		for i, tag := range row {
			want := i < many && i < mostTags
			if got := impl.CanMake(k, tag); got != want {
				t.Errorf("CanMake of the Tag at place %d of %d is %v", i+1, many, got)
			}
		}
	}
	place300, place301 := row[299], row[300]
	wantCanMake(t, learned(row[:300]...), place300, true)
	wantCanMake(t, learned(row...), place300, true)
	wantCanMake(t, learned(row[:300]...), place301, false)
	wantCanMake(t, learned(row[:301]...), place301, false)
	// It stands at place 301 and at another one, or its keys are known.
	wantCanMake(t, learned(append([]impl.Tag{place301}, row...)...), place301, true)
	wantCanMake(t, learned(append(slices.Repeat(row[:1], mostTags), row[1])...), row[1], false)
	wantCanMake(t, learned(append(slices.Repeat(row[:1], mostTags-1), row[1])...), row[1], true)
	wantCanMake(t, impl.Known{Keys: []int{2001, 2002}, Tags: row}, place301, true)
	wantCanMake(t, impl.Known{Keys: []int{2001, 2003}, Tags: row}, place301, false)
	for _, many := range []int{256 + mostTags, 512, 1000, 2 * mostTags} {
		long := tagRow(many)
		wantCanMake(t, learned(long...), long[many-1], false)
		wantCanMake(t, learned(long...), long[0], true)
	}
}

// Without keys and without codes only the zero Tag can be produced.
func TestCanMakeWithoutKnowledge(t *testing.T) {
	for _, m := range tagMakers() {
		for _, n := range tagNumbers() {
			for _, tag := range []impl.Tag{m.of(n, n, n, n), m.of(n, 1, 0, 0), m.of(0, n, 0, 0), m.of(0, 0, 0, n)} {
				wantCanMake(t, impl.Known{}, tag, false)
				wantCanMake(t, impl.Known{Keys: []int{}, Tags: []impl.Tag{}}, tag, false)
				wantLearn(t, impl.Known{}, tag)
				// No keys, or no codes.
				wantCanMake(t, learned(tagRow(5)...), tag, false)
				wantCanMake(t, knows(-70, -71), tag, false)
			}
		}
	}
}

// A new code is appended behind the others; the keys stay.
func TestLearnOfANewTag(t *testing.T) {
	for _, m := range tagMakers() {
		for _, many := range []int{0, 1, 2, 10, mostTags - 2, mostTags - 1} {
			for _, keys := range [][]int{nil, {5, 7}, {1001}, {1002, 1002}, {7, 5, 7, 5}} {
				k := impl.Known{Keys: keys, Tags: tagRow(many)}
				wantLearn(t, k, m.of(1001, 1002, 33, 44))
				wantLearn(t, k, m.of(1001, 1002, 0, 0))
			}
		}
	}
}

// A code that was learned before, wherever it stands, one that both keys give, and the zero Tag change nothing.
func TestLearnOfATagThatCanBeMade(t *testing.T) {
	for _, many := range []int{0, 1, 2, 10, mostTags - 1, mostTags, mostTags + 1} {
		k := impl.Known{Keys: []int{5, 7, 5}, Tags: tagRow(many)}
		for i, tag := range k.Tags {
			if i < 3 || i > many-4 {
				wantNoLearn(t, k, tag)
			}
		}
		for _, m := range tagMakers() {
			wantNoLearn(t, k, m.of(5, 7, 33, 44))
			wantNoLearn(t, k, m.of(7, 5, 33, 44))
			wantNoLearn(t, k, m.of(5, 5, 33, 44))
		}
		wantNoLearn(t, k, tagOf(0, 5, 7, 0, 0))
		wantNoLearn(t, k, impl.Tag{})
	}
}

// There is room for MaxTags Tags: with 0 and with 299 one more is learned, with 300 and more none.
func TestLearnAtTheLimit(t *testing.T) {
	for _, m := range tagMakers() {
		tag := m.of(1001, 1002, 33, 44)
		for _, keys := range [][]int{nil, {5, 7}} {
			for _, many := range []int{0, 1, 298, 299} {
				wantLearn(t, impl.Known{Keys: keys, Tags: tagRow(many)}, tag)
			}
			for _, many := range []int{300, 301, 302, 512, 556, 600, 1000} {
				k := impl.Known{Keys: keys, Tags: tagRow(many)}
				wantNoLearn(t, k, tag)
				wantCanMake(t, impl.Learn(k, tag), tag, false)
			}
		}
	}
	// The Tag at place 301 cannot be produced, and there is no room to learn it.
	row := tagRow(301)
	wantNoLearn(t, learned(row...), row[300])
	wantCanMake(t, impl.Learn(learned(row...), row[300]), row[300], false)
	wantLearn(t, learned(row[:299]...), row[299])
	// Tags that stand there more than once take up their places.
	wantNoLearn(t, learned(slices.Repeat(row[:1], mostTags)...), row[1])
	wantLearn(t, learned(slices.Repeat(row[:1], mostTags-1)...), row[1])
	wantNoLearn(t, learned(make([]impl.Tag, mostTags)...), row[1])
	wantLearn(t, learned(make([]impl.Tag, mostTags-1)...), row[1])
}

// Of all codes that are sent to the attacker the first MaxTags are learned, in order, each of them once.
func TestLearnUntilFull(t *testing.T) {
	row := tagRow(mostTags + 20)
	k := knows(5, 7)
	for i, tag := range row {
		for _, sent := range []impl.Tag{tag, {}, row[0], tag, row[i/2], impl.TagBack(5, 7, i, i)} {
			k = impl.Learn(k, sent)
		}
		want := row[:min(i+1, mostTags)]
		if !slices.Equal(k.Tags, want) || !slices.Equal(k.Keys, []int{5, 7}) {
			t.Fatalf("after %d codes %v are known", i+1, k)
		}
	}
	for i, tag := range row {
		wantCanMake(t, k, tag, i < mostTags)
	}
}

// Promise 15: of all codes with small numbers the attacker produces those with both keys and those that it learned, and no others.
func TestOnlyBothKeysGiveACode(t *testing.T) {
	var all []impl.Tag
	for n := range 4 * 3 * 3 * 2 * 2 {
		all = append(all, tagOf(n%4, n/4%3, n/12%3, n/36%2, n/72))
	}
	random := rand.New(rand.NewSource(15))
	for selection := range 1 << 3 {
		var keys []int
		has := map[int]bool{}
		for key := range 3 {
			if selection>>key&1 == 1 {
				keys = append(keys, key)
				has[key] = true
			}
		}
		for range 20 {
			k := knows(keys...)
			sent := map[impl.Tag]bool{{}: true}
			for range random.Intn(40) {
				tag := all[random.Intn(len(all))]
				k = impl.Learn(k, tag)
				sent[tag] = true
			}
			for _, tag := range all {
				want := sent[tag] || has[tag.One] && has[tag.Two]
				wantCanMake(t, k, tag, want)
			}
			if len(k.Tags) > len(sent) || !slices.Equal(k.Keys, keys) {
				t.Errorf("of %d codes %v is learned", len(sent), k)
			}
		}
	}
}

// The attacker provokes codes of both endpoints and learns them all. None of them, nor its own keys, gives it the code that it needs for a join of its own.
func TestCodesOfTheEndpointsAreOfNoUseForOthers(t *testing.T) {
	const keyOfA, keyOfB = 1001, 1002
	k := knows(5, 7)
	for n := range 60 {
		k = impl.Learn(k, impl.TagBack(keyOfB, keyOfA, 1006+2*n, 3))
		k = impl.Learn(k, impl.TagDone(keyOfA, keyOfB, 1005+2*n, 1006+2*n))
		k = impl.Learn(k, impl.TagAddr(keyOfA, keyOfB, n, 11+n))
	}
	if len(k.Tags) != 180 {
		t.Fatalf("%d codes are learned", len(k.Tags))
	}
	for n := range 60 {
		// The code that B asks for after its TagBack: the one with which the attacker's join would be done.
		wantCanMake(t, k, impl.TagDone(keyOfA, keyOfB, 3, 1006+2*n), false)
		// A code of one purpose, or of one direction, is none of another.
		wantCanMake(t, k, impl.TagDone(keyOfB, keyOfA, 1006+2*n, 3), false)
		wantCanMake(t, k, impl.TagDone(keyOfA, keyOfB, 1006+2*n, 3), false)
		wantCanMake(t, k, impl.TagBack(keyOfA, keyOfB, 1006+2*n, 3), false)
		wantCanMake(t, k, impl.TagBack(keyOfB, keyOfA, 3, 1006+2*n), false)
		wantCanMake(t, k, impl.TagBack(keyOfA, keyOfB, 1005+2*n, 1006+2*n), false)
		// An address, or an Id, of its own.
		wantCanMake(t, k, impl.TagAddr(keyOfA, keyOfB, n, 10+n), false)
		wantCanMake(t, k, impl.TagAddr(keyOfA, keyOfB, n+1, 11+n), false)
		wantCanMake(t, k, impl.TagAddr(keyOfB, keyOfA, n, 11+n), false)
		// Its own keys are those of neither endpoint.
		wantCanMake(t, k, impl.TagDone(5, keyOfB, 3, 1006+2*n), false)
		wantCanMake(t, k, impl.TagDone(keyOfA, 7, 3, 1006+2*n), false)
		wantCanMake(t, k, impl.TagDone(5, 7, 3, 1006+2*n), true)
	}
}

// anyTag returns a Tag with few numbers, so that many are equal.
func anyTag(r *rand.Rand) impl.Tag {
	tag := tagOf(r.Intn(4), r.Intn(4), r.Intn(4), r.Intn(2), r.Intn(2))
	if r.Intn(10) == 0 {
		numbers := tagNumbers()
		tag = tagFields()[r.Intn(5)].set(tag, numbers[r.Intn(len(numbers))])
	}
	return tag
}

// Random knowledge, also with more than MaxTags Tags, and with keys and Tags that stand there more than once.
func TestRandomKnowledge(t *testing.T) {
	random := rand.New(rand.NewSource(151))
	sizes := []int{0, 1, 2, 5, 20, 299, 300, 301, 310}
	can, full := 0, 0
	for range 3000 {
		k := impl.Known{Keys: make([]int, random.Intn(4)), Tags: make([]impl.Tag, sizes[random.Intn(len(sizes))])}
		for i := range k.Keys {
			k.Keys[i] = random.Intn(5) - 1
		}
		// Few of the Tags are ones that may be asked for, so that they are rare in a long list too.
		for i := range k.Tags {
			k.Tags[i] = tagOf(9, i, i, i, i)
			if random.Intn(20) == 0 || len(k.Tags) < 6 {
				k.Tags[i] = anyTag(random)
			}
		}
		asked := []impl.Tag{anyTag(random), anyTag(random)}
		if many := len(k.Tags); many > 0 {
			asked = append(asked, k.Tags[random.Intn(many)], k.Tags[many-1])
		}
		for _, tag := range asked {
			wantTableKnown(t, k, tag)
			if tableCanMake(k, tag) {
				can++
			} else if len(k.Tags) >= mostTags {
				full++
			}
		}
	}
	if can < 2000 || can > 9000 || full < 1000 {
		t.Errorf("%d of the codes can be made, and %d are not learned", can, full)
	}
}

// Each result of Learn belongs to the caller alone: changing it, or the argument, changes no other result.
func TestKnowledgeIsNewMemory(t *testing.T) {
	for _, tag := range []impl.Tag{{}, impl.TagBack(1001, 1002, 3, 4), impl.TagDone(5, 7, 3, 4), tagRow(1)[0]} {
		for _, many := range []int{0, 1, 3, 299, 300, 301} {
			row := tagRow(many)
			wantOwnLists(t, "Learn of Tags", row, tagOf(8, 8, 8, 8, 8), func(tags []impl.Tag) []impl.Tag {
				return impl.Learn(impl.Known{Keys: []int{5, 7}, Tags: tags}, tag).Tags
			})
			for _, keys := range [][]int{nil, {5}, {5, 7}, {7, 5, 5}} {
				wantOwnLists(t, "Learn of Keys", keys, 8, func(keys []int) []int {
					return impl.Learn(impl.Known{Keys: keys, Tags: row}, tag).Keys
				})
			}
		}
	}
}
