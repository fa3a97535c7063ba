package tests

import (
	"math"
	"math/big"
	"slices"
	"strconv"
	"sync"
	"testing"

	"loop.example/g00541/impl"
)

const milliard = 1000000000

// ruleGoodSet holds each two numbers against each other.
func ruleGoodSet(l []int) bool {
	for j, y := range l {
		if y < 1 || y > 60 {
			return false
		}
		for _, x := range l[:j] {
			if x >= y {
				return false
			}
		}
	}
	return len(l) <= 20
}

// rulePowers counts sum by sum; it takes any numbers.
func rulePowers(l []int, upto int) []int {
	var sums []int
	for k := 1; k <= upto; k++ {
		sum := new(big.Int)
		for _, x := range l {
			sum.Add(sum, new(big.Int).Exp(big.NewInt(int64(x)), big.NewInt(int64(k)), nil))
		}
		sums = append(sums, int(sum.Int64()))
	}
	return sums
}

// eachOf shows all choices of so many of the numbers, in their order.
func eachOf(l []int, many int, show func(some []int)) {
	var more func(some []int, rest []int)
	more = func(some []int, rest []int) {
		if len(some) == many {
			show(some)
			return
		}
		for i := range rest {
			more(append(slices.Clone(some), rest[i]), rest[i+1:])
		}
	}
	more(nil, l)
}

// ruleProducts makes each product apart; it takes any numbers.
func ruleProducts(l []int, upto int) []int {
	var sums []int
	for k := 1; k <= upto; k++ {
		sum := 0
		eachOf(l, k, func(some []int) {
			product := 1
			for _, x := range some {
				product *= x
			}
			sum += product
		})
		sums = append(sums, sum)
	}
	return sums
}

func ruleGoodTerms(l []int) bool {
	return len(l) <= 4 && !slices.ContainsFunc(l, func(x int) bool { return x < -milliard || x > milliard })
}

// girard is one of the forms that have no e: a number, and how often each p is a factor of it.
type girard struct {
	times int64
	p     [4]int
}

// girardForms are those of 1, 2, 6 and 24 times e(1) to e(4).
var girardForms = [][]girard{
	{{1, [4]int{1}}},
	{{1, [4]int{2}}, {-1, [4]int{0, 1}}},
	{{1, [4]int{3}}, {-3, [4]int{1, 1}}, {2, [4]int{0, 0, 1}}},
	{{1, [4]int{4}}, {-6, [4]int{2, 1}}, {3, [4]int{0, 2}}, {8, [4]int{1, 0, 1}}, {-6, [4]int{0, 0, 0, 1}}},
}

func ruleForm(form []girard, p []int) *big.Int {
	sum := new(big.Int)
	for _, g := range form {
		product := big.NewInt(g.times)
		for i, often := range g.p {
			for range often {
				product.Mul(product, big.NewInt(int64(p[i])))
			}
		}
		sum.Add(sum, product)
	}
	return sum
}

// ruleElementary tells each e by the p alone, in numbers of any size.
func ruleElementary(p []int) ([]int, bool) {
	if !ruleGoodTerms(p) {
		return nil, false
	}
	var l []int
	for k := range p {
		by := big.NewInt([]int64{1, 2, 6, 24}[k])
		e, rest := new(big.Int).QuoRem(ruleForm(girardForms[k], p), by, new(big.Int))
		if rest.Sign() != 0 || new(big.Int).Abs(e).Cmp(big.NewInt(milliard)) > 0 {
			return nil, false
		}
		l = append(l, int(e.Int64()))
	}
	return l, true
}

// ruleValue adds power by power, in numbers of any size.
func ruleValue(e []int, x int) (int, bool) {
	if !ruleGoodTerms(e) || x < 0 || x > 60 {
		return 0, false
	}
	sum := new(big.Int)
	for k, term := range append([]int{1}, e...) {
		power := new(big.Int).Exp(big.NewInt(int64(x)), big.NewInt(int64(len(e)-k)), nil)
		power.Mul(power, big.NewInt(int64(term)))
		if k%2 == 1 {
			power.Neg(power)
		}
		sum.Add(sum, power)
	}
	return int(sum.Int64()), true
}

func ruleRoots(e []int) ([]int, bool) {
	var l []int
	for x := 1; x <= 60; x++ {
		if value, ok := ruleValue(e, x); ok && value == 0 {
			l = append(l, x)
		}
	}
	if !ruleGoodTerms(e) || len(l) != len(e) {
		return nil, false
	}
	return l, true
}

func ruleLess(a []int, b []int) ([]int, bool) {
	if len(a) != len(b) || !ruleGoodTerms(a) || !ruleGoodTerms(b) {
		return nil, false
	}
	var l []int
	for k := range a {
		l = append(l, a[k]-b[k])
	}
	if !ruleGoodTerms(l) {
		return nil, false
	}
	return l, true
}

// lacking are so many sums, as a key.
type lacking struct {
	many int
	sums [4]int
}

func lackingOf(sums []int) lacking {
	key := lacking{many: len(sums)}
	copy(key.sums[:], sums)
	return key
}

// allLacking has every choice of at most four numbers under its own sums: no e and no root is asked for.
var allLacking = sync.OnceValue(func() map[lacking][4]int {
	all := map[lacking][4]int{{}: {}}
	var more func(key lacking, numbers [4]int, from int)
	more = func(key lacking, numbers [4]int, from int) {
		for x := from; x <= 60 && key.many < 4; x++ {
			next := lacking{many: key.many + 1, sums: key.sums}
			for k, power := 0, x; k < 4; k, power = k+1, power*x {
				next.sums[k] += power
			}
			with := numbers
			with[key.many] = x
			// Only as many sums as there are numbers are told.
			told := next
			clear(told.sums[told.many:])
			all[told] = with
			more(next, with, x+1)
		}
	}
	more(lacking{}, [4]int{}, 1)
	return all
})

// ruleLacked looks for numbers that, with own, have these sums, and make a set with it.
func ruleLacked(own []int, sums []int) ([]int, bool) {
	if !ruleGoodSet(own) || len(sums) > 4 || len(own)+len(sums) > 20 || !ruleGoodTerms(sums) {
		return nil, false
	}
	left := slices.Clone(sums)
	for k, had := range rulePowers(own, len(sums)) {
		left[k] -= had
	}
	numbers, ok := allLacking()[lackingOf(left)]
	lacked := numbers[:len(sums)]
	if !ok || slices.ContainsFunc(lacked, func(x int) bool { return slices.Contains(own, x) }) {
		return nil, false
	}
	return lacked, true
}

func numbersName(l []int) string {
	return namesOf(l, strconv.Itoa)
}

func wantElementary(t *testing.T, p []int) bool {
	t.Helper()
	want, wantOk := ruleElementary(p)
	e, ok := impl.ElementaryOf(p)
	wantNumbers(t, "elementary of "+numbersName(p), e, ok, want, wantOk)
	return ok
}

func wantElementaryIs(t *testing.T, p []int, want []int, wantOk bool) {
	t.Helper()
	wantElementary(t, p)
	e, ok := impl.ElementaryOf(p)
	wantNumbers(t, "elementary of "+numbersName(p), e, ok, want, wantOk)
}

func wantValue(t *testing.T, e []int, x int) {
	t.Helper()
	want, wantOk := ruleValue(e, x)
	value, ok := impl.ValueAt(e, x)
	wantNumber(t, numbersName(e)+" at "+strconv.Itoa(x), value, ok, want, wantOk)
}

func wantRoots(t *testing.T, e []int) bool {
	t.Helper()
	want, wantOk := ruleRoots(e)
	l, ok := impl.RootsOf(e)
	wantNumbers(t, "roots of "+numbersName(e), l, ok, want, wantOk)
	return ok
}

func wantRootsAre(t *testing.T, e []int, want []int, wantOk bool) {
	t.Helper()
	wantRoots(t, e)
	l, ok := impl.RootsOf(e)
	wantNumbers(t, "roots of "+numbersName(e), l, ok, want, wantOk)
}

func wantLess(t *testing.T, a []int, b []int) bool {
	t.Helper()
	want, wantOk := ruleLess(a, b)
	l, ok := impl.LessSums(a, b)
	wantNumbers(t, numbersName(a)+" less "+numbersName(b), l, ok, want, wantOk)
	return ok
}

func wantLacked(t *testing.T, own []int, sums []int) bool {
	t.Helper()
	want, wantOk := ruleLacked(own, sums)
	l, ok := impl.LackedBy(own, sums)
	wantNumbers(t, "of "+numbersName(own)+" and "+numbersName(sums), l, ok, want, wantOk)
	return ok
}

func wantNoLacked(t *testing.T, own []int, sums []int) {
	t.Helper()
	if wantLacked(t, own, sums) {
		t.Errorf("of %s and %s: is not refused", numbersName(own), numbersName(sums))
	}
}

// wantSums holds both kinds of sums of a list, a set or not, against the rules.
func wantSums(t *testing.T, l []int, upto int) {
	t.Helper()
	what := numbersName(l) + " up to " + strconv.Itoa(upto)
	isGood := ruleGoodSet(l) && upto >= 0 && upto <= 4
	var powers, products []int
	if isGood {
		powers, products = rulePowers(l, upto), ruleProducts(l, upto)
	}
	got, ok := impl.PowerSums(l, upto)
	wantNumbers(t, "powers of "+what, got, ok, powers, isGood)
	got, ok = impl.SumsOf(l, upto)
	wantNumbers(t, "products of "+what, got, ok, products, isGood)
}

// wantNoSet has a list refused by all that ask for a set.
func wantNoSet(t *testing.T, l []int) {
	t.Helper()
	if impl.GoodSet(l) {
		t.Errorf("%s: is good", numbersName(l))
	}
	for upto := range 5 {
		got, ok := impl.PowerSums(l, upto)
		wantNumbers(t, "powers of "+numbersName(l), got, ok, nil, false)
		got, ok = impl.SumsOf(l, upto)
		wantNumbers(t, "products of "+numbersName(l), got, ok, nil, false)
		sums := rulePowers(append(slices.Clone(l), fromTo(31, 30+upto)...), upto)
		got, ok = impl.LackedBy(l, sums)
		wantNumbers(t, "lacked by "+numbersName(l), got, ok, nil, false)
	}
}

func wantSet(t *testing.T, l []int) {
	t.Helper()
	if !impl.GoodSet(l) {
		t.Errorf("%s: is not good", numbersName(l))
	}
	for upto := range 5 {
		wantSums(t, l, upto)
	}
	got, ok := impl.LackedBy(l, nil)
	wantNumbers(t, "nothing lacked by "+numbersName(l), got, ok, nil, true)
}

func fromTo(from int, to int) []int {
	var l []int
	for x := from; x <= to; x++ {
		l = append(l, x)
	}
	return l
}

// someSet has so many of the numbers from 1 to high.
func someSet(n *numbers, many int, high int) []int {
	return slices.Sorted(slices.Values(mixed(n, fromTo(1, high))[:many]))
}

// mixedSets shows sets of every size, some of small, great, near and far numbers.
func mixedSets(each int, show func(n *numbers, l []int)) {
	for many := range 21 {
		show(&numbers{seed: uint64(many)}, fromTo(1, many))
		show(&numbers{seed: uint64(many)}, fromTo(61-many, 60))
		for i := range each {
			n := &numbers{seed: uint64(13000 + 100*many + i)}
			show(n, someSet(n, many, []int{60, 60, 30, 21}[i%4]))
		}
	}
}

// fewSets shows every set of at most three numbers, and those of four of some.
func fewSets(show func(l []int)) {
	for many := range 4 {
		eachOf(fromTo(1, 60), many, show)
	}
	eachOf([]int{1, 2, 3, 4, 5, 7, 11, 13, 16, 20, 29, 30, 31, 32, 41, 50, 55, 56, 57, 58, 59, 60}, 4, show)
}

func TestSetConstants(t *testing.T) {
	if impl.MaxNumber != 60 || impl.MaxLack != 4 {
		t.Error(impl.MaxNumber, impl.MaxLack)
	}
}

func TestSetsOfFewNumbers(t *testing.T) {
	eachList(4, []int{-1, 0, 1, 2, 59, 60, 61}, func(l []int) {
		if ruleGoodSet(l) {
			wantSet(t, l)
		} else {
			wantNoSet(t, l)
		}
	})
	for x := -70; x <= 130; x++ {
		if got := impl.GoodSet([]int{x}); got != (x >= 1 && x <= 60) {
			t.Errorf("a set of %d: good is %v", x, got)
		}
	}
	wantSet(t, nil)
	wantSet(t, []int{})
	wantSet(t, make([]int, 0, 4))
}

func TestSetsOfEveryMany(t *testing.T) {
	for many := range 61 {
		for _, l := range [][]int{fromTo(1, many), fromTo(61-many, 60)} {
			if many <= 20 {
				wantSet(t, l)
			} else {
				wantNoSet(t, l)
			}
		}
	}
	wantNoSet(t, make([]int, 21))
	wantNoSet(t, make([]int, 100000))
	wantNoSet(t, fromTo(1, 100000))
}

// Wherever the one stands that does not rise, or is none of the numbers.
func TestSetsWithOneWrongNumber(t *testing.T) {
	for _, many := range []int{1, 2, 3, 19, 20} {
		for at := range many {
			good := fromTo(21, 20+many)
			for _, wrong := range append([]int{0, 61, 62, 1000, 1<<32 + 21 + at}, wrongNumbers...) {
				l := slices.Clone(good)
				l[at] = wrong
				wantNoSet(t, l)
			}
			if at == 0 {
				continue
			}
			alike := slices.Clone(good)
			alike[at] = alike[at-1]
			wantNoSet(t, alike)
			falls := slices.Clone(good)
			falls[at], falls[at-1] = falls[at-1], falls[at]
			wantNoSet(t, falls)
			less := slices.Clone(good)
			less[at] = 1
			wantNoSet(t, less)
		}
		falling := fromTo(21, 20+many)
		slices.Reverse(falling)
		if many > 1 {
			wantNoSet(t, falling)
		}
	}
}

func TestSumsOfSetsKnownByHand(t *testing.T) {
	for _, c := range []struct {
		l        []int
		powers   []int
		products []int
	}{
		{nil, []int{0, 0, 0, 0}, []int{0, 0, 0, 0}},
		{[]int{1}, []int{1, 1, 1, 1}, []int{1, 0, 0, 0}},
		{[]int{60}, []int{60, 3600, 216000, 12960000}, []int{60, 0, 0, 0}},
		{[]int{3, 4}, []int{7, 25, 91, 337}, []int{7, 12, 0, 0}},
		{[]int{1, 60}, []int{61, 3601, 216001, 12960001}, []int{61, 60, 0, 0}},
		{[]int{1, 2, 3}, []int{6, 14, 36, 98}, []int{6, 11, 6, 0}},
		{[]int{1, 2, 3, 4}, []int{10, 30, 100, 354}, []int{10, 35, 50, 24}},
		{[]int{57, 58, 59, 60}, []int{234, 13694, 801684, 46949858}, []int{234, 20531, 800514, 11703240}},
		{[]int{1, 2, 3, 4, 5}, []int{15, 55, 225, 979}, []int{15, 85, 225, 274}},
		{fromTo(1, 20), []int{210, 2870, 44100, 722666}, []int{210, 20615, 1256850, 53327946}},
		// What its own products come to is beyond what ElementaryOf takes: no limit is told for it.
		{fromTo(41, 60), []int{1010, 51670, 2676500, 140290666}, []int{1010, 484215, 146515650, 31381097946}},
	} {
		for upto := range 5 {
			what := numbersName(c.l) + " up to " + strconv.Itoa(upto)
			got, ok := impl.PowerSums(c.l, upto)
			wantNumbers(t, "powers of "+what, got, ok, c.powers[:upto], true)
			got, ok = impl.SumsOf(c.l, upto)
			wantNumbers(t, "products of "+what, got, ok, c.products[:upto], true)
			wantSums(t, c.l, upto)
		}
	}
}

func TestSumsOfMixedSets(t *testing.T) {
	mixedSets(4, func(n *numbers, l []int) {
		wantSet(t, l)
	})
}

// Promise 19: upto of 0 and MaxLack are met, -1 and one more are not.
func TestSumsUpToAnything(t *testing.T) {
	for _, l := range [][]int{nil, {1}, {3, 4}, {1, 2, 3, 4, 5}, fromTo(1, 20), fromTo(41, 60), {2, 1}, {0}, {61}, fromTo(1, 21)} {
		for upto := -3; upto <= 25; upto++ {
			wantSums(t, l, upto)
		}
		for _, upto := range wrongNumbers {
			wantSums(t, l, upto)
		}
		wantSums(t, l, 1<<32)
		wantSums(t, l, 1<<32+2)
	}
}

func TestElementaryKnownByHand(t *testing.T) {
	for _, c := range []struct {
		p    []int
		want []int
		ok   bool
	}{
		{nil, nil, true},
		{[]int{}, nil, true},
		{[]int{5}, []int{5}, true},
		{[]int{0}, []int{0}, true},
		{[]int{-5}, []int{-5}, true},
		{[]int{7, 25}, []int{7, 12}, true},
		{[]int{6, 14, 36}, []int{6, 11, 6}, true},
		{[]int{10, 30, 100, 354}, []int{10, 35, 50, 24}, true},
		{[]int{0, 0, 0, 0}, []int{0, 0, 0, 0}, true},
		// Numbers that are alike have sums as well, and so have negative ones.
		{[]int{6, 18}, []int{6, 9}, true},
		{[]int{-3, 5, -9}, []int{-3, 2, 0}, true},
		{[]int{0, 2}, []int{0, -1}, true},
		{[]int{0, -2}, []int{0, 1}, true},
		// It can't be divided by 2.
		{[]int{1, 0}, nil, false},
		{[]int{0, 1}, nil, false},
		{[]int{0, -1}, nil, false},
		{[]int{7, 24}, nil, false},
		{[]int{1, 2, 3, 4}, nil, false},
		// It can't be divided by 3, from below and from above.
		{[]int{0, 0, 1}, nil, false},
		{[]int{0, 0, 2}, nil, false},
		{[]int{0, 0, -1}, nil, false},
		{[]int{0, 0, -2}, nil, false},
		{[]int{0, 0, 3}, []int{0, 0, 1}, true},
		{[]int{0, 0, -3}, []int{0, 0, -1}, true},
		{[]int{6, 14, 37}, nil, false},
		{[]int{0, 0, 1, 4}, nil, false},
		// It can't be divided by 4: 2 is not enough.
		{[]int{0, 0, 0, 1}, nil, false},
		{[]int{0, 0, 0, 2}, nil, false},
		{[]int{0, 0, 0, -2}, nil, false},
		{[]int{0, 0, 0, 3}, nil, false},
		{[]int{0, 0, 0, 4}, []int{0, 0, 0, -1}, true},
		{[]int{0, 0, 0, -4}, []int{0, 0, 0, 1}, true},
		{[]int{10, 30, 100, 352}, nil, false},
		{[]int{10, 30, 100, 350}, []int{10, 35, 50, 25}, true},
		// One that can't be divided is none, also where a later one could be.
		{[]int{1, 0, 1}, nil, false},
		{[]int{0, 1, 0, 0}, nil, false},
		// Five are too many.
		{[]int{0, 0, 0, 0, 0}, nil, false},
		{[]int{15, 55, 225, 979, 4425}, nil, false},
	} {
		wantElementaryIs(t, c.p, c.want, c.ok)
	}
}

// Each k in its turn: just the limit is told, one beyond it is not.
func TestElementaryAtItsLimits(t *testing.T) {
	for _, c := range []struct {
		p    []int
		want []int
		ok   bool
	}{
		{[]int{milliard}, []int{milliard}, true},
		{[]int{-milliard}, []int{-milliard}, true},
		{[]int{milliard + 1}, nil, false},
		{[]int{-milliard - 1}, nil, false},
		// (44721 to the 2, less p(2)) by 2.
		{[]int{44721, -32159}, []int{44721, milliard}, true},
		{[]int{44721, -32161}, nil, false},
		{[]int{-44721, -32159}, []int{-44721, milliard}, true},
		{[]int{-44721, -32161}, nil, false},
		{[]int{0, milliard}, []int{0, -milliard / 2}, true},
		{[]int{0, -milliard}, []int{0, milliard / 2}, true},
		{[]int{0, milliard + 2}, nil, false},
		{[]int{0, -milliard - 2}, nil, false},
		// (4 less 3 p(2) more p(3)) by 3.
		{[]int{2, -999999998, 2}, []int{2, 500000001, milliard}, true},
		{[]int{2, -999999998, 5}, nil, false},
		{[]int{2, milliard, -4}, []int{2, -499999998, -milliard}, true},
		{[]int{2, milliard, -7}, nil, false},
		{[]int{0, 0, milliard - 1}, []int{0, 0, 333333333}, true},
		{[]int{0, 0, milliard + 2}, nil, false},
		{[]int{0, 0, -milliard - 2}, nil, false},
		// (p(2) to the 2 by 2, less p(4)) by 4.
		{[]int{0, 89444, 0, 114568}, []int{0, -44722, 0, milliard}, true},
		{[]int{0, 89444, 0, 114564}, nil, false},
		{[]int{4, 0, -750000002, 32}, []int{4, 8, -249999990, -milliard}, true},
		{[]int{4, 0, -750000002, 36}, nil, false},
		{[]int{0, 0, 0, milliard}, []int{0, 0, 0, -milliard / 4}, true},
		{[]int{0, 0, 0, -milliard}, []int{0, 0, 0, milliard / 4}, true},
		{[]int{0, 0, 0, milliard + 4}, nil, false},
		{[]int{0, 0, 0, -milliard - 4}, nil, false},
		// One that is out of range ends it, also where a later one is within.
		{[]int{44722, 0, 0}, nil, false},
		{[]int{milliard, milliard}, nil, false},
		{[]int{milliard, -milliard, milliard, -milliard}, nil, false},
	} {
		wantElementaryIs(t, c.p, c.want, c.ok)
	}
}

func TestElementaryOfEveryFewSums(t *testing.T) {
	told := 0
	for _, of := range [][]int{fromTo(-4, 6), {-milliard - 1, -milliard, -milliard + 1, -2, 0, 1, milliard - 1, milliard, milliard + 1}, {-44721, -1001, 0, 6, 999, 44722}} {
		eachList(4, of, func(p []int) {
			if wantElementary(t, p) {
				told++
			}
		})
	}
	if told < 500 {
		t.Errorf("only %d are told", told)
	}
}

// Those of numbers can all be divided; those that are off by a little mostly can't.
func TestElementaryOfMixedSums(t *testing.T) {
	told := 0
	for i := range 6000 {
		n := &numbers{seed: uint64(14000 + i)}
		var l []int
		for range n.below(5) {
			l = append(l, n.below(121)-60)
		}
		p := rulePowers(l, len(l))
		if wantElementary(t, p) {
			told++
		}
		e, ok := impl.ElementaryOf(p)
		wantNumbers(t, "elementary of the powers of "+numbersName(l), e, ok, ruleProducts(l, len(l)), true)
		for k := range p {
			off := slices.Clone(p)
			off[k] += n.below(25) - 12
			wantElementary(t, off)
		}
	}
	if told != 6000 {
		t.Errorf("%d of 6000 are told", told)
	}
}

// Promise 19: each p by itself, beyond the limit or far from it.
func TestElementaryOfWrongSums(t *testing.T) {
	for many := 1; many <= 4; many++ {
		for at := range many {
			for _, wrong := range append([]int{milliard + 1, -milliard - 1, milliard + 12, -milliard - 12, 1 << 32, 1 << 33, 1 << 62, -1 << 62, 24 << 40}, wrongNumbers...) {
				p := make([]int, many)
				p[at] = wrong
				wantElementary(t, p)
				wantRoots(t, p)
				wantValue(t, p, 1)
				wantLess(t, p, make([]int, many))
				wantLess(t, make([]int, many), p)
				wantLess(t, p, p)
				if wrong < -milliard || wrong > milliard {
					wantElementaryIs(t, p, nil, false)
					wantRootsAre(t, p, nil, false)
				}
			}
		}
	}
	for _, many := range []int{5, 6, 20, 100000} {
		wantElementaryIs(t, make([]int, many), nil, false)
		wantRootsAre(t, make([]int, many), nil, false)
		wantValue(t, make([]int, many), 1)
		wantLess(t, make([]int, many), make([]int, many))
		wantNoLacked(t, nil, make([]int, many))
	}
}

// Promise 12: of every few numbers the sums of powers tell the sums of products, and these the numbers.
func TestFewNumbersAreToldByTheirSums(t *testing.T) {
	fewSets(func(l []int) {
		powers, ok1 := impl.PowerSums(l, len(l))
		products, ok2 := impl.SumsOf(l, len(l))
		e, ok3 := impl.ElementaryOf(powers)
		back, ok4 := impl.RootsOf(products)
		if !ok1 || !ok2 || !ok3 || !ok4 || !slices.Equal(e, products) || !slices.Equal(back, l) {
			t.Errorf("%v: powers %v, products %v, elementary %v, roots %v", l, powers, products, e, back)
		}
		lacked, ok := impl.LackedBy(nil, powers)
		wantNumbers(t, "all of "+numbersName(l)+" lacked", lacked, ok, l, true)
	})
}

// Promise 12: also where there are more or fewer sums than numbers; only what is beyond the limit is refused.
func TestElementaryOfPowerSumsIsSumsOf(t *testing.T) {
	beyond := 0
	mixedSets(30, func(n *numbers, l []int) {
		for upto := range 5 {
			powers, _ := impl.PowerSums(l, upto)
			products, _ := impl.SumsOf(l, upto)
			e, ok := impl.ElementaryOf(powers)
			within := ruleGoodTerms(products)
			if !within {
				beyond++
				products = nil
			}
			wantNumbers(t, numbersName(l)+" up to "+strconv.Itoa(upto), e, ok, products, within)
		}
	})
	if beyond < 50 {
		t.Errorf("only %d are beyond the limit", beyond)
	}
}

// Promise 12: the value is 0 at the numbers, and at no other.
func TestValueIsNoughtAtTheNumbersAlone(t *testing.T) {
	at := 0
	fewSets(func(l []int) {
		// Of three and more only some, as there are so many.
		if at++; len(l) > 2 && at%11 != 0 {
			return
		}
		e, _ := impl.SumsOf(l, len(l))
		for x := range 61 {
			value, ok := impl.ValueAt(e, x)
			if !ok || (value == 0) != slices.Contains(l, x) {
				t.Errorf("%v at %d: got %d %v", l, x, value, ok)
			}
			product := 1
			for _, root := range l {
				product *= x - root
			}
			wantNumber(t, numbersName(l)+" at "+strconv.Itoa(x), value, ok, product, true)
		}
	})
}

func TestValuesKnownByHand(t *testing.T) {
	for _, c := range []struct {
		e     []int
		x     int
		value int
		ok    bool
	}{
		// x to the 0 is 1, also for 0.
		{nil, 0, 1, true},
		{nil, 1, 1, true},
		{[]int{}, 60, 1, true},
		{nil, -1, 0, false},
		{nil, 61, 0, false},
		{[]int{5}, 0, -5, true},
		{[]int{5}, 5, 0, true},
		{[]int{5}, 60, 55, true},
		{[]int{-5}, 0, 5, true},
		{[]int{7, 12}, 0, 12, true},
		{[]int{7, 12}, 2, 2, true},
		{[]int{7, 12}, 3, 0, true},
		{[]int{7, 12}, 60, 3192, true},
		{[]int{6, 11, 6}, 0, -6, true},
		{[]int{6, 11, 6}, 4, 6, true},
		{[]int{10, 35, 50, 24}, 0, 24, true},
		{[]int{10, 35, 50, 24}, 4, 0, true},
		{[]int{10, 35, 50, 24}, 5, 24, true},
		{[]int{0, 0, 0, 0}, 60, 12960000, true},
		{[]int{0, 0, 0, 0}, 61, 0, false},
		{[]int{0, 0, 0, 0}, -1, 0, false},
		{[]int{0, 0, 0, 0, 0}, 1, 0, false},
		{[]int{milliard}, 60, 60 - milliard, true},
		{[]int{-milliard}, 60, 60 + milliard, true},
		{[]int{milliard + 1}, 60, 0, false},
		{[]int{-milliard - 1}, 60, 0, false},
		{[]int{0, 0, 0, milliard}, 0, milliard, true},
		{[]int{0, 0, 0, milliard + 1}, 0, 0, false},
		// All of one sign: nothing wraps round.
		{[]int{-milliard, milliard, -milliard, milliard}, 60, 12960000 + milliard*(216000+3600+60+1), true},
		{[]int{milliard, -milliard, milliard, -milliard}, 60, 12960000 - milliard*(216000+3600+60+1), true},
	} {
		value, ok := impl.ValueAt(c.e, c.x)
		wantNumber(t, numbersName(c.e)+" at "+strconv.Itoa(c.x), value, ok, c.value, c.ok)
		wantValue(t, c.e, c.x)
	}
}

func TestValuesOfEveryFewSums(t *testing.T) {
	eachList(4, []int{-milliard - 1, -milliard, -61, -1, 0, 1, 60, milliard, milliard + 1}, func(e []int) {
		for _, x := range []int{-1, 0, 1, 2, 59, 60, 61} {
			wantValue(t, e, x)
		}
	})
	for _, e := range [][]int{nil, {5}, {7, 12}, {6, 11, 6}, {10, 35, 50, 24}} {
		for x := -70; x <= 130; x++ {
			wantValue(t, e, x)
		}
		for _, x := range append([]int{1 << 32, 1<<32 + 3, 1 << 62}, wrongNumbers...) {
			wantValue(t, e, x)
		}
	}
}

func TestRootsKnownByHand(t *testing.T) {
	for _, c := range []struct {
		e    []int
		want []int
		ok   bool
	}{
		{nil, nil, true},
		{[]int{}, nil, true},
		{[]int{1}, []int{1}, true},
		{[]int{60}, []int{60}, true},
		{[]int{0}, nil, false},
		{[]int{61}, nil, false},
		{[]int{-1}, nil, false},
		{[]int{milliard}, nil, false},
		{[]int{-milliard}, nil, false},
		{[]int{7, 12}, []int{3, 4}, true},
		{[]int{61, 60}, []int{1, 60}, true},
		{[]int{119, 3540}, []int{59, 60}, true},
		// Alike ones: 3 and 3; 1, 1 and 2; 5 four times; 2, 2, 7 and 7.
		{[]int{6, 9}, nil, false},
		{[]int{4, 5, 2}, nil, false},
		{[]int{20, 150, 500, 625}, nil, false},
		{[]int{18, 109, 252, 196}, nil, false},
		// Out of the numbers: 0 and 1; 60 and 61; -1 and 2; 1, 2 and 0.
		{[]int{1, 0}, nil, false},
		{[]int{121, 3660}, nil, false},
		{[]int{1, -2}, nil, false},
		{[]int{3, 2, 0}, nil, false},
		// None: x to the 2 and 1; x to the 2, less 2; and one of three alone.
		{[]int{0, 1}, nil, false},
		{[]int{0, -2}, nil, false},
		{[]int{1, 1, 1}, nil, false},
		{[]int{0, 0}, nil, false},
		{[]int{0, 0, 0, 0}, nil, false},
		{[]int{10, 35, 50, 24}, []int{1, 2, 3, 4}, true},
		{[]int{234, 20531, 800514, 11703240}, []int{57, 58, 59, 60}, true},
		{[]int{10, 35, 50, 24, 0}, nil, false},
		{[]int{0, 0, 0, 0, 0}, nil, false},
		// Five that are 1 to 5.
		{[]int{15, 85, 225, 274, 120}, nil, false},
		{[]int{milliard + 1}, nil, false},
		{[]int{7, 12, milliard + 1}, nil, false},
		// Wrapped round these would be 2 and 4, and 1 to 4.
		{[]int{math.MinInt + 6, 8}, nil, false},
		{[]int{10, math.MinInt + 35, math.MinInt + 50, 24}, nil, false},
	} {
		wantRootsAre(t, c.e, c.want, c.ok)
	}
}

// The numbers that are chosen, in any order and out of 1..60 as well: they come back where they are a set.
func TestRootsOfProductsOfAnyNumbers(t *testing.T) {
	wantBackOf := func(l []int) {
		e := ruleProducts(l, len(l))
		want := slices.Sorted(slices.Values(l))
		isSet := ruleGoodSet(want)
		if !isSet {
			want = nil
		}
		got, ok := impl.RootsOf(e)
		wantNumbers(t, "numbers "+numbersName(l), got, ok, want, isSet)
	}
	eachList(2, fromTo(-3, 63), wantBackOf)
	eachList(4, []int{-100, -60, -1, 0, 1, 2, 30, 59, 60, 61, 100}, wantBackOf)
	for i := range 2000 {
		n := &numbers{seed: uint64(15000 + i)}
		l := mixed(n, fromTo(-2, 62))[:n.below(5)]
		wantBackOf(l)
		if len(l) > 0 {
			wantBackOf(append(l[:len(l)-1:len(l)-1], l[0]))
		}
	}
}

func TestRootsOfEveryFewSums(t *testing.T) {
	told := 0
	for _, of := range [][]int{fromTo(-3, 12), {-milliard - 1, -milliard, -61, 0, 60, 61, milliard, milliard + 1}} {
		eachList(3, of, func(e []int) {
			if wantRoots(t, e) {
				told++
			}
		})
	}
	if told < 20 {
		t.Errorf("only %d are told", told)
	}
	// Each e one more and one less: then the numbers are others, or none.
	fewer := 0
	mixedSets(10, func(n *numbers, l []int) {
		l = l[:min(len(l), 4)]
		e := ruleProducts(l, len(l))
		for k := range e {
			for _, by := range []int{-1, 1} {
				off := slices.Clone(e)
				off[k] += by
				if !wantRoots(t, off) {
					fewer++
				}
			}
		}
	})
	if fewer < 100 {
		t.Errorf("only %d are refused", fewer)
	}
}

func TestLessSumsKnownByHand(t *testing.T) {
	for _, c := range []struct {
		a    []int
		b    []int
		want []int
		ok   bool
	}{
		{nil, nil, nil, true},
		{nil, []int{}, nil, true},
		{[]int{12, 50}, []int{5, 25}, []int{7, 25}, true},
		{[]int{5}, []int{12}, []int{-7}, true},
		{[]int{-5}, []int{-12}, []int{7}, true},
		{[]int{1, 2, 3, 4}, []int{4, 3, 2, 1}, []int{-3, -1, 1, 3}, true},
		{[]int{1, 2, 3, 4}, []int{1, 2, 3, 4}, []int{0, 0, 0, 0}, true},
		// Unlike length.
		{[]int{1}, nil, nil, false},
		{nil, []int{1}, nil, false},
		{[]int{1, 0}, []int{1}, nil, false},
		{[]int{1}, []int{1, 0}, nil, false},
		{[]int{1, 2, 3, 4}, []int{1, 2, 3}, nil, false},
		{[]int{1, 2, 3, 4}, []int{1, 2, 3, 4, 5}, nil, false},
		{[]int{0, 0, 0, 0, 0}, []int{0, 0, 0, 0, 0}, nil, false},
		// The difference is at the limit, and one beyond it.
		{[]int{milliard}, []int{0}, []int{milliard}, true},
		{[]int{0}, []int{milliard}, []int{-milliard}, true},
		{[]int{milliard - 1}, []int{-1}, []int{milliard}, true},
		{[]int{milliard}, []int{-1}, nil, false},
		{[]int{-1}, []int{milliard}, nil, false},
		{[]int{-milliard}, []int{1}, nil, false},
		{[]int{-milliard}, []int{0}, []int{-milliard}, true},
		{[]int{milliard}, []int{-milliard}, nil, false},
		{[]int{-milliard}, []int{milliard}, nil, false},
		{[]int{milliard}, []int{milliard}, []int{0}, true},
		{[]int{-milliard}, []int{-milliard}, []int{0}, true},
		// A sum is beyond it, the difference is not.
		{[]int{milliard + 1}, []int{1}, nil, false},
		{[]int{milliard + 1}, []int{milliard + 1}, nil, false},
		{[]int{-1}, []int{-milliard - 1}, nil, false},
		{[]int{math.MinInt}, []int{math.MinInt}, nil, false},
		{[]int{math.MaxInt}, []int{math.MaxInt}, nil, false},
		// It wraps round to a small one.
		{[]int{math.MinInt}, []int{math.MaxInt}, nil, false},
		{[]int{math.MaxInt}, []int{math.MinInt}, nil, false},
	} {
		l, ok := impl.LessSums(c.a, c.b)
		wantNumbers(t, numbersName(c.a)+" less "+numbersName(c.b), l, ok, c.want, c.ok)
		wantLess(t, c.a, c.b)
	}
}

func TestLessSumsOfEveryFew(t *testing.T) {
	var lists [][]int
	eachList(2, []int{-milliard - 1, -milliard, -milliard / 2, -1, 0, 1, milliard / 2, milliard, milliard + 1}, func(l []int) {
		lists = append(lists, l)
	})
	told := 0
	for _, a := range lists {
		for _, b := range lists {
			if wantLess(t, a, b) {
				told++
			}
		}
	}
	if told < 500 {
		t.Errorf("only %d are told", told)
	}
	// Wherever the one stands that goes beyond.
	for many := 1; many <= 4; many++ {
		for at := range many {
			a, b := make([]int, many), make([]int, many)
			a[at], b[at] = milliard, -1
			wantLess(t, a, b)
			wantLess(t, b, a)
		}
	}
}

// Promise 12: what is taken out of a set is told, by what is left and the sums of the whole.
func TestLackedNumbersAreTold(t *testing.T) {
	mixedSets(40, func(n *numbers, whole []int) {
		for many := range min(len(whole), 4) + 1 {
			order := mixed(n, whole)
			out := slices.Sorted(slices.Values(order[:many]))
			left := slices.Sorted(slices.Values(order[many:]))
			sums, ok := impl.PowerSums(whole, many)
			wantNumbers(t, "powers of "+numbersName(whole), sums, ok, rulePowers(whole, many), true)
			lacked, ok := impl.LackedBy(left, sums)
			wantNumbers(t, numbersName(left)+" of "+numbersName(whole), lacked, ok, out, true)
			wantLacked(t, left, sums)
		}
	})
}

// Promise 12: every choice of up to four that can be taken out of a set of twenty.
func TestEveryFewTakenOut(t *testing.T) {
	n := &numbers{seed: 16000}
	for _, whole := range [][]int{fromTo(1, 20), fromTo(41, 60), someSet(n, 20, 60), someSet(n, 9, 60), someSet(n, 4, 60)} {
		for many := range 5 {
			sums, _ := impl.PowerSums(whole, many)
			eachOf(whole, many, func(out []int) {
				left := slices.DeleteFunc(slices.Clone(whole), func(x int) bool { return slices.Contains(out, x) })
				lacked, ok := impl.LackedBy(left, sums)
				wantNumbers(t, numbersName(left)+" of "+numbersName(whole), lacked, ok, out, true)
			})
		}
	}
}

func TestLackedKnownByHand(t *testing.T) {
	for _, c := range []struct {
		own  []int
		sums []int
		want []int
		ok   bool
	}{
		{nil, nil, nil, true},
		{[]int{5}, nil, nil, true},
		{fromTo(1, 20), nil, nil, true},
		{fromTo(1, 21), nil, nil, false},
		{[]int{5}, []int{12, 50}, []int{3, 4}, true},
		{nil, []int{7, 25}, []int{3, 4}, true},
		{nil, []int{1}, []int{1}, true},
		{nil, []int{60}, []int{60}, true},
		{nil, []int{61}, nil, false},
		{nil, []int{0}, nil, false},
		{nil, []int{-1}, nil, false},
		// One that is lacked, told by two sums: the other one would be 0.
		{[]int{5}, []int{8, 34}, nil, false},
		{[]int{5}, []int{8}, []int{3}, true},
		// Two that are lacked, told by one sum: it tells one other number.
		{[]int{5}, []int{12}, []int{7}, true},
		// A lacked one is in own.
		{[]int{5}, []int{10}, nil, false},
		{[]int{3, 5}, []int{15, 59}, nil, false},
		{[]int{4, 5}, []int{16, 66}, nil, false},
		{[]int{3, 4}, []int{14, 50}, nil, false},
		// Two lacked ones are alike.
		{[]int{5}, []int{11, 43}, nil, false},
		// It can't be divided; there is no such number.
		{[]int{5}, []int{12, 51}, nil, false},
		{[]int{5}, []int{12, 52}, nil, false},
		{[]int{5}, []int{5, 25}, nil, false},
		{[]int{5}, []int{0, 0}, nil, false},
		{[]int{5}, []int{-12, -50}, nil, false},
		// No set.
		{[]int{5, 5}, []int{17, 75}, nil, false},
		{[]int{6, 5}, []int{18, 86}, nil, false},
		{[]int{0}, []int{7, 25}, nil, false},
		{[]int{61}, []int{68, 3746}, nil, false},
		{[]int{5, 5}, nil, nil, false},
		// As many sums as may be, and one more.
		{nil, []int{10, 30, 100, 354}, []int{1, 2, 3, 4}, true},
		{nil, []int{10, 30, 100, 354, 1300}, nil, false},
		{nil, []int{15, 55, 225, 979, 4425}, nil, false},
		// The difference is at the limit, or beyond it.
		{nil, []int{milliard}, nil, false},
		{[]int{1}, []int{milliard + 1}, nil, false},
		{[]int{1}, []int{-milliard}, nil, false},
		{[]int{1}, []int{1 - milliard}, nil, false},
		{[]int{1}, []int{math.MinInt}, nil, false},
		{[]int{1}, []int{math.MaxInt}, nil, false},
	} {
		l, ok := impl.LackedBy(c.own, c.sums)
		wantNumbers(t, "of "+numbersName(c.own)+" and "+numbersName(c.sums), l, ok, c.want, c.ok)
		wantLacked(t, c.own, c.sums)
	}
}

// Own of just 20 less n numbers, and of one more: then the whole would be no set.
func TestLackedByAsManyAsMayBe(t *testing.T) {
	for many := range 5 {
		for own := range 24 {
			for _, whole := range [][]int{fromTo(1, own+many), fromTo(61-own-many, 60)} {
				sums := rulePowers(whole, many)
				lacked, ok := impl.LackedBy(whole[:own], sums)
				want := whole[own:]
				if own+many > 20 {
					want = nil
				}
				wantNumbers(t, strconv.Itoa(own)+" and "+strconv.Itoa(many)+" sums", lacked, ok, want, own+many <= 20)
				lacked, ok = impl.LackedBy(whole[many:], sums)
				want = whole[:many]
				if own+many > 20 {
					want = nil
				}
				wantNumbers(t, "the last "+strconv.Itoa(own)+" and "+strconv.Itoa(many)+" sums", lacked, ok, want, own+many <= 20)
			}
		}
	}
}

// Numbers that own has already, alike ones and ones out of 1..60 are never told as lacked.
func TestLackedOnesThatMayNotBe(t *testing.T) {
	refused := 0
	eachList(4, []int{-1, 0, 1, 3, 5, 30, 60, 61}, func(out []int) {
		for _, own := range [][]int{nil, {3}, {1, 60}, {2, 30, 59}} {
			sums := rulePowers(slices.Concat(own, out), len(out))
			if !wantLacked(t, own, sums) {
				refused++
				continue
			}
			lacked, _ := impl.LackedBy(own, sums)
			wantNumbers(t, numbersName(own)+" with "+numbersName(out), lacked, true, slices.Sorted(slices.Values(out)), true)
		}
	})
	if refused < 5000 {
		t.Errorf("only %d are refused", refused)
	}
}

// Sums that are off by little, or are fewer or more than what is lacked.
func TestLackedByMixedSums(t *testing.T) {
	told, refused := 0, 0
	count := func(ok bool) {
		if ok {
			told++
		} else {
			refused++
		}
	}
	mixedSets(20, func(n *numbers, whole []int) {
		for many := range 5 {
			sums := rulePowers(whole, many)
			out := min(n.below(6), len(whole))
			left := slices.Sorted(slices.Values(mixed(n, whole)[out:]))
			count(wantLacked(t, left, sums))
			for k := range sums {
				off := slices.Clone(sums)
				off[k] += n.below(49) - 24
				count(wantLacked(t, left, off))
				for _, wrong := range append([]int{milliard, -milliard, milliard + 1, 1 << 32}, wrongNumbers...) {
					off[k] = wrong
					wantLacked(t, left, off)
				}
			}
		}
	})
	if told < 300 || refused < 300 {
		t.Errorf("%d are told, %d are refused", told, refused)
	}
	for sum := -70; sum <= 200; sum++ {
		wantLacked(t, nil, []int{sum})
		wantLacked(t, []int{1, 5, 60}, []int{sum})
		wantLacked(t, []int{1, 5, 60}, []int{sum, 4000})
		wantLacked(t, []int{5}, []int{sum, sum * sum / 2})
	}
}

// setAnswer is all that the functions answer of two lists and a number.
type setAnswer struct {
	lists [][]int
	told  []int
	oks   []bool
}

func setAnswers(a []int, b []int, upto int) setAnswer {
	powers, ok1 := impl.PowerSums(a, upto)
	products, ok2 := impl.SumsOf(a, upto)
	e, ok3 := impl.ElementaryOf(b)
	roots, ok4 := impl.RootsOf(b)
	lacked, ok5 := impl.LackedBy(a, b)
	less, ok6 := impl.LessSums(b, a)
	more, ok7 := impl.LessSums(b, b)
	value, ok8 := impl.ValueAt(b, upto)
	same, ok9 := impl.LackedBy(a, a)
	good := impl.GoodSet(a)
	return setAnswer{lists: [][]int{powers, products, e, roots, lacked, less, more, same}, told: []int{value}, oks: []bool{good, ok1, ok2, ok3, ok4, ok5, ok6, ok7, ok8, ok9}}
}

func (a setAnswer) name() string {
	return namesOf(a.lists, numbersName) + numbersName(a.told) + namesOf(a.oks, strconv.FormatBool)
}

// memorySets shows sets and sums, good or not.
func memorySets(show func(a []int, b []int, upto int)) {
	mixedSets(4, func(n *numbers, whole []int) {
		for many := range min(len(whole), 4) + 1 {
			order := mixed(n, whole)
			left := slices.Sorted(slices.Values(order[many:]))
			show(left, rulePowers(whole, many), many)
			show(left, rulePowers(order[:many], many), many)
			show(left, ruleProducts(order[:many], many), 4)
			show(order, rulePowers(whole, many), many)
		}
		show(whole, whole[:min(len(whole), 4)], len(whole))
	})
	for _, a := range [][]int{nil, {2, 1}, {1, 1}, {0}, {61}, fromTo(1, 21), fromTo(1, 1000), {3, 4}, {math.MinInt, math.MaxInt}, {1, 2, 3, milliard}} {
		for _, b := range [][]int{nil, {1, 0}, {7, 25}, {7, 12}, {0, 0, 0, 1}, {milliard + 1}, {10, 35, 50, 24, 0}, make([]int, 1000), {math.MinInt, math.MaxInt}, {44721, -32161}} {
			for _, upto := range append([]int{0, 2, 4, 5, 60, 61}, wrongNumbers...) {
				show(a, b, upto)
			}
		}
	}
}

// Promise 19: nothing that is handed in is changed, nor what lies behind it, and no answer lies in it.
func TestSetFunctionsLeaveArgumentsAlone(t *testing.T) {
	memorySets(func(a []int, b []int, upto int) {
		what := numbersName(a) + " and " + numbersName(b)
		shownA, shownB := longer(a, 60, -7, 3), longer(b, 1, milliard+1, 0)
		lists := []heldList{heldNumbers(shownA), heldNumbers(shownB)}
		ahead := shownLists(lists)
		got := setAnswers(shownA, shownB, upto)
		if behind := shownLists(lists); !slices.Equal(ahead, behind) {
			t.Errorf("%s: was %q, is %q", what, ahead, behind)
		}
		var answers []heldList
		for _, l := range got.lists {
			answers = append(answers, heldNumbers(l))
		}
		wantNoneShared(t, what, append(answers, lists...), len(answers))
	})
}

// Promise 19: the zero answer has no list at all beside its false, and what is told true is as long as it has to be.
func TestRefusedSetsTellNothing(t *testing.T) {
	memorySets(func(a []int, b []int, upto int) {
		got := setAnswers(a, b, upto)
		long := []int{upto, upto, len(b), len(b), len(b), len(b), len(b), len(a)}
		for i, l := range got.lists {
			// The first of oks is that of GoodSet; that of ValueAt stands ahead of the last list's.
			ok := got.oks[i+1]
			if i == len(got.lists)-1 {
				ok = got.oks[len(got.oks)-1]
			}
			if !ok && len(l) != 0 || ok && len(l) != long[i] {
				t.Errorf("%v and %v, %d: answer %d is %v %v", a, b, upto, i, l, ok)
			}
		}
		if !got.oks[8] && got.told[0] != 0 {
			t.Errorf("%v at %d: is %d beside false", b, upto, got.told[0])
		}
	})
}

// Promise 19: what lies behind a list's length is neither read nor handed out.
func TestNumbersBehindTheLengthAreNotRead(t *testing.T) {
	memorySets(func(a []int, b []int, upto int) {
		what := numbersName(a) + " and " + numbersName(b)
		got, want := setAnswers(longer(a, 60, -7, 3), longer(b, 1, milliard+1, 0), upto), setAnswers(slices.Clip(a), slices.Clip(b), upto)
		if got.name() != want.name() {
			t.Errorf("%s: got %s, want %s", what, got.name(), want.name())
		}
		for _, l := range got.lists {
			if slices.ContainsFunc(l[len(l):cap(l)], func(x int) bool { return x != 0 }) {
				t.Errorf("%s: behind its numbers there is %v", what, l[:cap(l)])
			}
		}
	})
	// Cut to its limit a list is good, whatever lies behind.
	wantSet(t, fromTo(1, 30)[:20])
	wantSet(t, []int{1, 2, 3, 3, 0}[:3])
	wantElementaryIs(t, []int{10, 30, 100, 354, 7}[:4], []int{10, 35, 50, 24}, true)
	wantRootsAre(t, []int{7, 12, milliard + 1}[:2], []int{3, 4}, true)
	lacked, ok := impl.LackedBy([]int{5, 3, 4}[:1], []int{12, 50, 1}[:2])
	wantNumbers(t, "lists that are cut", lacked, ok, []int{3, 4}, true)
}

func TestSetFunctionsAnswerAlikeTwice(t *testing.T) {
	memorySets(func(a []int, b []int, upto int) {
		first, again := setAnswers(a, b, upto), setAnswers(a, b, upto)
		if first.name() != again.name() {
			t.Errorf("%v and %v: first %s, then %s", a, b, first.name(), again.name())
		}
	})
}
