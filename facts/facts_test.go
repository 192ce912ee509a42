package facts_test

// P11.1: the facts of a form.

import (
	"testing"

	"litmus/api"
	"litmus/facts"
	"litmus/logic"
	"litmus/nat"
	"litmus/whole"
)

// The example of the chapter, by the fields alone.
func TestExample(t *testing.T) {
	length, none := of(logic.Len, l), of(logic.Len, void)
	areForms(t, "Of", facts.Of(length), []logic.Form{
		of(logic.Le, num(0), length),
		of(logic.Or, of(logic.Not, of(logic.Le, length, num(0))), of(logic.Eq, l, void)),
		of(logic.Le, num(0), none),
		of(logic.Eq, none, num(0)),
	})
}

func TestNoFacts(t *testing.T) {
	for _, s := range []string{"x", "7", "x + y", "3 * x", "x <= y", "x = y + 1", "p", "true", "false", "not p", "p && q || r", "p = q", "x <= 3 && (p || y < x)"} {
		isOf(t, read(t, s, scope("")))
	}
}

func TestFactsOfLists(t *testing.T) {
	isOf(t, l, "0 <= len l", "not (len l <= 0) || l = []", "0 <= len []", "len [] = 0")
	isOf(t, void, "0 <= len []", "len [] = 0")
	isOf(t, of(logic.Cons, x, void),
		"0 <= len (x :: [])", "len (x :: []) = len [] + 1", "hd (x :: []) = x", "tl (x :: []) = []",
		"0 <= len []", "len [] = 0",
		"0 <= len (tl (x :: []))")
	isOf(t, of(logic.Cons, num(4), l),
		"0 <= len (4 :: l)", "len (4 :: l) = len l + 1", "hd (4 :: l) = 4", "tl (4 :: l) = l",
		"0 <= len l", "not (len l <= 0) || l = []",
		"0 <= len (tl (4 :: l))", "0 <= len []", "len [] = 0")
}

func TestFactsOfTails(t *testing.T) {
	isOf(t, of(logic.Tl, l),
		"0 <= len (tl l)", "not (len (tl l) <= 0) || tl l = []",
		"not (1 <= len l) || len l = len (tl l) + 1", "1 <= len l || tl l = []", "not (1 <= len l) || l = (hd l :: tl l)",
		"0 <= len l", "not (len l <= 0) || l = []",
		"0 <= len []", "len [] = 0", "0 <= len (hd l :: tl l)", "len (hd l :: tl l) = len (tl l) + 1")
	isOf(t, of(logic.Tl, void),
		"0 <= len (tl [])", "not (len (tl []) <= 0) || tl [] = []",
		"not (1 <= len []) || len [] = len (tl []) + 1", "1 <= len [] || tl [] = []", "not (1 <= len []) || [] = (hd [] :: tl [])",
		"0 <= len []", "len [] = 0",
		"0 <= len (hd [] :: tl [])", "len (hd [] :: tl []) = len (tl []) + 1")
}

func TestFactsOfHeads(t *testing.T) {
	isOf(t, of(logic.Hd, l),
		"1 <= len l || hd l = 0",
		"0 <= len l", "not (len l <= 0) || l = []",
		"0 <= len []", "len [] = 0")
	isOf(t, of(logic.Hd, void), "1 <= len [] || hd [] = 0", "0 <= len []", "len [] = 0")
}

func TestFactsOfQuotients(t *testing.T) {
	for _, c := range []struct {
		f    logic.Form
		want []string
	}{
		{with(logic.Quo, 3, x), []string{"3 * (x / 3) <= x", "x <= 3 * (x / 3) + 2"}},
		{with(logic.Quo, 1, x), []string{"1 * (x / 1) <= x", "x <= 1 * (x / 1) + 0"}},
		{with(logic.Quo, 2, of(logic.Add, x, y)), []string{"2 * ((x + y) / 2) <= x + y", "x + y <= 2 * ((x + y) / 2) + 1"}},
		{with(logic.Quo, 2, with(logic.Quo, 5, x)), []string{"2 * (x / 5 / 2) <= x / 5", "x / 5 <= 2 * (x / 5 / 2) + 1", "5 * (x / 5) <= x", "x <= 5 * (x / 5) + 4"}},
	} {
		isOf(t, c.f, c.want...)
	}
	q := with(logic.Quo, 7, x)
	areForms(t, "by the fields", facts.Of(q), []logic.Form{
		of(logic.Le, with(logic.Scale, 7, q), x),
		of(logic.Le, x, of(logic.Add, with(logic.Scale, 7, q), num(6))),
	})
	areForms(t, "of numbers", facts.Of(with(logic.Quo, 2, num(9))), wanted(t, with(logic.Quo, 2, num(9))))
	k := whole.Big(false, nat.Nat{0, 0, 1})
	q = logic.Form{Op: logic.Quo, Num: k, Kids: []logic.Form{x}}
	areForms(t, "by 2^64", facts.Of(q), []logic.Form{
		of(logic.Le, logic.Form{Op: logic.Scale, Num: k, Kids: []logic.Form{q}}, x),
		of(logic.Le, x, of(logic.Add, logic.Form{Op: logic.Scale, Num: k, Kids: []logic.Form{q}}, logic.Form{Op: logic.Num, Num: whole.Big(false, nat.Nat{0xFFFFFFFF, 0xFFFFFFFF})})),
	})
}

func TestFactsOfProducts(t *testing.T) {
	f := of(logic.Mul, x, y)
	isOf(t, f,
		"not (0 <= x) || not (0 <= y) || 0 <= x * y",
		"not (x <= 0) || not (y <= 0) || 0 <= x * y",
		"not (0 <= x) || not (y <= 0) || x * y <= 0",
		"not (x <= 0) || not (0 <= y) || x * y <= 0",
		"not (x = 1) || x * y = y",
		"not (y = 1) || x * y = x")
	areForms(t, "by the fields", facts.Of(f)[:1], []logic.Form{
		of(logic.Or, of(logic.Not, of(logic.Le, num(0), x)), of(logic.Not, of(logic.Le, num(0), y)), of(logic.Le, num(0), f)),
	})
	// Only terms are without duplicates: here, the last two facts are the same.
	isOf(t, of(logic.Mul, x, x),
		"not (0 <= x) || not (0 <= x) || 0 <= x * x",
		"not (x <= 0) || not (x <= 0) || 0 <= x * x",
		"not (0 <= x) || not (x <= 0) || x * x <= 0",
		"not (x <= 0) || not (0 <= x) || x * x <= 0",
		"not (x = 1) || x * x = x",
		"not (x = 1) || x * x = x")
	areForms(t, "of numbers", facts.Of(of(logic.Mul, num(1), num(0))), wanted(t, of(logic.Mul, num(1), num(0))))
}

// The facts of a term come before those of its Kids, and those of a list by its Op after
// those of any list; each term has its facts once.
func TestOrderOfFacts(t *testing.T) {
	isOf(t, read(t, "(x / 2) * y <= hd l && x / 2 = y * (x / 2) && hd l <= len l", scope("")),
		"not (0 <= x / 2) || not (0 <= y) || 0 <= (x / 2) * y",
		"not (x / 2 <= 0) || not (y <= 0) || 0 <= (x / 2) * y",
		"not (0 <= x / 2) || not (y <= 0) || (x / 2) * y <= 0",
		"not (x / 2 <= 0) || not (0 <= y) || (x / 2) * y <= 0",
		"not (x / 2 = 1) || (x / 2) * y = y",
		"not (y = 1) || (x / 2) * y = x / 2",
		"2 * (x / 2) <= x", "x <= 2 * (x / 2) + 1",
		"1 <= len l || hd l = 0",
		"0 <= len l", "not (len l <= 0) || l = []",
		"not (0 <= y) || not (0 <= x / 2) || 0 <= y * (x / 2)",
		"not (y <= 0) || not (x / 2 <= 0) || 0 <= y * (x / 2)",
		"not (0 <= y) || not (x / 2 <= 0) || y * (x / 2) <= 0",
		"not (y <= 0) || not (0 <= x / 2) || y * (x / 2) <= 0",
		"not (y = 1) || y * (x / 2) = x / 2",
		"not (x / 2 = 1) || y * (x / 2) = y",
		"0 <= len []", "len [] = 0")
}

// The example of stage 11, in full.
func TestFactsOfNestedLists(t *testing.T) {
	isOf(t, read(t, "tl l = 1 :: []", scope("")),
		"0 <= len (tl l)", "not (len (tl l) <= 0) || tl l = []",
		"not (1 <= len l) || len l = len (tl l) + 1", "1 <= len l || tl l = []", "not (1 <= len l) || l = (hd l :: tl l)",
		"0 <= len l", "not (len l <= 0) || l = []",
		"0 <= len (1 :: [])", "len (1 :: []) = len [] + 1", "hd (1 :: []) = 1", "tl (1 :: []) = []",
		"0 <= len []", "len [] = 0",
		"0 <= len (hd l :: tl l)", "len (hd l :: tl l) = len (tl l) + 1",
		"0 <= len (tl (1 :: []))")
}

// What is known of a list that facts contain is added only if the form doesn't contain it,
// and once.
func TestListsOfFactsThatTheFormHas(t *testing.T) {
	isOf(t, read(t, "tl (x :: l) = hd l :: tl l", scope("")),
		"0 <= len (tl (x :: l))", "not (len (tl (x :: l)) <= 0) || tl (x :: l) = []",
		"not (1 <= len (x :: l)) || len (x :: l) = len (tl (x :: l)) + 1", "1 <= len (x :: l) || tl (x :: l) = []", "not (1 <= len (x :: l)) || x :: l = (hd (x :: l) :: tl (x :: l))",
		"0 <= len (x :: l)", "len (x :: l) = len l + 1", "hd (x :: l) = x", "tl (x :: l) = l",
		"0 <= len l", "not (len l <= 0) || l = []",
		"0 <= len (hd l :: tl l)", "len (hd l :: tl l) = len (tl l) + 1", "hd (hd l :: tl l) = hd l", "tl (hd l :: tl l) = tl l",
		"1 <= len l || hd l = 0",
		"0 <= len (tl l)", "not (len (tl l) <= 0) || tl l = []",
		"not (1 <= len l) || len l = len (tl l) + 1", "1 <= len l || tl l = []", "not (1 <= len l) || l = (hd l :: tl l)",
		"0 <= len []", "len [] = 0",
		"0 <= len (hd (x :: l) :: tl (x :: l))", "len (hd (x :: l) :: tl (x :: l)) = len (tl (x :: l)) + 1",
		"0 <= len (tl (hd l :: tl l))")
}

// Of an odd Nil, which isn't that of the facts.
func TestFactsOfNilWithOtherFields(t *testing.T) {
	odd := logic.Form{Op: logic.Nil, Name: "n"}
	for _, f := range []logic.Form{odd, of(logic.Eq, odd, l), of(logic.Tl, odd), of(logic.And, of(logic.Eq, odd, void), of(logic.Eq, l, odd))} {
		areForms(t, "Of "+logic.Text(f), facts.Of(f), wanted(t, f))
	}
	is(t, "the number of facts", len(facts.Of(of(logic.Eq, odd, l))), 6)
}

func TestFactsOfRandomForms(t *testing.T) {
	counts := map[int]bool{}
	samples(t, 5000, func(m maker, f logic.Form) {
		got := facts.Of(f)
		areForms(t, "Of", got, wanted(t, f))
		counts[len(got)] = true
		for _, fact := range got {
			is(t, "Right of "+logic.Text(fact), logic.Right(fact), true)
			is(t, "Sort of "+logic.Text(fact), logic.Sort(fact), api.Bool)
		}
	})
	if len(counts) < 50 {
		t.Errorf("too few different numbers of facts: %d", len(counts))
	}
}
