package tests

import (
	"math"
	"testing"

	"loop.example/g01633/impl"
)

// greatestLimit is the greatest limit of a credit, and notBlocked what a credit has instead of a limit; both are written out here so that the tests do not depend on the constants.
const (
	greatestLimit = 4611686018427387903
	notBlocked    = -1
)

// creditNumbers are the numbers of which the credits of these tests are made: small ones, those around the greatest limit, and the ends of int.
var creditNumbers = []int{math.MinInt, -greatestLimit, -2, -1, 0, 1, 2, 3, greatestLimit - 1, greatestLimit, greatestLimit + 1, math.MaxInt}

// everyCredit calls f for all credits of creditNumbers, valid or not.
func everyCredit(f func(c impl.Credit)) {
	for _, limit := range creditNumbers {
		for _, used := range creditNumbers {
			for _, blocked := range creditNumbers {
				for _, told := range creditNumbers {
					f(impl.Credit{Limit: limit, Used: used, Blocked: blocked, Told: told})
				}
			}
		}
	}
}

// isWithin reports whether n is from low to high.
func isWithin(n int, low int, high int) bool {
	return low <= n && n <= high
}

// isValidCredit is IsCredit.
func isValidCredit(c impl.Credit) bool {
	return isWithin(c.Limit, 0, greatestLimit) && isWithin(c.Used, 0, c.Limit) &&
		isWithin(c.Blocked, notBlocked, c.Limit) && isWithin(c.Told, notBlocked, c.Limit)
}

// checkUsed reports what UseCredit gets wrong.
func checkUsed(t *testing.T, c impl.Credit, n int, want impl.Credit, wantOk bool) {
	t.Helper()
	if got, ok := impl.UseCredit(c, n); got != want || ok != wantOk {
		t.Errorf("UseCredit(%v, %d) = %v and %v, want %v and %v", c, n, got, ok, want, wantOk)
	}
}

// checkRaised reports what RaiseLimit gets wrong.
func checkRaised(t *testing.T, c impl.Credit, limit int, want impl.Credit) {
	t.Helper()
	if got := impl.RaiseLimit(c, limit); got != want {
		t.Errorf("RaiseLimit(%v, %d) = %v, want %v", c, limit, got, want)
	}
}

// checkNoted reports what NoteBlocked gets wrong.
func checkNoted(t *testing.T, c impl.Credit, want impl.Credit) {
	t.Helper()
	if got := impl.NoteBlocked(c); got != want {
		t.Errorf("NoteBlocked(%v) = %v, want %v", c, got, want)
	}
}

// checkCleared reports what ClearBlocked gets wrong.
func checkCleared(t *testing.T, c impl.Credit, want impl.Credit) {
	t.Helper()
	if got := impl.ClearBlocked(c); got != want {
		t.Errorf("ClearBlocked(%v) = %v, want %v", c, got, want)
	}
}

// checkMustTell reports what MustTell gets wrong.
func checkMustTell(t *testing.T, c impl.Credit, want bool) {
	t.Helper()
	if got := impl.MustTell(c); got != want {
		t.Errorf("MustTell(%v) = %v, want %v", c, got, want)
	}
}

// checkLeft reports what CreditLeft gets wrong.
func checkLeft(t *testing.T, c impl.Credit, want int) {
	t.Helper()
	if got := impl.CreditLeft(c); got != want {
		t.Errorf("CreditLeft(%v) = %d, want %d", c, got, want)
	}
}

func TestCreditConstants(t *testing.T) {
	if impl.NotBlocked != notBlocked || impl.MaxQuic != greatestLimit {
		t.Errorf("NotBlocked is %d and MaxQuic %d", impl.NotBlocked, impl.MaxQuic)
	}
}

func TestNewCredit(t *testing.T) {
	for _, limit := range []int{0, 1, 2, 10, 63, 64, 4096, 1 << 32, 1 << 61, greatestLimit - 1, greatestLimit} {
		want := impl.Credit{Limit: limit, Blocked: notBlocked, Told: notBlocked}
		if got, ok := impl.NewCredit(limit); !ok || got != want {
			t.Errorf("NewCredit(%d) = %v and %v, want %v", limit, got, ok, want)
		}
		if !impl.IsCredit(want) {
			t.Errorf("IsCredit(%v) is false", want)
		}
		checkLeft(t, want, limit)
		checkMustTell(t, want, false)
	}
}

func TestNewCreditInvalid(t *testing.T) {
	for _, limit := range []int{-1, -2, -10, -greatestLimit, math.MinInt, greatestLimit + 1, greatestLimit + 2, math.MaxInt} {
		if got, ok := impl.NewCredit(limit); ok || got != (impl.Credit{}) {
			t.Errorf("NewCredit(%d) = %v and %v, want the zero value and false", limit, got, ok)
		}
	}
}

func TestIsCreditExamples(t *testing.T) {
	valid := []impl.Credit{
		// The zero value is the credit of 0 bytes that must tell that it is blocked at 0, and has.
		{},
		{Limit: 0, Used: 0, Blocked: -1, Told: -1},
		{Limit: 5, Used: 5, Blocked: 5, Told: 5},
		{Limit: 5, Used: 0, Blocked: 5, Told: -1},
		{Limit: 5, Used: 2, Blocked: 0, Told: 3},
		{Limit: greatestLimit, Used: greatestLimit, Blocked: greatestLimit, Told: greatestLimit},
		{Limit: greatestLimit, Used: 0, Blocked: -1, Told: 0},
	}
	for _, c := range valid {
		if !impl.IsCredit(c) {
			t.Errorf("IsCredit(%v) is false", c)
		}
	}
	invalid := []impl.Credit{
		{Limit: -1, Used: -1, Blocked: -1, Told: -1},
		{Limit: -1, Used: 0, Blocked: -1, Told: -1},
		{Limit: greatestLimit + 1, Used: 0, Blocked: -1, Told: -1},
		{Limit: 5, Used: 6, Blocked: -1, Told: -1},
		{Limit: 5, Used: -1, Blocked: -1, Told: -1},
		{Limit: 5, Used: 5, Blocked: 6, Told: -1},
		{Limit: 5, Used: 5, Blocked: -2, Told: -1},
		{Limit: 5, Used: 5, Blocked: -1, Told: 6},
		{Limit: 5, Used: 5, Blocked: -1, Told: -2},
		{Limit: 0, Used: 1, Blocked: 0, Told: 0},
		{Limit: 0, Used: 0, Blocked: 1, Told: 0},
		{Limit: 0, Used: 0, Blocked: 0, Told: 1},
	}
	for _, c := range invalid {
		if impl.IsCredit(c) {
			t.Errorf("IsCredit(%v) is true", c)
		}
	}
}

func TestIsCreditNumbers(t *testing.T) {
	everyCredit(func(c impl.Credit) {
		if got := impl.IsCredit(c); got != isValidCredit(c) {
			t.Errorf("IsCredit(%v) = %v", c, got)
		}
	})
}

// What all functions return for every credit that is not valid: the argument, 0 or false.
func TestInvalidCreditUnchanged(t *testing.T) {
	count := 0
	everyCredit(func(c impl.Credit) {
		if isValidCredit(c) {
			return
		}
		count++
		checkLeft(t, c, 0)
		checkMustTell(t, c, false)
		checkNoted(t, c, c)
		checkCleared(t, c, c)
		for _, n := range creditNumbers {
			checkUsed(t, c, n, c, false)
			checkRaised(t, c, n, c)
		}
	})
	if count == 0 {
		t.Error("there is no invalid credit")
	}
}

func TestUseCreditNumbers(t *testing.T) {
	everyCredit(func(c impl.Credit) {
		if !isValidCredit(c) {
			return
		}
		checkLeft(t, c, c.Limit-c.Used)
		for _, n := range creditNumbers {
			// The sum of two numbers that are not negative is never too great for a uint.
			if n < 0 || uint(c.Used)+uint(n) > uint(c.Limit) {
				checkUsed(t, c, n, c, false)
				continue
			}
			want := c
			want.Used = c.Used + n
			checkUsed(t, c, n, want, true)
			checkLeft(t, want, c.Limit-c.Used-n)
		}
	})
}

func TestRaiseLimitNumbers(t *testing.T) {
	everyCredit(func(c impl.Credit) {
		if !isValidCredit(c) {
			return
		}
		for _, limit := range creditNumbers {
			want := c
			if isWithin(limit, c.Limit+1, greatestLimit) {
				want = impl.Credit{Limit: limit, Used: c.Used, Blocked: notBlocked, Told: c.Told}
			}
			checkRaised(t, c, limit, want)
		}
	})
}

func TestBlockedNumbers(t *testing.T) {
	everyCredit(func(c impl.Credit) {
		if !isValidCredit(c) {
			return
		}
		noted := c
		if c.Used == c.Limit && c.Blocked == notBlocked && c.Told != c.Limit {
			noted.Blocked = c.Limit
		}
		checkNoted(t, c, noted)
		cleared := c
		if c.Blocked != notBlocked {
			cleared = impl.Credit{Limit: c.Limit, Used: c.Used, Blocked: notBlocked, Told: c.Blocked}
		}
		checkCleared(t, c, cleared)
		checkMustTell(t, c, c.Blocked == c.Limit)
		checkMustTell(t, cleared, false)
	})
}

// A limit of 0 blocks at once, which is told once; it is neither NotBlocked nor something that was told before.
func TestLimitZero(t *testing.T) {
	fresh, ok := impl.NewCredit(0)
	if !ok || fresh != (impl.Credit{Limit: 0, Used: 0, Blocked: -1, Told: -1}) {
		t.Fatalf("NewCredit(0) = %v and %v", fresh, ok)
	}
	checkLeft(t, fresh, 0)
	checkUsed(t, fresh, 0, fresh, true)
	checkUsed(t, fresh, 1, fresh, false)
	checkUsed(t, fresh, -1, fresh, false)
	checkUsed(t, fresh, math.MaxInt, fresh, false)
	checkUsed(t, fresh, math.MinInt, fresh, false)
	checkRaised(t, fresh, 0, fresh)
	checkRaised(t, fresh, -1, fresh)
	checkMustTell(t, fresh, false)
	checkCleared(t, fresh, fresh)

	noted := impl.Credit{Limit: 0, Used: 0, Blocked: 0, Told: -1}
	checkNoted(t, fresh, noted)
	checkNoted(t, noted, noted)
	checkMustTell(t, noted, true)
	told := impl.Credit{Limit: 0, Used: 0, Blocked: -1, Told: 0}
	checkCleared(t, noted, told)
	checkCleared(t, told, told)
	checkMustTell(t, told, false)
	checkNoted(t, told, told)

	checkRaised(t, noted, 1, impl.Credit{Limit: 1, Used: 0, Blocked: -1, Told: -1})
	raised := impl.Credit{Limit: 1, Used: 0, Blocked: -1, Told: 0}
	checkRaised(t, told, 1, raised)
	checkLeft(t, raised, 1)
	checkNoted(t, raised, raised)
}

// The zero value is a valid credit with the limit 0, which is about to tell.
func TestZeroCredit(t *testing.T) {
	checkMustTell(t, impl.Credit{}, true)
	checkUsed(t, impl.Credit{}, 0, impl.Credit{}, true)
	checkUsed(t, impl.Credit{}, 1, impl.Credit{}, false)
	checkNoted(t, impl.Credit{}, impl.Credit{})
	checkCleared(t, impl.Credit{}, impl.Credit{Blocked: -1})
	checkRaised(t, impl.Credit{}, 3, impl.Credit{Limit: 3, Blocked: -1})
}

func TestUseCreditExamples(t *testing.T) {
	c := impl.Credit{Limit: 10, Used: 4, Blocked: -1, Told: 3}
	checkUsed(t, c, 0, c, true)
	checkUsed(t, c, 1, impl.Credit{Limit: 10, Used: 5, Blocked: -1, Told: 3}, true)
	checkUsed(t, c, 5, impl.Credit{Limit: 10, Used: 9, Blocked: -1, Told: 3}, true)
	checkUsed(t, c, 6, impl.Credit{Limit: 10, Used: 10, Blocked: -1, Told: 3}, true)
	checkUsed(t, c, 7, c, false)
	checkUsed(t, c, 10, c, false)
	checkUsed(t, c, -1, c, false)
	checkUsed(t, c, -4, c, false)
	// These sums with Used, or differences from what is left, are too great for an int.
	checkUsed(t, c, math.MaxInt, c, false)
	checkUsed(t, c, math.MaxInt-3, c, false)
	checkUsed(t, c, math.MinInt, c, false)
	full := impl.Credit{Limit: greatestLimit, Used: greatestLimit, Blocked: -1, Told: -1}
	checkUsed(t, impl.Credit{Limit: greatestLimit, Blocked: -1, Told: -1}, greatestLimit, full, true)
	checkUsed(t, full, 0, full, true)
	for _, n := range []int{1, -1, greatestLimit, -greatestLimit, math.MaxInt, math.MinInt} {
		checkUsed(t, full, n, full, false)
	}
	// What was used does not tell by itself, and is used also while the credit must tell.
	mark := impl.Credit{Limit: 10, Used: 8, Blocked: 10, Told: -1}
	checkUsed(t, mark, 2, impl.Credit{Limit: 10, Used: 10, Blocked: 10, Told: -1}, true)
}

func TestRaiseLimitExamples(t *testing.T) {
	c := impl.Credit{Limit: 10, Used: 10, Blocked: 10, Told: 7}
	for _, limit := range []int{10, 9, 1, 0, -1, math.MinInt, greatestLimit + 1, math.MaxInt} {
		checkRaised(t, c, limit, c)
	}
	for _, limit := range []int{11, 12, 4096, greatestLimit - 1, greatestLimit} {
		checkRaised(t, c, limit, impl.Credit{Limit: limit, Used: 10, Blocked: -1, Told: 7})
	}
	top := impl.Credit{Limit: greatestLimit, Used: 3, Blocked: 4, Told: 5}
	for _, limit := range []int{greatestLimit, greatestLimit + 1, math.MaxInt, 0} {
		checkRaised(t, top, limit, top)
	}
}

func TestNoteBlockedExamples(t *testing.T) {
	checkNoted(t, impl.Credit{Limit: 10, Used: 10, Blocked: -1, Told: -1}, impl.Credit{Limit: 10, Used: 10, Blocked: 10, Told: -1})
	checkNoted(t, impl.Credit{Limit: 10, Used: 10, Blocked: -1, Told: 9}, impl.Credit{Limit: 10, Used: 10, Blocked: 10, Told: 9})
	unchanged := []impl.Credit{
		// Something is left.
		{Limit: 10, Used: 9, Blocked: -1, Told: -1},
		{Limit: 10, Used: 0, Blocked: -1, Told: 9},
		// It was told for this limit.
		{Limit: 10, Used: 10, Blocked: -1, Told: 10},
		// It is noted, if also for a limit before.
		{Limit: 10, Used: 10, Blocked: 10, Told: -1},
		{Limit: 10, Used: 10, Blocked: 9, Told: -1},
		{Limit: 10, Used: 10, Blocked: 0, Told: 0},
	}
	for _, c := range unchanged {
		checkNoted(t, c, c)
	}
}

// A mark for a limit before does not have to be told, but clearing it takes it for told.
func TestBlockedAtLimitBefore(t *testing.T) {
	c := impl.Credit{Limit: 10, Used: 10, Blocked: 4, Told: 2}
	checkMustTell(t, c, false)
	cleared := impl.Credit{Limit: 10, Used: 10, Blocked: -1, Told: 4}
	checkCleared(t, c, cleared)
	checkNoted(t, cleared, impl.Credit{Limit: 10, Used: 10, Blocked: 10, Told: 4})
	// It must be told where it is noted, whatever is left.
	checkMustTell(t, impl.Credit{Limit: 10, Used: 3, Blocked: 10, Told: -1}, true)
	checkMustTell(t, impl.Credit{Limit: 10, Used: 10, Blocked: 10, Told: 10}, true)
}

// spender is the user of a credit, who keeps account of what was used, offered and told.
type spender struct {
	t     *testing.T
	c     impl.Credit
	used  int
	limit int
	told  map[int]int
}

// newSpender returns a spender with a new credit.
func newSpender(t *testing.T, limit int) *spender {
	t.Helper()
	c, ok := impl.NewCredit(limit)
	if !ok {
		t.Fatalf("NewCredit(%d) is false", limit)
	}
	return &spender{t: t, c: c, limit: limit, told: map[int]int{}}
}

// use uses n bytes, if the account allows it.
func (s *spender) use(n int) {
	s.t.Helper()
	allowed := n >= 0 && n <= s.limit-s.used
	next, ok := impl.UseCredit(s.c, n)
	if ok != allowed {
		s.t.Errorf("UseCredit(%v, %d) is %v", s.c, n, ok)
	}
	if ok {
		s.used += n
	}
	s.become(next)
}

// raise offers a limit.
func (s *spender) raise(limit int) {
	s.t.Helper()
	if limit <= greatestLimit {
		s.limit = max(s.limit, limit)
	}
	s.become(impl.RaiseLimit(s.c, limit))
}

// note notes that nothing could be used, after which it must be told if that is so and was not told.
func (s *spender) note() {
	s.t.Helper()
	s.become(impl.NoteBlocked(s.c))
	checkMustTell(s.t, s.c, s.used == s.limit && s.told[s.limit] == 0)
}

// tell tells what must be told.
func (s *spender) tell() {
	s.t.Helper()
	if !impl.MustTell(s.c) {
		return
	}
	s.told[s.c.Blocked]++
	if s.c.Blocked != s.limit || s.told[s.limit] != 1 || s.used != s.limit {
		s.t.Errorf("told for %d: %v, with %d of %d used and told %v times", s.c.Blocked, s.c, s.used, s.limit, s.told)
	}
	s.become(impl.ClearBlocked(s.c))
	checkMustTell(s.t, s.c, false)
}

// become goes on with a credit, which must agree with the account.
func (s *spender) become(c impl.Credit) {
	s.t.Helper()
	if !impl.IsCredit(c) || c.Limit != s.limit || c.Used != s.used || c.Used > c.Limit || impl.CreditLeft(c) != s.limit-s.used {
		s.t.Errorf("%v after %v, want the limit %d and %d used", c, s.c, s.limit, s.used)
	}
	s.c = c
}

// step performs one of ten small steps.
func (s *spender) step(kind int) {
	s.t.Helper()
	switch kind {
	case 0, 1, 2:
		s.use(kind)
	case 3:
		s.use(-1)
	case 4, 5, 6, 7:
		s.raise(s.limit + kind - 5)
	case 8:
		s.note()
	case 9:
		s.tell()
	}
}

// Every sequence of five small steps keeps the promise: no more is used than was offered, the limit never falls, and that it is blocked is told once for each limit.
func TestCreditEverySequence(t *testing.T) {
	for limit := range 3 {
		for code := range 100000 {
			s := newSpender(t, limit)
			for rest := code; rest > 0; rest /= 10 {
				s.step(rest % 10)
			}
			if t.Failed() {
				t.Fatalf("the sequence %d from the limit %d fails: %v", code, limit, s.c)
			}
		}
	}
}

// As every limit is used up, each one is told exactly once, however often it is noted, told and offered.
func TestToldOnceForEachLimit(t *testing.T) {
	s := newSpender(t, 0)
	for limit := range 100 {
		for range 3 {
			s.raise(limit)
			s.use(1)
			s.note()
			s.note()
			s.tell()
			s.tell()
			s.raise(limit - 1)
		}
		if s.told[limit] != 1 || len(s.told) != limit+1 {
			t.Fatalf("told %v times, want once for each limit up to %d", s.told, limit)
		}
	}
}

// A limit that is raised before it was told is not told any more.
func TestRaisedBeforeTold(t *testing.T) {
	s := newSpender(t, 4)
	s.use(4)
	s.note()
	s.raise(9)
	s.tell()
	s.use(5)
	s.tell()
	s.note()
	s.tell()
	if len(s.told) != 1 || s.told[9] != 1 {
		t.Errorf("told %v times, want once for 9", s.told)
	}
}

// Long histories in which the limits rise in steps of all sizes up to the greatest one.
func TestCreditHistory(t *testing.T) {
	for seed := range uint32(60) {
		draw := seed
		below := func(n int) int {
			draw = draw*1664525 + 1013904223
			return int(draw>>8) % n
		}
		s := newSpender(t, below(3))
		for step := 0; s.limit < greatestLimit || s.told[greatestLimit] == 0; step++ {
			left := s.limit - s.used
			switch below(6) {
			case 0:
				s.use(left - below(3))
			case 1:
				s.use(left + 1 + below(3))
			case 2:
				s.use(left / (1 + below(5)))
			case 3:
				s.raise(min(s.limit, greatestLimit-1<<40) + below(1<<24)<<below(17) - 2)
			case 4:
				s.note()
			case 5:
				s.tell()
			}
			if step%200 == 199 {
				// Up to the greatest limit by doubling, and in the end beyond it, which changes nothing.
				s.raise(greatestLimit - (greatestLimit-s.limit)/2)
				s.raise(greatestLimit + 1)
			}
			if t.Failed() || step > 100000 {
				t.Fatalf("the history %d fails at the step %d: %v", seed, step, s.c)
			}
		}
		if s.c.Limit != greatestLimit || s.c.Used != greatestLimit || s.c.Told != greatestLimit {
			t.Errorf("the history %d ends with %v", seed, s.c)
		}
	}
}
