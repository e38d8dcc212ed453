package quota_test

import (
	"math"
	"math/big"
	"testing"

	"socage/api"
	"socage/quota"
)

const most = 1 << 16

// sheet is what an account ought to have, reckoned otherwise: what was charged and refunded is kept apart, and all is added as numbers without bounds.
type sheet struct{ limit, charged, refunded *big.Int }

func newSheet(limit int) *sheet {
	return &sheet{big.NewInt(int64(limit)), new(big.Int), new(big.Int)}
}

func (m *sheet) used() *big.Int {
	return new(big.Int).Sub(m.charged, m.refunded)
}

func (m *sheet) charge(n int) api.Errno {
	add := big.NewInt(int64(n))
	if add.Sign() < 0 {
		return api.ErrArg
	}
	if new(big.Int).Add(m.used(), add).Cmp(m.limit) > 0 {
		return api.ErrQuota
	}
	m.charged.Add(m.charged, add)
	return api.OK
}

func (m *sheet) refund(n int) api.Errno {
	less := big.NewInt(int64(n))
	if less.Sign() < 0 || less.Cmp(m.used()) > 0 {
		return api.ErrArg
	}
	m.refunded.Add(m.refunded, less)
	return api.OK
}

// same holds all that an account tells without being changed against the sheet.
func same(t *testing.T, a *quota.Account, m *sheet) {
	t.Helper()
	if got, want := a.Used(), m.used(); big.NewInt(int64(got)).Cmp(want) != 0 {
		t.Fatalf("Used: %d, want %v", got, want)
	}
	if got := a.Limit(); big.NewInt(int64(got)).Cmp(m.limit) != 0 {
		t.Fatalf("Limit: %d, want %v", got, m.limit)
	}
	if a.Used() < 0 || a.Used() > a.Limit() {
		t.Fatalf("%d of %d are used", a.Used(), a.Limit())
	}
}

// chargeBoth and refundBoth do the same to an account and its sheet, and hold all that it tells then against it.
func chargeBoth(t *testing.T, a *quota.Account, m *sheet, n int) api.Errno {
	t.Helper()
	used := a.Used()
	e, want := a.Charge(n), m.charge(n)
	if e != want {
		t.Fatalf("Charge of %d, when %d of %d are used: error %d, want %d", n, used, a.Limit(), e, want)
	}
	same(t, a, m)
	return e
}

func refundBoth(t *testing.T, a *quota.Account, m *sheet, n int) api.Errno {
	t.Helper()
	used := a.Used()
	e, want := a.Refund(n), m.refund(n)
	if e != want {
		t.Fatalf("Refund of %d, when %d of %d are used: error %d, want %d", n, used, a.Limit(), e, want)
	}
	same(t, a, m)
	return e
}

// made is an account of which some is used.
func made(t *testing.T, limit, used int) (*quota.Account, *sheet) {
	t.Helper()
	a, e := quota.New(limit)
	if a == nil || e != api.OK {
		t.Fatalf("New of %d: %v, error %d", limit, a, e)
	}
	m := newSheet(limit)
	same(t, a, m)
	if e := chargeBoth(t, a, m, used); e != api.OK {
		t.Fatalf("Charge of %d, of %d: error %d", used, limit, e)
	}
	return a, m
}

func limits() []int {
	return []int{0, 1, 2, 3, 9, 10, 127, 128, 255, 256, 32767, 32768, most - 2, most - 1, most}
}

// uses are numbers up to a limit: nothing, some, and all.
func uses(limit int) []int {
	l := []int{0, limit}
	for _, n := range []int{1, limit / 2, limit - 1} {
		if n > 0 && n < limit {
			l = append(l, n)
		}
	}
	return l
}

// below are numbers below 0. Some of them would be as good as right ones, if they lost their upper bits.
func below() []int {
	return []int{-1, -2, -3, -10, -255, -256, -32768, -most + 1, -most, -most - 1, -1<<31 + 1, -1 << 31, -1<<31 - 1, -1<<32 + 1, -1 << 32, -1<<32 - 1, -1 << 62, math.MinInt + most + 1, math.MinInt + most, math.MinInt + 3, math.MinInt + 1, math.MinInt}
}

// huge are numbers above each limit.
func huge() []int {
	return []int{most + 1, most + 2, 2 * most, 1<<31 - 1, 1 << 31, 1<<31 + 1, 1<<32 - 1, 1 << 32, 1<<32 + 1, 1 << 62, math.MaxInt - most - 1, math.MaxInt - most, math.MaxInt - most + 1, math.MaxInt - 3, math.MaxInt - 1, math.MaxInt}
}

// next is a number that looks like any: the same ones come in each run.
func next(seed *uint64) int {
	*seed = *seed*6364136223846793005 + 1442695040888963407
	return int(*seed >> 33)
}

// P12.1: each limit that there is has an account, of which nothing is used.
func TestNew(t *testing.T) {
	for limit := range most + 1 {
		a, e := quota.New(limit)
		if a == nil || e != api.OK {
			t.Fatalf("New of %d: %v, error %d", limit, a, e)
		}
		if a.Used() != 0 || a.Limit() != limit {
			t.Fatalf("New of %d: %d of %d are used", limit, a.Used(), a.Limit())
		}
	}
}

// P12.1, P1, rule 2: a limit below 0, or above 2^16, answers no account.
func TestNewWrong(t *testing.T) {
	for _, limit := range append(below(), huge()...) {
		for range 2 {
			if a, e := quota.New(limit); a != nil || e != api.ErrArg {
				t.Errorf("New of %d: %v, error %d, want nil, ErrArg", limit, a, e)
			}
		}
	}
	for _, limit := range []int{0, most} {
		if a, e := quota.New(limit); a == nil || e != api.OK || a.Limit() != limit {
			t.Errorf("New of %d, behind wrong ones: error %d", limit, e)
		}
	}
}

// P12.1: acts on one account, written out by hand.
func TestOrdinary(t *testing.T) {
	a, e := quota.New(22)
	if e != api.OK || a.Limit() != 22 || a.Used() != 0 {
		t.Fatalf("New: error %d", e)
	}
	for i, x := range []struct {
		does func(n int) api.Errno
		n    int
		want api.Errno
		used int
	}{
		{a.Charge, 5, api.OK, 5},
		{a.Charge, 3, api.OK, 8},
		{a.Charge, 15, api.ErrQuota, 8},
		{a.Refund, 2, api.OK, 6},
		{a.Charge, 16, api.OK, 22},
		{a.Charge, 1, api.ErrQuota, 22},
		{a.Charge, 0, api.OK, 22},
		{a.Charge, -1, api.ErrArg, 22},
		{a.Refund, 23, api.ErrArg, 22},
		{a.Refund, -1, api.ErrArg, 22},
		{a.Refund, 0, api.OK, 22},
		{a.Refund, 5, api.OK, 17},
		{a.Charge, 6, api.ErrQuota, 17},
		{a.Charge, 2, api.OK, 19},
		{a.Refund, 19, api.OK, 0},
		{a.Refund, 1, api.ErrArg, 0},
		{a.Refund, 0, api.OK, 0},
		{a.Charge, 23, api.ErrQuota, 0},
		{a.Charge, 22, api.OK, 22},
		{a.Refund, 22, api.OK, 0},
	} {
		if e := x.does(x.n); e != x.want {
			t.Errorf("%d, with %d: error %d, want %d", i, x.n, e, x.want)
		}
		if a.Used() != x.used || a.Limit() != 22 {
			t.Errorf("%d, with %d: %d of %d are used, want %d of 22", i, x.n, a.Used(), a.Limit(), x.used)
		}
	}
}

// P12.1: no limit at all leaves room for a charge of 0 alone, and for no refund but of 0.
func TestLimitNone(t *testing.T) {
	a, m := made(t, 0, 0)
	for range 3 {
		for _, n := range append(huge(), 1, 2, 5, most-1, most) {
			if e := chargeBoth(t, a, m, n); e != api.ErrQuota {
				t.Errorf("Charge of %d: error %d, want ErrQuota", n, e)
			}
			if e := refundBoth(t, a, m, n); e != api.ErrArg {
				t.Errorf("Refund of %d: error %d, want ErrArg", n, e)
			}
		}
		if e := chargeBoth(t, a, m, 0); e != api.OK {
			t.Errorf("Charge of 0: error %d", e)
		}
		if e := refundBoth(t, a, m, 0); e != api.OK {
			t.Errorf("Refund of 0: error %d", e)
		}
	}
}

// P12.1: the greatest limit is filled at once, one by one, and up to the last one.
func TestLimitMost(t *testing.T) {
	a, m := made(t, most, 0)
	for _, l := range [][]int{{most}, {most - 1, 1}, {1, most - 1}, {most / 2, most / 2}, {1, 2, 4, most - 7}} {
		for _, n := range l {
			if e := chargeBoth(t, a, m, n); e != api.OK {
				t.Fatalf("Charge of %d: error %d", n, e)
			}
		}
		if a.Used() != most || chargeBoth(t, a, m, 1) != api.ErrQuota || chargeBoth(t, a, m, most) != api.ErrQuota {
			t.Fatalf("%v: %d are used", l, a.Used())
		}
		for _, n := range l {
			if e := refundBoth(t, a, m, n); e != api.OK {
				t.Fatalf("Refund of %d: error %d", n, e)
			}
		}
	}
	for i := range most {
		if e := a.Charge(1); e != api.OK || a.Used() != i+1 {
			t.Fatalf("Charge of 1: error %d; %d are used, want %d", e, a.Used(), i+1)
		}
	}
	if e := a.Charge(1); e != api.ErrQuota || a.Used() != most || a.Limit() != most {
		t.Fatalf("Charge of 1, when all is used: error %d; %d are used", e, a.Used())
	}
	for i := range most {
		if e := a.Refund(1); e != api.OK || a.Used() != most-1-i {
			t.Fatalf("Refund of 1: error %d; %d are used, want %d", e, a.Used(), most-1-i)
		}
	}
	if e := a.Refund(1); e != api.ErrArg || a.Used() != 0 {
		t.Fatalf("Refund of 1, when nothing is used: error %d; %d are used", e, a.Used())
	}
}

// P12.1: a charge that just fills the account, and one that is greater by one; then all is used, and a charge of 0 goes on.
func TestChargeEdges(t *testing.T) {
	for _, limit := range limits() {
		for _, used := range uses(limit) {
			a, m := made(t, limit, used)
			left := limit - used
			if e := chargeBoth(t, a, m, 0); e != api.OK || a.Used() != used {
				t.Fatalf("Charge of 0, when %d of %d are used: error %d; %d are used", used, limit, e, a.Used())
			}
			if e := chargeBoth(t, a, m, left+1); e != api.ErrQuota || a.Used() != used {
				t.Fatalf("Charge of %d, when %d of %d are used: error %d; %d are used", left+1, used, limit, e, a.Used())
			}
			if e := chargeBoth(t, a, m, left); e != api.OK || a.Used() != limit {
				t.Fatalf("Charge of %d, when %d of %d are used: error %d; %d are used", left, used, limit, e, a.Used())
			}
			if e := chargeBoth(t, a, m, 1); e != api.ErrQuota {
				t.Fatalf("Charge of 1, when all of %d is used: error %d", limit, e)
			}
			if e := chargeBoth(t, a, m, 0); e != api.OK || a.Used() != limit {
				t.Fatalf("Charge of 0, when all of %d is used: error %d; %d are used", limit, e, a.Used())
			}
		}
	}
}

// P12.1: a refund of 0, of one more than is used, and of all that is used; then there is nothing to refund, and all may be charged anew.
func TestRefundEdges(t *testing.T) {
	for _, limit := range limits() {
		for _, used := range uses(limit) {
			a, m := made(t, limit, used)
			if e := refundBoth(t, a, m, 0); e != api.OK || a.Used() != used {
				t.Fatalf("Refund of 0, when %d of %d are used: error %d; %d are used", used, limit, e, a.Used())
			}
			if e := refundBoth(t, a, m, used+1); e != api.ErrArg || a.Used() != used {
				t.Fatalf("Refund of %d, when %d of %d are used: error %d; %d are used", used+1, used, limit, e, a.Used())
			}
			if e := refundBoth(t, a, m, used); e != api.OK || a.Used() != 0 {
				t.Fatalf("Refund of %d, when %d of %d are used: error %d; %d are used", used, used, limit, e, a.Used())
			}
			if e := refundBoth(t, a, m, 1); e != api.ErrArg {
				t.Fatalf("Refund of 1, when nothing of %d is used: error %d", limit, e)
			}
			if e := chargeBoth(t, a, m, limit); e != api.OK || a.Used() != limit {
				t.Fatalf("Charge of %d, when all was refunded: error %d; %d are used", limit, e, a.Used())
			}
		}
	}
}

// P12.1, P1, rule 3, rule 10: charges and refunds below 0, and above each limit, when nothing, some, and all is used. One below 0 is ErrArg, also when there is no room for any; nothing wraps round, and nothing is changed.
func TestWrongNumbers(t *testing.T) {
	for _, limit := range limits() {
		for _, used := range uses(limit) {
			a, m := made(t, limit, used)
			for _, n := range below() {
				if e := chargeBoth(t, a, m, n); e != api.ErrArg || a.Used() != used {
					t.Fatalf("Charge of %d, when %d of %d are used: error %d, want ErrArg; %d are used", n, used, limit, e, a.Used())
				}
				if e := refundBoth(t, a, m, n); e != api.ErrArg || a.Used() != used {
					t.Fatalf("Refund of %d, when %d of %d are used: error %d, want ErrArg; %d are used", n, used, limit, e, a.Used())
				}
			}
			for _, n := range huge() {
				if e := chargeBoth(t, a, m, n); e != api.ErrQuota || a.Used() != used {
					t.Fatalf("Charge of %d, when %d of %d are used: error %d, want ErrQuota; %d are used", n, used, limit, e, a.Used())
				}
				if e := refundBoth(t, a, m, n); e != api.ErrArg || a.Used() != used {
					t.Fatalf("Refund of %d, when %d of %d are used: error %d, want ErrArg; %d are used", n, used, limit, e, a.Used())
				}
			}
			if e := chargeBoth(t, a, m, limit-used); e != api.OK {
				t.Fatalf("Charge of %d, behind wrong ones: error %d", limit-used, e)
			}
			if e := refundBoth(t, a, m, limit); e != api.OK {
				t.Fatalf("Refund of %d, behind wrong ones: error %d", limit, e)
			}
		}
	}
}

// P12.1, P12.2: each act on each small account, at each number around what there is.
func TestSmallAccounts(t *testing.T) {
	for limit := range 9 {
		for used := range limit + 1 {
			for n := -limit - 3; n <= limit+3; n++ {
				a, m := made(t, limit, used)
				chargeBoth(t, a, m, n)
				b, mb := made(t, limit, used)
				refundBoth(t, b, mb, n)
			}
		}
	}
}

// P12.2: as many errors as one likes leave no trace: what goes behind them is answered as on an account that had none.
func TestErrorsChangeNothing(t *testing.T) {
	a, ma := made(t, 40, 15)
	b, mb := made(t, 40, 15)
	for _, n := range []int{3, 0, 22, 1, 5, 25, 40} {
		for _, wrong := range append(below(), huge()...) {
			a.Charge(wrong)
			a.Refund(wrong)
		}
		a.Charge(40 - b.Used() + 1)
		a.Refund(b.Used() + 1)
		same(t, a, mb)
		if e, f := chargeBoth(t, a, ma, n), chargeBoth(t, b, mb, n); e != f {
			t.Fatalf("Charge of %d: errors %d, %d", n, e, f)
		}
		if e, f := refundBoth(t, a, ma, n/2), refundBoth(t, b, mb, n/2); e != f {
			t.Fatalf("Refund of %d: errors %d, %d", n/2, e, f)
		}
	}
}

// P12.1, rule 8: a nil account, which is named ahead of what else is wrong.
func TestNilAccount(t *testing.T) {
	var a *quota.Account
	for range 2 {
		for _, n := range append(append(below(), huge()...), 0, 1, 2, most) {
			if e := a.Charge(n); e != api.ErrArg {
				t.Errorf("Charge of %d: error %d, want ErrArg", n, e)
			}
			if e := a.Refund(n); e != api.ErrArg {
				t.Errorf("Refund of %d: error %d, want ErrArg", n, e)
			}
		}
		if a.Used() != 0 || a.Limit() != 0 {
			t.Errorf("%d of %d are used, want 0 of 0", a.Used(), a.Limit())
		}
	}
}

// P12.1, P2: Used and Limit change nothing, and what is asked twice is answered alike.
func TestAskingChangesNothing(t *testing.T) {
	a, m := made(t, 100, 37)
	for range 50 {
		same(t, a, m)
	}
	if e := chargeBoth(t, a, m, 63); e != api.OK {
		t.Errorf("Charge of 63: error %d", e)
	}
	for range 50 {
		same(t, a, m)
	}
	if e := refundBoth(t, a, m, 100); e != api.OK {
		t.Errorf("Refund of 100: error %d", e)
	}
}

// act does an act of any kind to an account and its sheet: numbers of all sizes, those around what is left and what is used among them.
func act(t *testing.T, a *quota.Account, m *sheet, seed *uint64) api.Errno {
	t.Helper()
	limit, used := a.Limit(), a.Used()
	numbers := []int{0, 1, next(seed) % (limit + 2), next(seed) % (limit/8 + 2), limit - used, limit - used + 1, limit - used - 1, used, used + 1, used - 1, limit, limit + 1, -limit, below()[next(seed)%len(below())], huge()[next(seed)%len(huge())]}
	n := numbers[next(seed)%len(numbers)]
	if next(seed)%2 == 0 {
		return chargeBoth(t, a, m, n)
	}
	return refundBoth(t, a, m, n)
}

// P12.1, P12.2 (within): many acts of all kinds, each held against the sheet.
func TestManyActs(t *testing.T) {
	for _, limit := range limits() {
		for seed := range uint64(4) {
			a, m := made(t, limit, 0)
			for range 1500 {
				act(t, a, m, &seed)
			}
		}
	}
}

// P12.2 (within): the same, told by the acts alone: what is used is what was charged, less what was refunded, and never above the limit; a charge is refused just if it would be.
func TestNothingIsLost(t *testing.T) {
	for _, limit := range limits() {
		a, e := quota.New(limit)
		if e != api.OK {
			t.Fatalf("New of %d: error %d", limit, e)
		}
		seed, charged, refunded := uint64(limit), 0, 0
		for range 4000 {
			n := next(&seed) % (limit + 2)
			if next(&seed)%3 > 0 {
				n %= limit/16 + 2
			}
			if next(&seed)%2 == 0 {
				beyond := charged-refunded+n > limit
				e := a.Charge(n)
				if beyond != (e == api.ErrQuota) || beyond == (e == api.OK) {
					t.Fatalf("Charge of %d, when %d of %d are used: error %d", n, charged-refunded, limit, e)
				}
				if e == api.OK {
					charged += n
				}
			} else if e := a.Refund(n); e == api.OK {
				refunded += n
			}
			if used := a.Used(); used != charged-refunded || used < 0 || used > limit || a.Limit() != limit {
				t.Fatalf("%d charged, %d refunded, but %d of %d are used, and the limit was %d", charged, refunded, used, a.Limit(), limit)
			}
		}
	}
}

// P12.2: far more is charged, and refunded, in a long life than the limit, and than a short number could tell; the account knows of none of it but what is left.
func TestLongLife(t *testing.T) {
	for _, limit := range []int{1, 7, 256, most} {
		a, m := made(t, limit, 0)
		for range 1 << 17 {
			if a.Charge(limit) != api.OK || a.Used() != limit || a.Refund(limit) != api.OK || a.Used() != 0 {
				t.Fatalf("all of %d, charged and refunded: %d of %d are used", limit, a.Used(), a.Limit())
			}
		}
		same(t, a, m)
		chargeBoth(t, a, m, limit)
		chargeBoth(t, a, m, 1)
	}
}

// P2: what is done to one account is not seen in another one, of the same limit or not, and the same acts are answered alike.
func TestAccountsStandApart(t *testing.T) {
	a, ma := made(t, 30, 0)
	b, mb := made(t, 30, 0)
	c, mc := made(t, 50, 20)
	chargeBoth(t, a, ma, 30)
	same(t, b, mb)
	same(t, c, mc)
	chargeBoth(t, b, mb, 29)
	refundBoth(t, c, mc, 20)
	same(t, a, ma)
	refundBoth(t, a, ma, 30)
	same(t, b, mb)
	seedA, seedB, seedC := uint64(1), uint64(2), uint64(3)
	for range 500 {
		act(t, a, ma, &seedA)
		act(t, b, mb, &seedB)
		act(t, c, mc, &seedC)
		same(t, a, ma)
		same(t, b, mb)
	}
	d, md := made(t, 60, 10)
	e, me := made(t, 60, 10)
	seedD, seedE := uint64(4), uint64(4)
	for range 500 {
		if x, y := act(t, d, md, &seedD), act(t, e, me, &seedE); x != y || d.Used() != e.Used() {
			t.Fatalf("the same acts: errors %d, %d; %d, %d are used", x, y, d.Used(), e.Used())
		}
	}
	f, mf := made(t, 30, 0)
	same(t, f, mf)
}
