package share_test

import (
	"math/big"
	"slices"
	"testing"

	"novation/api"
	"novation/share"
)

const most = 1<<63 - 1

func TestP3_1(t *testing.T) {
	for _, c := range []struct {
		total   int64
		weights []int64
		want    []int64
		e       api.Errno
	}{
		{10, []int64{1, 1, 1}, []int64{4, 3, 3}, api.OK},
		{11, []int64{1, 1, 1}, []int64{4, 4, 3}, api.OK},
		{7, []int64{1, 2, 3}, []int64{1, 2, 4}, api.OK},
		{1, []int64{1, 5, 5}, []int64{0, 1, 0}, api.OK},
		{5, []int64{0, 2, 0, 2}, []int64{0, 3, 0, 2}, api.OK},
		{most, []int64{most}, []int64{most}, api.OK},
		{most, []int64{most - 1, 1}, []int64{most - 1, 1}, api.OK},
		{0, []int64{3, 0}, []int64{0, 0}, api.OK},
		{0, nil, nil, api.OK},
		{0, []int64{0, 0}, []int64{0, 0}, api.OK},
		{1, nil, nil, api.ErrZero},
		{1, []int64{0, 0}, nil, api.ErrZero},
		{-1, nil, nil, api.ErrArg},
		{-1, []int64{1}, nil, api.ErrArg},
		{1, []int64{1, -1}, nil, api.ErrArg},
		{0, []int64{-1}, nil, api.ErrArg},
		{1, []int64{most, 1}, nil, api.ErrRange},
	} {
		if l, e := share.Split(c.total, c.weights...); !slices.Equal(l, c.want) || e != c.e {
			t.Error("Split", c.total, c.weights, l, e)
		}
	}
}

func TestP3_2(t *testing.T) {
	for _, c := range []struct {
		total int64
		rooms []int64
		want  []int64
		e     api.Errno
	}{
		{5, []int64{3, 4}, []int64{2, 3}, api.OK},
		{7, []int64{3, 4}, []int64{3, 4}, api.OK},
		{0, []int64{0}, []int64{0}, api.OK},
		{0, nil, nil, api.OK},
		{8, []int64{3, 4}, nil, api.ErrFull},
		{1, nil, nil, api.ErrFull},
		{1, []int64{0, 0}, nil, api.ErrFull},
		{1, []int64{most, most}, nil, api.ErrRange},
		{-1, []int64{3}, nil, api.ErrArg},
		{9, []int64{3, -1}, nil, api.ErrArg},
	} {
		if l, e := share.Fill(c.total, c.rooms...); !slices.Equal(l, c.want) || e != c.e {
			t.Error("Fill", c.total, c.rooms, l, e)
		}
	}
	for _, c := range []struct {
		total int64
		rooms []int64
		want  []int64
		left  int64
		e     api.Errno
	}{
		{5, []int64{3, 4}, []int64{3, 2}, 0, api.OK},
		{9, []int64{3, 0, 4}, []int64{3, 0, 4}, 2, api.OK},
		{2, []int64{most, most}, []int64{2, 0}, 0, api.OK},
		{4, nil, nil, 4, api.OK},
		{-1, nil, nil, 0, api.ErrArg},
		{1, []int64{1, -1}, nil, 0, api.ErrArg},
	} {
		if l, left, e := share.Takes(c.total, c.rooms...); !slices.Equal(l, c.want) || left != c.left || e != c.e {
			t.Error("Takes", c.total, c.rooms, l, left, e)
		}
	}
}

func TestP3_3(t *testing.T) {
	seed := uint64(1)
	next := func(n uint64) int64 {
		seed = seed*6364136223846793005 + 1442695040888963407
		return int64(seed >> 33 % n)
	}
	for range 3000 {
		weights := make([]int64, 1+next(6))
		sum := int64(0)
		for i := range weights {
			weights[i] = next(5) * (1 + next(1<<40))
			sum += weights[i]
		}
		total := next(1 << 20)
		if sum == 0 {
			continue
		}
		shares(t, total, sum, weights)
		if total > sum {
			continue
		}
		l, e := share.Fill(total, weights...)
		for i := range l {
			if e != api.OK || l[i] > weights[i] {
				t.Error("Fill above its room", total, weights, l)
			}
		}
	}
}

func shares(t *testing.T, total, sum int64, weights []int64) {
	l, e := share.Split(total, weights...)
	if e != api.OK || len(l) != len(weights) {
		t.Fatal("Split", total, weights, l, e)
	}
	all := int64(0)
	for i, n := range l {
		quota := new(big.Int).Mul(big.NewInt(total), big.NewInt(weights[i]))
		q := quota.Div(quota, big.NewInt(sum)).Int64()
		if n != q && n != q+1 || weights[i] == 0 && n != 0 {
			t.Error("Split", total, weights, l)
		}
		all += n
	}
	if all != total {
		t.Error("Split loses something", total, weights, l)
	}
}

func TestP3_1_Largest(t *testing.T) {
	seed := uint64(9)
	for range 200 {
		weights := make([]int64, 40)
		sum, total := int64(0), int64(0)
		for i := range weights {
			seed = seed*6364136223846793005 + 1442695040888963407
			weights[i] = int64(seed >> 33 % 50)
			sum += weights[i]
			total += int64(seed >> 50 % 9)
		}
		l, e := share.Split(total, weights...)
		if e != api.OK {
			t.Fatal("Split", e)
		}
		for i := range l {
			for j := range l {
				more := l[i] > total*weights[i]/sum
				less := l[j] == total*weights[j]/sum
				a, b := total*weights[i]%sum, total*weights[j]%sum
				if more && less && (a < b || a == b && j < i) {
					t.Fatal("not the largest first", total, weights, l)
				}
			}
		}
	}
}
