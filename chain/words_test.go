package chain_test

import (
	"crypto/hmac"
	"crypto/sha256"
	"math/big"

	"portcullis/api"
)

// What follows says the chapter's words again, by the library's SHA-256 and HMAC, and by numbers that have no end.

// number is a number in so many bytes, the lowest first; one below 0 has 2^(8 * size) added.
func number(n int64, size int) []byte {
	x := big.NewInt(n)
	if n < 0 {
		x.Add(x, new(big.Int).Lsh(big.NewInt(1), uint(8*size)))
	}
	var b []byte
	for range size {
		low := new(big.Int)
		x.DivMod(x, big.NewInt(256), low)
		b = append(b, byte(low.Int64()))
	}
	return b
}

// hashOf is the SHA-256 of rows, one behind the other.
func hashOf(rows ...[]byte) api.Hash {
	d := sha256.New()
	for _, r := range rows {
		d.Write(r)
	}
	return api.Hash(d.Sum(nil))
}

func eventHash(e api.Event) api.Hash { return hashOf(e.Digest[:], number(int64(e.E), 8)) }

func register(l []api.Event) api.Hash {
	var r api.Hash
	for _, e := range l {
		x := eventHash(e)
		r = hashOf(r[:], x[:])
	}
	return r
}

// quoted is what a quote is the tag of.
func quoted(nonce []byte, l []api.Event) []byte {
	b := []byte{'p', 'o', 'r', 't', 'c', 'u', 'l', 'l', 'i', 's', ' ', 'q', 'u', 'o', 't', 'e', 0}
	b = append(b, number(int64(len(nonce)), 4)...)
	b = append(b, nonce...)
	b = append(b, number(int64(len(l)), 4)...)
	r := register(l)
	return append(b, r[:]...)
}

func tag(key, b []byte) api.Hash {
	m := hmac.New(sha256.New, key)
	m.Write(b)
	return api.Hash(m.Sum(nil))
}

func quote(key, nonce []byte, l []api.Event) api.Hash { return tag(key, quoted(nonce, l)) }
