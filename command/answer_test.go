package command_test

import (
	"bytes"
	"encoding/binary"
	"math"
	"testing"

	"voile/api"
	"voile/command"
)

// P13.2

// answers are answers that may be, those at the edges among them.
func answers() []api.Answer {
	l := []api.Answer{
		{},
		{Data: sectors(1, 3)},
		{Data: sectors(5, 4)},
		{Data: sectors(api.MaxCount, 5)},
		{Code: api.ErrFull, Done: 1},
		{Code: api.ErrFull, Done: 258},
		{Code: api.ErrFull, Done: api.MaxCount - 1},
		{Code: api.ErrFull, Done: api.MaxCount},
	}
	for code := api.ErrNil; code <= api.ErrSound; code++ {
		l = append(l, api.Answer{Code: code})
	}
	return l
}

// plainMayAnswer is whether it may be an answer, by the chapter's words.
func plainMayAnswer(a api.Answer) bool {
	done := a.Done == 0 || a.Code == 8 && a.Done > 0 && a.Done <= 1024
	data := len(a.Data) == 0 || a.Code == 0 && len(a.Data)%64 == 0 && len(a.Data) <= 1024*64
	return a.Code >= 0 && a.Code <= 14 && done && data
}

func plainAnswerBytes(a api.Answer) []byte {
	return blob(four([]byte{byte(a.Code)}, a.Done), a.Data)
}

// plainAnswerOf is the answer that has just these bytes, if there is one.
func plainAnswerOf(b []byte) (api.Answer, bool) {
	if len(b) < 9 {
		return api.Answer{}, false
	}
	a := api.Answer{Code: api.Errno(b[0]), Done: int(binary.LittleEndian.Uint32(b[1:])), Data: b[9:]}
	if !plainMayAnswer(a) || !bytes.Equal(plainAnswerBytes(a), b) {
		return api.Answer{}, false
	}
	return a, true
}

func alikeAnswers(a, b api.Answer) bool {
	return a.Code == b.Code && a.Done == b.Done && bytes.Equal(a.Data, b.Data)
}

func ownAnswer(a api.Answer) api.Answer {
	a.Data = append([]byte(nil), a.Data...)
	return a
}

// toldAnswer holds what is told of an answer, whether it may be or not, against the chapter's words.
func toldAnswer(t testing.TB, a api.Answer) {
	t.Helper()
	kept := ownAnswer(a)
	may := plainMayAnswer(a)
	if command.MayAnswer(a) != may {
		t.Errorf("MayAnswer(%+v): %v; want %v", a, !may, may)
	}
	b, e := command.AnswerBytes(a)
	if !alikeAnswers(a, kept) {
		t.Fatalf("%+v: what is handed in is changed: %+v", kept, a)
	}
	if !may {
		if len(b) != 0 || e != api.ErrArg {
			t.Errorf("AnswerBytes(%+v): %v, errno %d; want errno %d alone", a, b, e, api.ErrArg)
		}
		return
	}
	if e != api.OK || !bytes.Equal(b, plainAnswerBytes(a)) {
		t.Errorf("AnswerBytes(%+v): %v, errno %d; want %v", a, b, e, plainAnswerBytes(a))
		return
	}
	readAnswer(t, b)
	overwrite(b)
	if !alikeAnswers(a, kept) {
		t.Fatalf("AnswerBytes(%+v) share the answer's memory", kept)
	}
}

// readAnswer holds what is told of bytes, whether they are an answer's or not.
func readAnswer(t testing.TB, b []byte) {
	t.Helper()
	handed := bytes.Clone(b)
	want, is := plainAnswerOf(b)
	want = ownAnswer(want)
	a, e := command.AnswerOf(handed)
	if !bytes.Equal(handed, b) {
		t.Fatalf("AnswerOf(%v): what is handed in is changed: %v", b, handed)
	}
	if !is {
		if e != api.ErrBytes || !alikeAnswers(a, api.Answer{}) {
			t.Errorf("AnswerOf(%v): %+v, errno %d; want errno %d alone", b, a, e, api.ErrBytes)
		}
		return
	}
	if e != api.OK || !alikeAnswers(a, want) || !command.SameAnswer(a, want) {
		t.Errorf("AnswerOf(%v): %+v, errno %d; want %+v", b, a, e, want)
		return
	}
	overwrite(handed)
	if !alikeAnswers(a, want) {
		t.Errorf("AnswerOf(%v) shares the bytes' memory", b)
	}
	if back, e := command.AnswerBytes(a); e != api.OK || !bytes.Equal(back, b) {
		t.Errorf("%v are read, and packed as %v, errno %d", b, back, e)
	}
}

func TestAnswers(t *testing.T) {
	for _, a := range answers() {
		if !command.MayAnswer(a) {
			t.Errorf("MayAnswer(%+v): false", a)
		}
		toldAnswer(t, a)
	}
}

// The chapter's bytes, byte by byte.
func TestAnswerBytes(t *testing.T) {
	one := sectors(1, 5)
	for _, x := range []struct {
		a    api.Answer
		want []byte
	}{
		{api.Answer{}, []byte{0, 0, 0, 0, 0, 0, 0, 0, 0}},
		{api.Answer{Code: api.ErrSound}, []byte{14, 0, 0, 0, 0, 0, 0, 0, 0}},
		{api.Answer{Code: api.ErrFull}, []byte{8, 0, 0, 0, 0, 0, 0, 0, 0}},
		{api.Answer{Code: api.ErrFull, Done: 1024}, []byte{8, 0, 4, 0, 0, 0, 0, 0, 0}},
		{api.Answer{Code: api.ErrFull, Done: 258}, []byte{8, 2, 1, 0, 0, 0, 0, 0, 0}},
		{api.Answer{Data: one}, append([]byte{0, 0, 0, 0, 0, 64, 0, 0, 0}, one...)},
		{api.Answer{Data: sectors(1024, 1)}, append([]byte{0, 0, 0, 0, 0, 0, 0, 1, 0}, sectors(1024, 1)...)},
	} {
		b, e := command.AnswerBytes(x.a)
		if e != api.OK || !bytes.Equal(b, x.want) {
			t.Errorf("AnswerBytes(%+v): %v, errno %d; want %v", x.a, b, e, x.want)
		}
		a, e := command.AnswerOf(x.want)
		if e != api.OK || !alikeAnswers(a, x.a) {
			t.Errorf("AnswerOf(%v): %+v, errno %d; want %+v", x.want, a, e, x.a)
		}
	}
}

func codes() []api.Errno {
	l := []api.Errno{math.MinInt, math.MinInt + 8, -1 << 32, -256, -248, -14, -2, -1}
	for code := range api.Errno(18) {
		l = append(l, code)
	}
	return append(l, 255, 256, 264, 1<<32, 1<<32+8, 1<<62, math.MaxInt-1, math.MaxInt)
}

// Each code, with each number of blocks done, and with data of about each edge.
func TestMayAnswer(t *testing.T) {
	var datas [][]byte
	for _, n := range []int{0, 1, 63, 64, 65, 127, 128, 1024 * 63, 1024*64 - 1, 1024 * 64, 1024*64 + 1, 1025 * 64, 1026 * 64} {
		datas = append(datas, make([]byte, n))
	}
	for _, code := range codes() {
		for _, done := range []int{math.MinInt, -1 << 32, -1024, -1, 0, 1, 2, 1023, 1024, 1025, 1 << 32, 1<<32 + 1, math.MaxInt} {
			for _, data := range append(datas, nil) {
				a := api.Answer{Code: code, Done: done, Data: data}
				if may := plainMayAnswer(a); command.MayAnswer(a) != may {
					t.Errorf("MayAnswer of code %d, done %d, %d bytes: %v; want %v", code, done, len(data), !may, may)
				}
				if len(data) < 200 {
					toldAnswer(t, a)
				}
			}
		}
	}
}

// What may not be, one by one.
func TestMayNotAnswer(t *testing.T) {
	for _, a := range []api.Answer{
		{Code: 15}, {Code: -1}, {Code: 256}, {Code: 15, Done: 1}, {Code: 15, Data: sectors(1, 1)},
		{Done: 1}, {Done: -1}, {Code: 7, Done: 1}, {Code: 9, Done: 1}, {Code: 14, Done: 1}, {Code: 8, Done: -1}, {Code: 8, Done: 1025},
		{Code: 8, Data: sectors(1, 1)}, {Code: 8, Done: 1, Data: sectors(1, 1)}, {Code: 1, Data: sectors(1, 1)}, {Code: 14, Data: sectors(1, 1)},
		{Data: some(1, 1)}, {Data: some(63, 1)}, {Data: some(65, 1)}, {Data: sectors(1025, 1)}, {Done: 1, Data: sectors(1, 1)},
		{Data: make([]byte, api.MaxBlob)}, {Data: make([]byte, api.MaxBlob+64)},
	} {
		if command.MayAnswer(a) {
			t.Errorf("MayAnswer of code %d, done %d, %d bytes: true", a.Code, a.Done, len(a.Data))
		}
		toldAnswer(t, a)
	}
}

func TestAnswerOfSpoiled(t *testing.T) {
	for _, a := range answers() {
		b := plainAnswerBytes(a)
		if len(b) > 1000 {
			// Of long ones, the ends alone.
			for _, cut := range [][]byte{b[:len(b)-1], b[:len(b)-64], b[1:], append(bytes.Clone(b), 0), append(bytes.Clone(b), sectors(1, 0)...)} {
				readAnswer(t, cut)
			}
			continue
		}
		spoil(b, func(b []byte) { readAnswer(t, b) })
	}
}

func TestAnswerOfNone(t *testing.T) {
	readAnswer(t, nil)
	for code := range 256 {
		for n := range 80 {
			b := make([]byte, n)
			if n > 0 {
				b[0] = byte(code)
			}
			readAnswer(t, b)
		}
		for _, done := range []int{1, 1024, 1025, 1 << 20, 1<<32 - 1} {
			readAnswer(t, blob(four([]byte{byte(code)}, done), nil))
			readAnswer(t, blob(four([]byte{byte(code)}, done), sectors(1, 1)))
		}
		for _, data := range [][]byte{some(1, 1), some(63, 1), sectors(1, 1), sectors(2, 1)} {
			readAnswer(t, blob(four([]byte{byte(code)}, 0), data))
		}
	}
	for _, n := range []int{65535, 65537, 65536 + 64, api.MaxBlob, api.MaxBlob + 1} {
		b := blob(four([]byte{0}, 0), make([]byte, n))
		if a, e := command.AnswerOf(b); e != api.ErrBytes || !alikeAnswers(a, api.Answer{}) {
			t.Errorf("%d bytes of data: errno %d", n, e)
		}
	}
	for _, said := range []int{0, 63, 65, 128, 1 << 16, 1 << 24, 1<<24 + 1, 1<<32 - 1} {
		b := append(four(four([]byte{0}, 0), said), sectors(1, 1)...)
		if a, e := command.AnswerOf(b); e != api.ErrBytes || !alikeAnswers(a, api.Answer{}) {
			t.Errorf("64 bytes of data, of which %d are said: errno %d", said, e)
		}
	}
}

// unlikeAnswers are answers that are unlike the one that is handed in, each in one field alone.
func unlikeAnswers(a api.Answer) []api.Answer {
	var l []api.Answer
	put := func(change func(*api.Answer)) {
		x := ownAnswer(a)
		change(&x)
		l = append(l, x)
	}
	for _, by := range []int{1, -1, 1 << 8, 1 << 16, 1 << 32, math.MinInt} {
		put(func(x *api.Answer) { x.Code += api.Errno(by) })
		put(func(x *api.Answer) { x.Done += by })
	}
	for i := 0; i < len(a.Data); i += max(1, len(a.Data)/500) {
		put(func(x *api.Answer) { x.Data[i] ^= 1 << (i % 8) })
	}
	put(func(x *api.Answer) { x.Data = append(x.Data, 0) })
	if len(a.Data) > 0 {
		put(func(x *api.Answer) { x.Data = x.Data[1:] })
		put(func(x *api.Answer) { x.Data = x.Data[:len(x.Data)-1] })
		put(func(x *api.Answer) { x.Data[len(x.Data)-1]++ })
		put(func(x *api.Answer) { x.Data = nil })
	}
	return l
}

func TestSameAnswer(t *testing.T) {
	l := append(answers(), api.Answer{Code: -5, Done: -3, Data: some(70, 1)})
	for i, a := range l {
		if !command.SameAnswer(a, a) || !command.SameAnswer(a, ownAnswer(a)) || !command.SameAnswer(ownAnswer(a), a) {
			t.Errorf("SameAnswer(%+v), of itself: false", a)
		}
		for j, other := range l {
			if command.SameAnswer(a, other) != (i == j) {
				t.Errorf("SameAnswer(%+v, %+v): %v", a, other, i != j)
			}
		}
		for _, other := range unlikeAnswers(a) {
			if command.SameAnswer(a, other) || command.SameAnswer(other, a) {
				t.Errorf("SameAnswer of code %d, done %d, and code %d, done %d: true", a.Code, a.Done, other.Code, other.Done)
			}
		}
	}
	// Nil and empty are one.
	a, b := api.Answer{}, api.Answer{Data: make([]byte, 0, 9)}
	if !command.SameAnswer(a, b) || !command.SameAnswer(b, a) {
		t.Error("no data and empty data are not the same")
	}
	toldAnswer(t, b)
	toldAnswer(t, api.Answer{Code: 3, Data: []byte{}})
}

func TestCopyAnswer(t *testing.T) {
	for _, a := range append(answers(), api.Answer{Code: -5, Done: -3, Data: some(70, 1)}) {
		kept := ownAnswer(a)
		first := command.CopyAnswer(a)
		second := command.CopyAnswer(a)
		if !alikeAnswers(a, kept) || !alikeAnswers(first, kept) || !alikeAnswers(second, kept) {
			t.Errorf("CopyAnswer(%+v): %+v, then %+v", kept, first, second)
		}
		overwrite(first.Data)
		if !alikeAnswers(a, kept) || !alikeAnswers(second, kept) {
			t.Errorf("CopyAnswer(%+v) shares its memory", kept)
		}
		overwrite(a.Data)
		if !alikeAnswers(second, kept) {
			t.Errorf("CopyAnswer(%+v) shares the answer's memory", kept)
		}
	}
	// What is behind the data is not shared, either.
	room := sectors(1, 3)
	overwrite(command.CopyAnswer(api.Answer{Data: room[:0]}).Data)
	overwrite(command.CopyAnswer(api.Answer{Data: room[:5]}).Data)
	if !bytes.Equal(room, sectors(1, 3)) {
		t.Error("CopyAnswer shares what is behind the data")
	}
}
