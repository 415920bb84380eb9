package command_test

import (
	"bytes"
	"math/rand"
	"testing"

	"voile/api"
	"voile/command"
)

// P13.4

func TestEdges(t *testing.T) {
	for _, o := range edges() {
		told(t, o)
	}
}

// numberUpTo is one of from least to most, the ends among them often.
func numberUpTo(r *rand.Rand, least, most int) int {
	switch r.Intn(4) {
	case 0:
		return least
	case 1:
		return most
	}
	return least + r.Intn(most-least+1)
}

func bytesUpTo(r *rand.Rand, least, most int) []byte {
	b := make([]byte, numberUpTo(r, least, most)*api.SectorSize)
	r.Read(b)
	return b
}

// randomOp is any operation that may be.
func randomOp(r *rand.Rand) api.Op {
	o := api.Op{Kind: api.OpKind(1 + r.Intn(9)), Volume: uint64(numberUpTo(r, 1, mostVolume))}
	switch o.Kind {
	case api.OpCreate, api.OpResize:
		o.Size = numberUpTo(r, 0, 256)
	case api.OpSnap:
		for o.To == 0 || o.To == o.Volume {
			o.To = uint64(numberUpTo(r, 1, mostVolume))
		}
	case api.OpWrite:
		o.At, o.Data = numberUpTo(r, 0, 1<<20), bytesUpTo(r, 1, 32)
	case api.OpZero, api.OpDiscard, api.OpRead:
		o.At, o.Count = numberUpTo(r, 0, 1<<20), numberUpTo(r, 1, 1024)
	case api.OpFlush:
		o.Volume = 0
	}
	return o
}

// randomAnswer is any answer that may be.
func randomAnswer(r *rand.Rand) api.Answer {
	a := api.Answer{Code: api.Errno(numberUpTo(r, 0, 14))}
	if a.Code == api.OK {
		a.Data = bytesUpTo(r, 0, 1+r.Intn(api.MaxCount))
	}
	if r.Intn(3) == 0 {
		a = api.Answer{Code: api.ErrFull, Done: numberUpTo(r, 0, 1024)}
	}
	return a
}

// What was packed is read as it was, and unlike ones have unlike bytes.
func TestFollows(t *testing.T) {
	r := rand.New(rand.NewSource(13))
	seen := map[string]api.Op{}
	for range 20000 {
		o := randomOp(r)
		b, e := command.Bytes(o)
		if e != api.OK {
			t.Fatalf("Bytes(%+v): errno %d", o, e)
		}
		back, e := command.Of(b)
		if e != api.OK || !alike(back, o) {
			t.Fatalf("%+v is read as %+v, errno %d", o, back, e)
		}
		if other, is := seen[string(b)]; is && !alike(o, other) {
			t.Fatalf("%+v and %+v have the same bytes", o, other)
		}
		seen[string(b)] = o
		told(t, o)
		checkPart(t, o)
	}
}

func TestAnswersFollow(t *testing.T) {
	r := rand.New(rand.NewSource(14))
	seen := map[string]api.Answer{}
	for range 3000 {
		a := randomAnswer(r)
		b, e := command.AnswerBytes(a)
		if e != api.OK {
			t.Fatalf("AnswerBytes(%+v): errno %d", a, e)
		}
		back, e := command.AnswerOf(b)
		if e != api.OK || !alikeAnswers(back, a) {
			t.Fatalf("%+v is read as %+v, errno %d", a, back, e)
		}
		if other, is := seen[string(b)]; is && !alikeAnswers(a, other) {
			t.Fatalf("%+v and %+v have the same bytes", a, other)
		}
		seen[string(b)] = a
		toldAnswer(t, a)
	}
}

// Bytes that are read are just those of what comes.
func TestReadBytes(t *testing.T) {
	r := rand.New(rand.NewSource(15))
	for range 20000 {
		b, _ := command.Bytes(randomOp(r))
		if r.Intn(2) == 0 {
			b, _ = command.AnswerBytes(randomAnswer(r))
			b = b[:min(len(b), 100)]
		}
		for range r.Intn(4) {
			switch at := r.Intn(len(b) + 1); {
			case at == len(b):
				b = append(b, byte(r.Intn(3)))
			case r.Intn(4) == 0:
				b = append(b[:at:at], b[at+1:]...)
			default:
				b[at] = byte(r.Intn(256) & r.Intn(256))
			}
		}
		read(t, b)
		readAnswer(t, b)
	}
}

// An operation and an answer to it, and all that was told of them.
type earlier struct {
	o, back, copied api.Op
	b               []byte
	a, readA, other api.Answer
	answer          []byte
	part            any
}

// No call changes what an earlier one answered.
func TestEarlierAnswers(t *testing.T) {
	r := rand.New(rand.NewSource(16))
	var l, kept []earlier
	for range 500 {
		x := earlier{o: randomOp(r), a: randomAnswer(r)}
		x.b, _ = command.Bytes(x.o)
		x.back, _ = command.Of(x.b)
		x.copied = command.Copy(x.back)
		x.part = command.Part(x.copied)
		x.answer, _ = command.AnswerBytes(x.a)
		x.readA, _ = command.AnswerOf(x.answer)
		x.other = command.CopyAnswer(x.readA)
		l = append(l, x)
		x.o, x.back, x.copied = own(x.o), own(x.back), own(x.copied)
		x.a, x.readA, x.other = ownAnswer(x.a), ownAnswer(x.readA), ownAnswer(x.other)
		x.b, x.answer = bytes.Clone(x.b), bytes.Clone(x.answer)
		kept = append(kept, x)
		command.May(x.o)
		command.Changes(x.o)
		command.Same(x.o, x.back)
		command.SameAnswer(x.a, x.other)
	}
	for i, x := range l {
		k := kept[i]
		same := alike(x.o, k.o) && alike(x.back, k.o) && alike(x.copied, k.o) && alike(k.back, k.o) && bytes.Equal(x.b, k.b) && x.part == k.part
		if !same || !alikeAnswers(x.a, k.a) || !alikeAnswers(x.readA, k.a) || !alikeAnswers(x.other, k.a) || !bytes.Equal(x.answer, k.answer) {
			t.Errorf("what was answered of %+v is another now: %+v", k, x)
		}
	}
}

// FuzzCommand: P0.6 too: no call panics.
func FuzzCommand(f *testing.F) {
	for _, o := range ordinary() {
		f.Add(plainBytes(o), int(o.Kind), o.Volume, o.To, o.Size, o.At, o.Count, o.Data)
	}
	for _, a := range answers() {
		f.Add(plainAnswerBytes(a)[:9], int(a.Code), uint64(0), uint64(1)<<63, -1, a.Done, 0, []byte{})
	}
	f.Fuzz(func(t *testing.T, b []byte, kind int, volume, to uint64, size, at, count int, data []byte) {
		read(t, b)
		readAnswer(t, b)
		o := api.Op{Kind: api.OpKind(kind), Volume: volume, To: to, Size: size, At: at, Count: count, Data: data}
		told(t, o)
		checkPart(t, o)
		a := api.Answer{Code: api.Errno(kind), Done: at, Data: data}
		toldAnswer(t, a)
		if command.Changes(o) == (kind == 8 || kind == 9) || !command.Same(o, command.Copy(o)) || !command.SameAnswer(a, command.CopyAnswer(a)) {
			t.Errorf("%+v, %+v: another, or changes", o, a)
		}
	})
}
