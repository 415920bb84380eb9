package device

import (
	"voile/api"
	"voile/wire"
)

// Shapes of a device's bytes: how many volumes; a volume's number, its size, how many of its blocks are mapped; a mapped block.
const (
	headShape   = "4"
	volumeShape = "444"
	blockShape  = "4#"
)

// Bytes are a device's bytes.
func (d *Device) Bytes() []byte {
	if d.none() {
		return nil
	}
	out := appended(nil, headShape, uint64(len(d.volumes)))
	for _, v := range d.Volumes() {
		x := d.volumes[v]
		out = appended(out, volumeShape, v, uint64(x.size), uint64(len(x.blocks)))
		for _, b := range d.Mapped(v) {
			out = appended(out, blockShape, uint64(b), *x.blocks[b])
		}
	}
	return out
}

// Of is the device whose bytes b is.
func Of(b []byte) (*Device, api.Errno) {
	head, rest, ok := cut(b, headShape)
	if !ok {
		return nil, api.ErrBytes
	}
	d := New()
	// No volume has the number 0, so each rises above it.
	last := uint64(0)
	for range head[0].(uint64) {
		var v uint64
		v, rest, ok = d.take(rest)
		if !ok || v <= last {
			return nil, api.ErrBytes
		}
		last = v
	}
	if len(rest) > 0 {
		return nil, api.ErrBytes
	}
	return d, api.OK
}

// take puts the volume with which b begins into the device: its number, and the bytes behind it; no: there is none.
func (d *Device) take(b []byte) (uint64, []byte, bool) {
	values, rest, ok := cut(b, volumeShape)
	if !ok {
		return 0, nil, false
	}
	v, size, mapped := values[0].(uint64), values[1].(uint64), values[2].(uint64)
	if size > api.MaxSize {
		return 0, nil, false
	}
	x := volume{int(size), map[int]*api.Block{}}
	next := uint64(0)
	for range mapped {
		values, rest, ok = cut(rest, blockShape)
		if !ok {
			return 0, nil, false
		}
		n, own := values[0].(uint64), values[1].(api.Block)
		if n < next || n >= size {
			return 0, nil, false
		}
		x.blocks[int(n)] = &own
		next = n + 1
	}
	d.volumes[v] = x
	return v, rest, true
}

// appended are values' bytes behind those of out.
func appended(out []byte, shape string, values ...any) []byte {
	// All that a device has is in its bounds, so there is no error.
	own, _ := wire.Pack(shape, values...)
	return append(out, own...)
}

// cut are the values with which b begins, and the bytes behind them; no: it does not begin with such.
func cut(b []byte, shape string) ([]any, []byte, bool) {
	values, taken, e := wire.Unpack(shape, b)
	if e != api.OK {
		return nil, nil, false
	}
	return values, b[taken:], true
}
