package device

import (
	"voile/api"
	"voile/command"
	"voile/part"
)

// Do does an operation.
func (d *Device) Do(o api.Op) api.Answer {
	if e := d.wrong(o); e != api.OK {
		return api.Answer{Code: e}
	}
	return acts()[o.Kind](d, o)
}

// Part does an operation in part: of one that would write more blocks than so many the first of them alone.
func (d *Device) Part(o api.Op, blocks int) api.Answer {
	writes := o.Kind == api.OpWrite || o.Kind == api.OpZero
	if !writes || d.wrong(o) != api.OK || touched(o) <= blocks {
		return d.Do(o)
	}
	done := max(blocks, 0)
	d.lay(o, done)
	return api.Answer{Code: api.ErrFull, Done: done}
}

// acts are what operations do, by their kinds, to a device that does not refuse them.
func acts() map[api.OpKind]func(*Device, api.Op) api.Answer {
	return map[api.OpKind]func(*Device, api.Op) api.Answer{
		api.OpCreate:  (*Device).create,
		api.OpDelete:  (*Device).remove,
		api.OpResize:  (*Device).resize,
		api.OpSnap:    (*Device).snap,
		api.OpWrite:   (*Device).write,
		api.OpZero:    (*Device).write,
		api.OpDiscard: (*Device).discard,
		api.OpFlush:   (*Device).flush,
		api.OpRead:    (*Device).read,
	}
}

// wrong is why an operation is refused.
func (d *Device) wrong(o api.Op) api.Errno {
	if d.none() {
		return api.ErrNil
	}
	if !command.May(o) {
		return api.ErrArg
	}
	x, is := d.volumes[o.Volume]
	switch o.Kind {
	case api.OpFlush:
		return api.OK
	case api.OpCreate:
		if is {
			return api.ErrExists
		}
		return api.OK
	}
	if !is {
		return api.ErrNone
	}
	if _, there := d.volumes[o.To]; o.Kind == api.OpSnap && there {
		return api.ErrExists
	}
	if x.ends(o) {
		return api.ErrRange
	}
	return api.OK
}

// ends: does the volume end ahead of what an operation names?
func (x volume) ends(o api.Op) bool {
	switch o.Kind {
	case api.OpWrite, api.OpZero, api.OpRead:
		row := command.Part(o).(api.Row)
		return row.At+row.Count > x.size*api.Sectors
	case api.OpDiscard:
		space := command.Part(o).(api.Space)
		return space.At+space.Count > x.size
	}
	return false
}

func (d *Device) create(o api.Op) api.Answer {
	d.volumes[o.Volume] = volume{command.Part(o).(int), map[int]*api.Block{}}
	return api.Answer{}
}

func (d *Device) remove(o api.Op) api.Answer {
	delete(d.volumes, o.Volume)
	return api.Answer{}
}

func (d *Device) resize(o api.Op) api.Answer {
	x := d.volumes[o.Volume]
	x.size = command.Part(o).(int)
	d.volumes[o.Volume] = x
	for b := range x.blocks {
		if b >= x.size {
			delete(x.blocks, b)
		}
	}
	return api.Answer{}
}

func (d *Device) snap(o api.Op) api.Answer {
	fork := command.Part(o).(api.Fork)
	d.volumes[fork.To] = d.volumes[fork.Volume].copied()
	return api.Answer{}
}

// write is what OpZero does, too.
func (d *Device) write(o api.Op) api.Answer {
	d.lay(o, touched(o))
	return api.Answer{}
}

func (d *Device) discard(o api.Op) api.Answer {
	space := command.Part(o).(api.Space)
	for i := range space.Count {
		delete(d.volumes[o.Volume].blocks, space.At+i)
	}
	return api.Answer{}
}

func (d *Device) flush(api.Op) api.Answer { return api.Answer{} }

func (d *Device) read(o api.Op) api.Answer {
	row := command.Part(o).(api.Row)
	data := make([]byte, 0, row.Count*api.SectorSize)
	for _, s := range part.Over(row.At, row.Count) {
		b, _ := d.Block(o.Volume, s.Block)
		data = append(data, part.Cut(b, s)...)
	}
	return api.Answer{Data: data}
}

// touched is how many blocks have sectors of what an OpWrite or an OpZero names.
func touched(o api.Op) int {
	row := command.Part(o).(api.Row)
	return part.Blocks(row.At, row.Count)
}

// lay writes the first so many blocks that an OpWrite or an OpZero touches.
func (d *Device) lay(o api.Op, blocks int) {
	row := command.Part(o).(api.Row)
	data := o.Data
	if o.Kind == api.OpZero {
		data = make([]byte, row.Count*api.SectorSize)
	}
	for _, s := range part.Split(row.At, row.Count)[:blocks] {
		b, _ := d.Block(o.Volume, s.Block)
		b, _ = part.Merge(b, s.From, part.Data(s, row.At, data))
		d.volumes[o.Volume].blocks[s.Block] = &b
	}
}
