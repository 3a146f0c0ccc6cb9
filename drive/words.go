package drive

import (
	"scarfjoint/api"
	"scarfjoint/emit"
	"scarfjoint/link"
	"scarfjoint/lower"
	"scarfjoint/machine"
	"scarfjoint/model"
)

// unit makes a text one more unit.
func (p *player) unit(text string) string {
	number := len(p.objects)
	if number == api.MaxUnits {
		return told("bad", int(api.ErrSize), 0)
	}
	made, fault := lower.Make(text)
	if fault.Code != api.OK {
		return told("bad", int(fault.Code), fault.At)
	}
	o, e := emit.Make(made)
	if e != api.OK {
		return told("bad", int(e), 0)
	}
	p.texts, p.objects = append(p.texts, text), append(p.objects, o)
	return told("unit", number)
}

// link makes an image of all units, with so many words of memory.
func (p *player) link(rest string) string {
	memory, ok := number(rest)
	if !ok {
		return unknown
	}
	image, _, trouble := link.Link(p.objects, memory)
	if trouble.Code != api.OK {
		return troubled(trouble)
	}
	p.image, p.linked = image, true
	return told("linked", len(image.Data))
}

// run runs the image, with so much fuel.
func (p *player) run(rest string) string {
	fuel, ok := number(rest)
	if !ok {
		return unknown
	}
	if !p.linked {
		return "none"
	}
	stop, e := machine.Run(p.image, fuel)
	if e != api.OK {
		return told("bad", int(e))
	}
	return ended(stop.End, stop.Value, stop.Out)
}

// mean tells what the units' texts mean, with so much fuel.
func (p *player) mean(rest string) string {
	fuel, ok := number(rest)
	if !ok {
		return unknown
	}
	shown, trouble := model.Run(p.texts, fuel)
	if trouble.Code != api.OK {
		return troubled(trouble)
	}
	// The ends that a model's run has are the machine's of the same numbers.
	return ended(shown.End, shown.Value, shown.Out)
}
