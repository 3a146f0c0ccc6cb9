package link

import (
	"scarfjoint/api"
	"scarfjoint/object"
)

// count asks for as many objects as a program may have.
func (k *linker) count() api.Trouble {
	if len(k.objects) < 1 || len(k.objects) > api.MaxUnits {
		return api.Trouble{Code: api.ErrSize}
	}
	return api.Trouble{}
}

// form asks for objects that may be, each by itself.
func (k *linker) form() api.Trouble {
	for unit, o := range k.objects {
		if !object.May(o) {
			return api.Trouble{Unit: unit, Code: api.ErrForm}
		}
	}
	return api.Trouble{}
}

// gather finds what all objects may speak of: no two things that are not static have one name. Within an object no two have one at all.
func (k *linker) gather() api.Trouble {
	for unit, o := range k.objects {
		for at, s := range o.Symbols {
			if !isOwn(s) || s.Static {
				continue
			}
			if _, twice := k.open[s.Name]; twice {
				return api.Trouble{Unit: unit, Code: api.ErrTwice, At: at}
			}
			k.open[s.Name] = place{unit, at}
		}
	}
	return api.Trouble{}
}

// resolve asks for what objects say stands elsewhere.
func (k *linker) resolve() api.Trouble {
	for unit, o := range k.objects {
		for at, s := range o.Symbols {
			if isOwn(s) {
				continue
			}
			found, ok := k.open[s.Name]
			if !ok {
				return api.Trouble{Unit: unit, Code: api.ErrName, At: at}
			}
			if !meets(s, k.symbol(found)) {
				return api.Trouble{Unit: unit, Code: api.ErrKind, At: at}
			}
		}
	}
	return api.Trouble{}
}

// meets says whether a function or a variable is what an object says stands elsewhere. A Sign may be any text, so that it does not tell functions from variables.
func meets(says, is api.Symbol) bool {
	return (says.Kind == api.SymOutFun) == (is.Kind == api.SymFun) && says.Sign == is.Sign
}

// begin asks for the function that is called first.
func (k *linker) begin() api.Trouble {
	found, ok := k.open["main"]
	if !ok || k.symbol(found).Kind != api.SymFun {
		return api.Trouble{Code: api.ErrName}
	}
	if k.symbol(found).Sign != "fn()int" {
		return api.Trouble{Code: api.ErrKind}
	}
	return api.Trouble{}
}
