package link

import (
	"iter"
	"slices"

	"ferry/api"
	"ferry/dyn"
	"ferry/image"
	"ferry/reloc"
)

// linker loads files' modules into the space that it embeds, each behind all others.
type linker struct {
	api.Space
	files []api.File
	mods  []api.Module
}

// closure loads a program, and whatever one of the modules needs.
func (l *linker) closure(name string) api.Errno {
	if e := l.load(name); e != api.OK {
		return e
	}
	for m := range l.queue() {
		if e := l.need(m.Dyn.Needed); e != api.OK {
			return e
		}
	}
	return api.OK
}

// queue hands out the modules in order, those too that are loaded meanwhile.
func (l *linker) queue() iter.Seq[api.Module] {
	return func(yield func(api.Module) bool) {
		for i := 0; i < len(l.mods); i++ { // their number is asked anew each time
			if !yield(l.mods[i]) {
				return
			}
		}
	}
}

// need loads those that are not there yet.
func (l *linker) need(all []string) api.Errno {
	for _, name := range all {
		if l.isLoaded(name) {
			continue
		}
		if len(l.mods) >= api.MaxMods {
			return api.ErrMany
		}
		if e := l.load(name); e != api.OK {
			return e
		}
	}
	return api.OK
}

func (l *linker) isLoaded(name string) bool {
	return slices.ContainsFunc(l.mods, func(m api.Module) bool { return m.Name == name })
}

// load loads the first file of a name.
func (l *linker) load(name string) api.Errno {
	i := slices.IndexFunc(l.files, func(f api.File) bool { return f.Name == name })
	if i < 0 {
		return api.ErrNone
	}
	s := l.files[i].Data
	m, e := image.Parse(s)
	if e != api.OK {
		return e
	}
	d, e := dyn.Parse(m, s)
	if e != api.OK {
		return e
	}
	moved, e := l.room(m)
	if e != api.OK {
		return e
	}
	l.Space, e = image.Load(l.Space, m, s, moved)
	if e != api.OK {
		return e
	}
	l.mods = append(l.mods, api.Module{Name: name, Moved: moved, Image: m, Dyn: d})
	return api.OK
}

// room is how far an image is moved.
func (l *linker) room(m api.Image) (uint32, api.Errno) {
	if !m.Elf.Shared {
		return 0, api.OK
	}
	return image.Room(l.Space, m)
}

// relocate puts each module's relocations.
func (l *linker) relocate() api.Errno {
	for _, m := range l.mods {
		symbols, e := Symbols(l.mods, m)
		if e != api.OK {
			return e
		}
		if l.Guest, e = reloc.Apply(l.Guest, m, symbols); e != api.OK {
			return e
		}
	}
	return api.OK
}

// linked is what the linker has come to.
func (l *linker) linked() api.Linked {
	program := l.mods[0]
	return api.Linked{Space: l.Space, Mods: l.mods, Inits: l.inits(), Entry: program.Image.Elf.Entry + program.Moved}
}

// inits is where each module begins that has to begin ahead of the program, what is needed ahead of those that need it.
func (l *linker) inits() (all []uint32) {
	for _, m := range slices.Backward(l.mods) {
		if m.Dyn.Init != 0 {
			all = append(all, m.Dyn.Init+m.Moved)
		}
	}
	return all
}
