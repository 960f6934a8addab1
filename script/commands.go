package script

import "massif/api"

// command does what a line says by the words behind its name, and answers what is told of it. It reads all of them, and
// asks whether they were right, before it does anything.
type command func(m *machine, w *words) (string, api.Errno)

// commands are all that a line can say.
func commands() map[string]command {
	return map[string]command{
		"new":    (*machine).anew,
		"append": (*machine).append,
		"hold":   (*machine).hold,
		"batch":  (*machine).batch,
		"play":   (*machine).play,
		"size":   (*machine).size,
		"root":   (*machine).root,
		"peaks":  (*machine).peaks,
		"node":   (*machine).node,
		"prove":  (*machine).prove,
		"prefix": (*machine).prefix,
		"many":   (*machine).many,
		"check":  (*machine).check,
		"reach":  (*machine).reach,
		"pin":    (*machine).pin,
		"unpin":  (*machine).unpin,
		"pinned": (*machine).pinned,
		"prune":  (*machine).prune,
		"live":   (*machine).live,
		"held":   (*machine).held,
		"fresh":  (*machine).fresh,
		"leave":  (*machine).leave,
		"save":   (*machine).save,
		"load":   (*machine).load,
		"close":  (*machine).close,
	}
}
