package disk

import (
	"maps"
	"strings"

	"caravan/api"
	"caravan/path"
)

const nodeUse = 64 // bytes, beside its data

// tree is what stands on a disk. Its effects answer the first error that P9.2 names, and change nothing then.
type tree struct {
	nodes map[string]api.Node // by paths; the root has none
	used  int                 // bytes
	room  int
}

func newTree(room int) tree { return tree{map[string]api.Node{}, 0, room} }

func (t *tree) copy() tree { return tree{maps.Clone(t.nodes), t.used, t.room} }

func (t *tree) write(p, data string, time int64) api.Errno {
	switch {
	case !path.May(p):
		return api.ErrPath
	case !isTime(time):
		return api.ErrArg
	}
	if err := t.noHome(p); err != api.OK {
		return err
	}
	if err := t.taken(p); err != api.OK {
		return err
	}
	return t.put(p, api.Node{Kind: api.KFile, Data: data, Time: time})
}

func (t *tree) append(p, data string) api.Errno {
	switch {
	case !path.May(p):
		return api.ErrPath
	case !t.has(p):
		return api.ErrNone
	}
	if err := t.taken(p); err != api.OK {
		return err
	}
	n := t.nodes[p]
	n.Data += data
	return t.put(p, n)
}

func (t *tree) mkdir(p string) api.Errno {
	if !path.May(p) {
		return api.ErrPath
	}
	return t.add(p, api.Node{Kind: api.KDir})
}

func (t *tree) link(p, target string, time int64) api.Errno {
	switch {
	case !path.May(p):
		return api.ErrPath
	case !isTime(time), len(target) < 1, len(target) > api.MaxTarget:
		return api.ErrArg
	}
	return t.add(p, api.Node{Kind: api.KLink, Target: target, Time: time})
}

func (t *tree) rename(from, to string) api.Errno {
	switch {
	case !path.May(from), !path.May(to):
		return api.ErrPath
	case to == from, path.Within(to, from):
		return api.ErrArg
	case !t.has(from):
		return api.ErrNone
	}
	if err := t.noHome(to); err != api.OK {
		return err
	}
	if t.isDir(to) || t.isDir(from) && t.has(to) {
		return api.ErrDir
	}
	inner := t.within(from)
	for _, rest := range inner {
		if !path.May(to + "/" + rest) {
			return api.ErrPath
		}
	}
	t.drop(to)
	t.move(from, to)
	for _, rest := range inner {
		t.move(from+"/"+rest, to+"/"+rest)
	}
	return api.OK
}

func (t *tree) remove(p string) api.Errno {
	switch {
	case !path.May(p):
		return api.ErrPath
	case !t.has(p):
		return api.ErrNone
	case len(t.within(p)) > 0:
		return api.ErrBusy
	}
	t.drop(p)
	return api.OK
}

// add lets a node stand at a path at which nothing may be.
func (t *tree) add(p string, n api.Node) api.Errno {
	if err := t.noHome(p); err != api.OK {
		return err
	}
	if t.has(p) {
		return api.ErrThere
	}
	return t.put(p, n)
}

// put lets a node stand at a path, in the place of what does, if there is room.
func (t *tree) put(p string, n api.Node) api.Errno {
	used := t.used - t.use(p) + nodeUse + len(n.Data)
	if used > t.room {
		return api.ErrFull
	}
	t.nodes[p], t.used = n, used
	return api.OK
}

func (t *tree) drop(p string) {
	t.used -= t.use(p)
	delete(t.nodes, p)
}

func (t *tree) move(from, to string) {
	t.nodes[to] = t.nodes[from]
	delete(t.nodes, from)
}

func (t *tree) use(p string) int {
	if !t.has(p) {
		return 0
	}
	return nodeUse + len(t.nodes[p].Data)
}

func (t *tree) has(p string) bool {
	_, there := t.nodes[p]
	return there
}

func (t *tree) isDir(p string) bool { return p == "" || t.nodes[p].Kind == api.KDir }

// noDir answers why p is no directory.
func (t *tree) noDir(p string) api.Errno {
	switch {
	case t.isDir(p):
		return api.OK
	case t.has(p):
		return api.ErrDir
	}
	return api.ErrNone
}

// noHome answers why nothing can stand at a path.
func (t *tree) noHome(p string) api.Errno {
	parent, _ := path.Parent(p)
	return t.noDir(parent)
}

// taken answers why no file can stand at a path.
func (t *tree) taken(p string) api.Errno {
	switch t.nodes[p].Kind {
	case api.KDir:
		return api.ErrDir
	case api.KLink:
		return api.ErrKind
	}
	return api.OK
}

// within answers what lies within p, by what stands behind p and a / in its path, in no order.
func (t *tree) within(p string) []string {
	if !t.isDir(p) {
		return nil // without a look at all nodes
	}
	begin := p + "/"
	if p == "" {
		begin = ""
	}
	var l []string
	for q := range t.nodes {
		if rest, ok := strings.CutPrefix(q, begin); ok {
			l = append(l, rest)
		}
	}
	return l
}

func isTime(time int64) bool { return 0 <= time && time <= api.MaxTime }
