package point

import (
	"strings"

	"stairwell/api"
)

// Split is the names of a path.
func Split(p string) ([]string, api.Errno) {
	if p == "" {
		return nil, api.OK
	}
	if p[0] != '/' || len(p) > api.MaxBytes || !marksWhole(p) {
		return nil, api.ErrForm
	}
	names := strings.Split(p[1:], "/")
	for i, name := range names {
		names[i] = unmarked(name)
	}
	return names, api.OK
}

// Join is the path of names.
func Join(l []string) string {
	var b strings.Builder
	for _, name := range l {
		b.WriteByte('/')
		b.WriteString(marked(name))
	}
	return b.String()
}

// marksWhole is whether behind each ~ there is what it stands with.
func marksWhole(p string) bool {
	for i := 0; i < len(p); i++ {
		if p[i] != '~' {
			continue
		}
		if i+1 == len(p) || p[i+1] != '0' && p[i+1] != '1' {
			return false
		}
	}
	return true
}

// The ~ comes first here and last in unmarked: else one that a mark brought
// would be taken for the beginning of a mark.
func marked(name string) string {
	return strings.ReplaceAll(strings.ReplaceAll(name, "~", "~0"), "/", "~1")
}

func unmarked(name string) string {
	return strings.ReplaceAll(strings.ReplaceAll(name, "~1", "/"), "~0", "~")
}
