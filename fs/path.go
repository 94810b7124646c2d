package fs

import (
	"strings"

	"tinyos/api"
)

const slash = "/"

// IsPath tells whether a text is a path.
func IsPath(path string) bool {
	_, err := names(path)
	return err == nil
}

// names takes a path apart, from the root on, whose name is empty; ErrPath, if it is none.
func names(path string) ([]string, error) {
	if len(path) > api.MaxPath || !strings.HasPrefix(path, slash) {
		return nil, api.ErrPath
	}
	if path == slash {
		return []string{rootName}, nil
	}
	parts := strings.Split(path, slash) // ahead of the first slash stands the root's name
	for _, name := range parts[1:] {
		if !isName(name) {
			return nil, api.ErrPath
		}
	}
	return parts, nil
}

// isName asks of a name that was between two slashes, so there is none in it.
func isName(name string) bool {
	return len(name) >= 1 && len(name) <= api.MaxName && name != "." && name != ".." && strings.IndexByte(name, 0) < 0
}
