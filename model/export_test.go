package model

import "fmt"

// Key tells two states apart, what Look does not tell of them too.
func (m *Model) Key() string { return fmt.Sprintf("%+v", *m.state) }
