package check

import (
	"slices"

	"drawloom/api"
)

// fitsSize reports whether the numbers of blocks and of threads are allowed.
func fitsSize(l api.Launch) bool {
	return 1 <= l.Grid && l.Grid <= api.MaxGrid && 1 <= l.Block && l.Block <= api.MaxBlock
}

func fitsMemory(m api.Mem) bool {
	tooLong := func(buffer []int32) bool { return len(buffer) > api.MaxCells }
	return len(m) <= api.MaxBuffers && !slices.ContainsFunc(m, tooLong)
}

// fitsArgs reports whether there is one argument for each parameter, and those of buffers denote one of some buffers.
func fitsArgs(args []int32, params []api.Param, buffers int) bool {
	if len(args) != len(params) {
		return false
	}
	for i, p := range params {
		if p.Buffer && (args[i] < 0 || int(args[i]) >= buffers) {
			return false
		}
	}
	return true
}
