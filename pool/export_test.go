package pool

// Run is run, so that a test can see its jobs begin and end.
var Run = run
