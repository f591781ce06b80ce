package merkle_test

import (
	"fmt"

	"simulacrum/api"
	"simulacrum/merkle"
)

func ExampleInclusion() {
	leaves := []api.Digest{merkle.Leaf("a"), merkle.Leaf("b"), merkle.Leaf("c")}
	root := merkle.Root(leaves)
	path, e := merkle.Inclusion(leaves, 2)
	fmt.Println(e, len(path), path[0] == merkle.Node(leaves[0], leaves[1]))
	fmt.Println(merkle.CheckInclusion(merkle.Leaf("c"), 2, 3, path, root), merkle.CheckInclusion(merkle.Leaf("d"), 2, 3, path, root))
	// Output:
	// 0 1 true
	// true false
}

func ExampleConsistency() {
	leaves := []api.Digest{merkle.Leaf("a"), merkle.Leaf("b"), merkle.Leaf("c")}
	old, root := merkle.Root(leaves[:2]), merkle.Root(leaves)
	path, e := merkle.Consistency(leaves, 2)
	fmt.Println(e, len(path), merkle.CheckConsistency(2, 3, old, root, path), merkle.CheckConsistency(1, 3, old, root, path))
	// Output:
	// 0 1 true false
}

func ExampleAppend() {
	var p api.Peaks
	for _, data := range []string{"a", "b", "c"} {
		p, _ = merkle.Append(p, merkle.Leaf(data))
	}
	root, e := merkle.Top(p)
	fmt.Println(p.Size, len(p.Tops), e, root == merkle.Root([]api.Digest{merkle.Leaf("a"), merkle.Leaf("b"), merkle.Leaf("c")}))
	// Output:
	// 3 2 0 true
}
