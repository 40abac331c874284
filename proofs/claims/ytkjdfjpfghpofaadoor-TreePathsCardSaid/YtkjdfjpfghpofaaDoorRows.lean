/-
  NARROWER THAN 'FOR EVERY INPUT', by the rows' own cells (each row's printed sentence says how): TreeRoots: laid · TreePaths: laid · TreeChecks: laid · TreeGrows: laid · TreeBent: laid · TreeBinds: laid · TreeExtends: laid · TreeLarge: laid · TreeTwice: laid · TreeKeeps: laid.
  DERIVED. THE GIVEN ROWS OF THIS SEAT. 10 by the template 'for every input the law returns true; each argument reads behind the call as it read before'; 0 by the template 'total and deterministic' (their statements: YtkjdfjpfghpofaaDoorTotals.lean).
  GIVEN WITH THE SEED: the statements are not yours to turn. If you find one false, say at which input.
  Laid BY PROGRAM, IN A SANDBOX (cutbox-rows.mjs): the forced cells as the released guide's own fill.sh prints them over the translation 47ff4a772df14748… (all of the seat's roots in one cut). By AI agents, Wed Nov 11 2026. No macro, syntax, notation, axiom, sorry.
-/
import Derived.Test.YtkjdfjpfghpofaaDoorChecked
import GoSem.Claim
import GoSem.ClaimJoined
import GoSem.ClaimMapViews
import Derived.JoinedTies
import Derived.KernelRfl
namespace Go.Proofs.YtkjdfjpfghpofaaDoor
/- THE CELL 'sum', in the pinned program and in every row, IS THE sha256 OF THE DUMP (.gsa) THAT YtkjdfjpfghpofaaDoorProg.lean LOADS. Nothing in Lean hashes anything: it is a label: what it is worth is what the hold of that sum in a sandbox is worth. -/
noncomputable def Tryd.pinned : Pinned := { name := "ytkjdfjpfghpofaadoor", sum := "47ff4a772df147483297cb047af44d5564fbd78d62606c9d61de865d0f670095", checked := Tryd.checked }
namespace Rows
def none {H : Type} : Left H := { results := [], args := [] }

/- WHAT THE LISTED PACKAGE-LEVEL VARIABLES READ AS WHEN THE CALL BEGINS. Each datum BY PROGRAM (the guide's laid-datum.mjs) off the statement by which the dump's own 'gosem.cut.vars' lays the variable. In a bare row this is a premise. The card (YtkjdfjpfghpofaaDoorCards.lean) ties it to the program's text. -/
def laid_probity_digest_roundConstants {H : Type} : DataW H := .agg [.lit (.int .u32 1116352408), .lit (.int .u32 1899447441), .lit (.int .u32 3049323471), .lit (.int .u32 3921009573), .lit (.int .u32 961987163), .lit (.int .u32 1508970993), .lit (.int .u32 2453635748), .lit (.int .u32 2870763221), .lit (.int .u32 3624381080), .lit (.int .u32 310598401), .lit (.int .u32 607225278), .lit (.int .u32 1426881987), .lit (.int .u32 1925078388), .lit (.int .u32 2162078206), .lit (.int .u32 2614888103), .lit (.int .u32 3248222580), .lit (.int .u32 3835390401), .lit (.int .u32 4022224774), .lit (.int .u32 264347078), .lit (.int .u32 604807628), .lit (.int .u32 770255983), .lit (.int .u32 1249150122), .lit (.int .u32 1555081692), .lit (.int .u32 1996064986), .lit (.int .u32 2554220882), .lit (.int .u32 2821834349), .lit (.int .u32 2952996808), .lit (.int .u32 3210313671), .lit (.int .u32 3336571891), .lit (.int .u32 3584528711), .lit (.int .u32 113926993), .lit (.int .u32 338241895), .lit (.int .u32 666307205), .lit (.int .u32 773529912), .lit (.int .u32 1294757372), .lit (.int .u32 1396182291), .lit (.int .u32 1695183700), .lit (.int .u32 1986661051), .lit (.int .u32 2177026350), .lit (.int .u32 2456956037), .lit (.int .u32 2730485921), .lit (.int .u32 2820302411), .lit (.int .u32 3259730800), .lit (.int .u32 3345764771), .lit (.int .u32 3516065817), .lit (.int .u32 3600352804), .lit (.int .u32 4094571909), .lit (.int .u32 275423344), .lit (.int .u32 430227734), .lit (.int .u32 506948616), .lit (.int .u32 659060556), .lit (.int .u32 883997877), .lit (.int .u32 958139571), .lit (.int .u32 1322822218), .lit (.int .u32 1537002063), .lit (.int .u32 1747873779), .lit (.int .u32 1955562222), .lit (.int .u32 2024104815), .lit (.int .u32 2227730452), .lit (.int .u32 2361852424), .lit (.int .u32 2428436474), .lit (.int .u32 2756734187), .lit (.int .u32 3204031479), .lit (.int .u32 3329325298)]
def laid_probity_digest_initialState {H : Type} : DataW H := .agg [.lit (.int .u32 1779033703), .lit (.int .u32 3144134277), .lit (.int .u32 1013904242), .lit (.int .u32 2773480762), .lit (.int .u32 1359893119), .lit (.int .u32 2600822924), .lit (.int .u32 528734635), .lit (.int .u32 1541459225)]

/-- 'probitylaw10.TreeRoots': WHATEVER THE INPUT: true; the input reads as it did. -/
def treeRootsSpec : ChangeSpec := { name := "treeRoots", fn := fun _ => fun
  | [d1, d2, d3] => { results := [.lit (.bool true)], args := [d1, d2, d3] }
  | _ => none }
def treeRootsRow : OpenClaim := { program := "ytkjdfjpfghpofaadoor", sum := "47ff4a772df147483297cb047af44d5564fbd78d62606c9d61de865d0f670095", func := "probity/probitylaw10.TreeRoots", spec := "treeRoots", unfollowed := true, recurses := true, named := ["probity/digest.initialState", "probity/digest.roundConstants"], apart := false, laid := [("probity/digest.roundConstants", laid_probity_digest_roundConstants), ("probity/digest.initialState", laid_probity_digest_initialState)] }
def TreeRootsSaid : Prop := treeRootsRow.holds Tryd.pinned (OpenSpec.ofChange treeRootsSpec)

/-- ITS FALSE NEIGHBOUR: 'it returns false'. Refute it at one input. -/
def treeRootsWrong : ChangeSpec := { name := "treeRoots", fn := fun _ => fun
  | [d1, d2, d3] => { results := [.lit (.bool false)], args := [d1, d2, d3] }
  | _ => none }
def TreeRootsWrongFalsely : Prop := treeRootsRow.holds Tryd.pinned (OpenSpec.ofChange treeRootsWrong)

/-- 'probitylaw10.TreePaths': WHATEVER THE INPUT: true; the input reads as it did. -/
def treePathsSpec : ChangeSpec := { name := "treePaths", fn := fun _ => fun
  | [d1, d2] => { results := [.lit (.bool true)], args := [d1, d2] }
  | _ => none }
def treePathsRow : OpenClaim := { program := "ytkjdfjpfghpofaadoor", sum := "47ff4a772df147483297cb047af44d5564fbd78d62606c9d61de865d0f670095", func := "probity/probitylaw10.TreePaths", spec := "treePaths", unfollowed := true, recurses := true, named := ["probity/digest.initialState", "probity/digest.roundConstants"], apart := false, laid := [("probity/digest.roundConstants", laid_probity_digest_roundConstants), ("probity/digest.initialState", laid_probity_digest_initialState)] }
def TreePathsSaid : Prop := treePathsRow.holds Tryd.pinned (OpenSpec.ofChange treePathsSpec)

/-- ITS FALSE NEIGHBOUR: 'it returns false'. Refute it at one input. -/
def treePathsWrong : ChangeSpec := { name := "treePaths", fn := fun _ => fun
  | [d1, d2] => { results := [.lit (.bool false)], args := [d1, d2] }
  | _ => none }
def TreePathsWrongFalsely : Prop := treePathsRow.holds Tryd.pinned (OpenSpec.ofChange treePathsWrong)

/-- 'probitylaw10.TreeChecks': WHATEVER THE INPUT: true; the input reads as it did. -/
def treeChecksSpec : ChangeSpec := { name := "treeChecks", fn := fun _ => fun
  | [d1, d2, d3] => { results := [.lit (.bool true)], args := [d1, d2, d3] }
  | _ => none }
def treeChecksRow : OpenClaim := { program := "ytkjdfjpfghpofaadoor", sum := "47ff4a772df147483297cb047af44d5564fbd78d62606c9d61de865d0f670095", func := "probity/probitylaw10.TreeChecks", spec := "treeChecks", unfollowed := true, recurses := true, named := ["probity/digest.initialState", "probity/digest.roundConstants"], apart := false, laid := [("probity/digest.roundConstants", laid_probity_digest_roundConstants), ("probity/digest.initialState", laid_probity_digest_initialState)] }
def TreeChecksSaid : Prop := treeChecksRow.holds Tryd.pinned (OpenSpec.ofChange treeChecksSpec)

/-- ITS FALSE NEIGHBOUR: 'it returns false'. Refute it at one input. -/
def treeChecksWrong : ChangeSpec := { name := "treeChecks", fn := fun _ => fun
  | [d1, d2, d3] => { results := [.lit (.bool false)], args := [d1, d2, d3] }
  | _ => none }
def TreeChecksWrongFalsely : Prop := treeChecksRow.holds Tryd.pinned (OpenSpec.ofChange treeChecksWrong)

/-- 'probitylaw10.TreeGrows': WHATEVER THE INPUT: true; the input reads as it did. -/
def treeGrowsSpec : ChangeSpec := { name := "treeGrows", fn := fun _ => fun
  | [d1, d2] => { results := [.lit (.bool true)], args := [d1, d2] }
  | _ => none }
def treeGrowsRow : OpenClaim := { program := "ytkjdfjpfghpofaadoor", sum := "47ff4a772df147483297cb047af44d5564fbd78d62606c9d61de865d0f670095", func := "probity/probitylaw10.TreeGrows", spec := "treeGrows", unfollowed := true, recurses := true, named := ["probity/digest.initialState", "probity/digest.roundConstants"], apart := false, laid := [("probity/digest.roundConstants", laid_probity_digest_roundConstants), ("probity/digest.initialState", laid_probity_digest_initialState)] }
def TreeGrowsSaid : Prop := treeGrowsRow.holds Tryd.pinned (OpenSpec.ofChange treeGrowsSpec)

/-- ITS FALSE NEIGHBOUR: 'it returns false'. Refute it at one input. -/
def treeGrowsWrong : ChangeSpec := { name := "treeGrows", fn := fun _ => fun
  | [d1, d2] => { results := [.lit (.bool false)], args := [d1, d2] }
  | _ => none }
def TreeGrowsWrongFalsely : Prop := treeGrowsRow.holds Tryd.pinned (OpenSpec.ofChange treeGrowsWrong)

/-- 'probitylaw10.TreeBent': WHATEVER THE INPUT: true; the input reads as it did. -/
def treeBentSpec : ChangeSpec := { name := "treeBent", fn := fun _ => fun
  | [d1, d2, d3] => { results := [.lit (.bool true)], args := [d1, d2, d3] }
  | _ => none }
def treeBentRow : OpenClaim := { program := "ytkjdfjpfghpofaadoor", sum := "47ff4a772df147483297cb047af44d5564fbd78d62606c9d61de865d0f670095", func := "probity/probitylaw10.TreeBent", spec := "treeBent", unfollowed := true, recurses := true, named := ["probity/digest.initialState", "probity/digest.roundConstants"], apart := false, laid := [("probity/digest.roundConstants", laid_probity_digest_roundConstants), ("probity/digest.initialState", laid_probity_digest_initialState)] }
def TreeBentSaid : Prop := treeBentRow.holds Tryd.pinned (OpenSpec.ofChange treeBentSpec)

/-- ITS FALSE NEIGHBOUR: 'it returns false'. Refute it at one input. -/
def treeBentWrong : ChangeSpec := { name := "treeBent", fn := fun _ => fun
  | [d1, d2, d3] => { results := [.lit (.bool false)], args := [d1, d2, d3] }
  | _ => none }
def TreeBentWrongFalsely : Prop := treeBentRow.holds Tryd.pinned (OpenSpec.ofChange treeBentWrong)

/-- 'probitylaw10.TreeBinds': WHATEVER THE INPUT: true; the input reads as it did. -/
def treeBindsSpec : ChangeSpec := { name := "treeBinds", fn := fun _ => fun
  | [d1, d2, d3] => { results := [.lit (.bool true)], args := [d1, d2, d3] }
  | _ => none }
def treeBindsRow : OpenClaim := { program := "ytkjdfjpfghpofaadoor", sum := "47ff4a772df147483297cb047af44d5564fbd78d62606c9d61de865d0f670095", func := "probity/probitylaw10.TreeBinds", spec := "treeBinds", unfollowed := true, recurses := true, named := ["probity/digest.initialState", "probity/digest.roundConstants"], apart := false, laid := [("probity/digest.roundConstants", laid_probity_digest_roundConstants), ("probity/digest.initialState", laid_probity_digest_initialState)] }
def TreeBindsSaid : Prop := treeBindsRow.holds Tryd.pinned (OpenSpec.ofChange treeBindsSpec)

/-- ITS FALSE NEIGHBOUR: 'it returns false'. Refute it at one input. -/
def treeBindsWrong : ChangeSpec := { name := "treeBinds", fn := fun _ => fun
  | [d1, d2, d3] => { results := [.lit (.bool false)], args := [d1, d2, d3] }
  | _ => none }
def TreeBindsWrongFalsely : Prop := treeBindsRow.holds Tryd.pinned (OpenSpec.ofChange treeBindsWrong)

/-- 'probitylaw10.TreeExtends': WHATEVER THE INPUT: true; the input reads as it did. -/
def treeExtendsSpec : ChangeSpec := { name := "treeExtends", fn := fun _ => fun
  | [d1, d2, d3] => { results := [.lit (.bool true)], args := [d1, d2, d3] }
  | _ => none }
def treeExtendsRow : OpenClaim := { program := "ytkjdfjpfghpofaadoor", sum := "47ff4a772df147483297cb047af44d5564fbd78d62606c9d61de865d0f670095", func := "probity/probitylaw10.TreeExtends", spec := "treeExtends", unfollowed := true, recurses := true, named := ["probity/digest.initialState", "probity/digest.roundConstants"], apart := false, laid := [("probity/digest.roundConstants", laid_probity_digest_roundConstants), ("probity/digest.initialState", laid_probity_digest_initialState)] }
def TreeExtendsSaid : Prop := treeExtendsRow.holds Tryd.pinned (OpenSpec.ofChange treeExtendsSpec)

/-- ITS FALSE NEIGHBOUR: 'it returns false'. Refute it at one input. -/
def treeExtendsWrong : ChangeSpec := { name := "treeExtends", fn := fun _ => fun
  | [d1, d2, d3] => { results := [.lit (.bool false)], args := [d1, d2, d3] }
  | _ => none }
def TreeExtendsWrongFalsely : Prop := treeExtendsRow.holds Tryd.pinned (OpenSpec.ofChange treeExtendsWrong)

/-- 'probitylaw10.TreeLarge': WHATEVER THE INPUT: true; the input reads as it did. -/
def treeLargeSpec : ChangeSpec := { name := "treeLarge", fn := fun _ => fun
  | [d1, d2, d3] => { results := [.lit (.bool true)], args := [d1, d2, d3] }
  | _ => none }
def treeLargeRow : OpenClaim := { program := "ytkjdfjpfghpofaadoor", sum := "47ff4a772df147483297cb047af44d5564fbd78d62606c9d61de865d0f670095", func := "probity/probitylaw10.TreeLarge", spec := "treeLarge", unfollowed := true, recurses := true, named := ["probity/digest.initialState", "probity/digest.roundConstants"], apart := false, laid := [("probity/digest.roundConstants", laid_probity_digest_roundConstants), ("probity/digest.initialState", laid_probity_digest_initialState)] }
def TreeLargeSaid : Prop := treeLargeRow.holds Tryd.pinned (OpenSpec.ofChange treeLargeSpec)

/-- ITS FALSE NEIGHBOUR: 'it returns false'. Refute it at one input. -/
def treeLargeWrong : ChangeSpec := { name := "treeLarge", fn := fun _ => fun
  | [d1, d2, d3] => { results := [.lit (.bool false)], args := [d1, d2, d3] }
  | _ => none }
def TreeLargeWrongFalsely : Prop := treeLargeRow.holds Tryd.pinned (OpenSpec.ofChange treeLargeWrong)

/-- 'probitylaw10.TreeTwice': WHATEVER THE INPUT: true; the input reads as it did. -/
def treeTwiceSpec : ChangeSpec := { name := "treeTwice", fn := fun _ => fun
  | [d1, d2, d3] => { results := [.lit (.bool true)], args := [d1, d2, d3] }
  | _ => none }
def treeTwiceRow : OpenClaim := { program := "ytkjdfjpfghpofaadoor", sum := "47ff4a772df147483297cb047af44d5564fbd78d62606c9d61de865d0f670095", func := "probity/probitylaw10.TreeTwice", spec := "treeTwice", unfollowed := true, recurses := true, named := ["probity/digest.initialState", "probity/digest.roundConstants"], apart := false, laid := [("probity/digest.roundConstants", laid_probity_digest_roundConstants), ("probity/digest.initialState", laid_probity_digest_initialState)] }
def TreeTwiceSaid : Prop := treeTwiceRow.holds Tryd.pinned (OpenSpec.ofChange treeTwiceSpec)

/-- ITS FALSE NEIGHBOUR: 'it returns false'. Refute it at one input. -/
def treeTwiceWrong : ChangeSpec := { name := "treeTwice", fn := fun _ => fun
  | [d1, d2, d3] => { results := [.lit (.bool false)], args := [d1, d2, d3] }
  | _ => none }
def TreeTwiceWrongFalsely : Prop := treeTwiceRow.holds Tryd.pinned (OpenSpec.ofChange treeTwiceWrong)

/-- 'probitylaw10.TreeKeeps': WHATEVER THE INPUT: true; the input reads as it did. -/
def treeKeepsSpec : ChangeSpec := { name := "treeKeeps", fn := fun _ => fun
  | [d1, d2] => { results := [.lit (.bool true)], args := [d1, d2] }
  | _ => none }
def treeKeepsRow : OpenClaim := { program := "ytkjdfjpfghpofaadoor", sum := "47ff4a772df147483297cb047af44d5564fbd78d62606c9d61de865d0f670095", func := "probity/probitylaw10.TreeKeeps", spec := "treeKeeps", unfollowed := true, recurses := true, named := ["probity/digest.initialState", "probity/digest.roundConstants"], apart := false, laid := [("probity/digest.roundConstants", laid_probity_digest_roundConstants), ("probity/digest.initialState", laid_probity_digest_initialState)] }
def TreeKeepsSaid : Prop := treeKeepsRow.holds Tryd.pinned (OpenSpec.ofChange treeKeepsSpec)

/-- ITS FALSE NEIGHBOUR: 'it returns false'. Refute it at one input. -/
def treeKeepsWrong : ChangeSpec := { name := "treeKeeps", fn := fun _ => fun
  | [d1, d2] => { results := [.lit (.bool false)], args := [d1, d2] }
  | _ => none }
def TreeKeepsWrongFalsely : Prop := treeKeepsRow.holds Tryd.pinned (OpenSpec.ofChange treeKeepsWrong)

/- THE SECOND FORM. 'bulk': how many values and letters a reading holds, each counted each time it is reached (what is shared counts as often as it is met; a slice's spare places count too). A statement '..UptoSaid' is the law's where the arguments, and the package variables that the reading takes, are together of bulk at most 1048576: NARROWER than '..Said'. Prove '..Said' where nothing that the law and all that it calls make is longer than what came in: it says more and counts as full. Else prove '..UptoSaid'. A law counts once. -/
mutual
def uptoBulk {H : Type} : DataW H → Nat
  | .lit (.string bytes) => bytes.length + 1
  | .lit _ => 1
  | .nil => 1
  | .ptr d => uptoBulk d + 1
  | .slice elems spare => uptoBulkAll elems + uptoBulkAll spare + 1
  | .agg parts => uptoBulkAll parts + 1
  | .iface _ d => uptoBulk d + 1
  | .map entries => uptoBulkEntries entries + 1
  | .held _ => 1
def uptoBulkAll {H : Type} : List (DataW H) → Nat
  | [] => 0
  | d :: r => uptoBulk d + uptoBulkAll r
def uptoBulkEntries {H : Type} : List (Lit × DataW H) → Nat
  | [] => 0
  | x :: r => uptoBulkEntry x + uptoBulkEntries r
def uptoBulkEntry {H : Type} : Lit × DataW H → Nat
  | (.string bytes, d) => bytes.length + uptoBulk d + 1
  | (_, d) => uptoBulk d + 1
 end
def uptoSmall : (H : Type) → List (DataW H) → Bool := fun _ ds => decide (uptoBulkAll ds ≤ 1048576)
def OpenSpec.upto (s : _root_.Go.ChangeSpec) : _root_.Go.OpenSpec := { _root_.Go.OpenSpec.ofChange s with cond := some uptoSmall }

/-- 'probitylaw10.TreeRoots', WHERE WHAT IT READS IS OF BULK AT MOST 1048576: true; the input reads as it did. -/
def treeRootsUptoRow : OpenClaim := { program := "ytkjdfjpfghpofaadoor", sum := "47ff4a772df147483297cb047af44d5564fbd78d62606c9d61de865d0f670095", func := "probity/probitylaw10.TreeRoots", spec := "treeRoots", unfollowed := true, recurses := true, named := ["probity/digest.initialState", "probity/digest.roundConstants"], apart := false, laid := [("probity/digest.roundConstants", laid_probity_digest_roundConstants), ("probity/digest.initialState", laid_probity_digest_initialState)], narrowed := true }
def TreeRootsUptoSaid : Prop := treeRootsUptoRow.holds Tryd.pinned (OpenSpec.upto treeRootsSpec)

/-- 'probitylaw10.TreePaths', WHERE WHAT IT READS IS OF BULK AT MOST 1048576: true; the input reads as it did. -/
def treePathsUptoRow : OpenClaim := { program := "ytkjdfjpfghpofaadoor", sum := "47ff4a772df147483297cb047af44d5564fbd78d62606c9d61de865d0f670095", func := "probity/probitylaw10.TreePaths", spec := "treePaths", unfollowed := true, recurses := true, named := ["probity/digest.initialState", "probity/digest.roundConstants"], apart := false, laid := [("probity/digest.roundConstants", laid_probity_digest_roundConstants), ("probity/digest.initialState", laid_probity_digest_initialState)], narrowed := true }
def TreePathsUptoSaid : Prop := treePathsUptoRow.holds Tryd.pinned (OpenSpec.upto treePathsSpec)

/-- 'probitylaw10.TreeChecks', WHERE WHAT IT READS IS OF BULK AT MOST 1048576: true; the input reads as it did. -/
def treeChecksUptoRow : OpenClaim := { program := "ytkjdfjpfghpofaadoor", sum := "47ff4a772df147483297cb047af44d5564fbd78d62606c9d61de865d0f670095", func := "probity/probitylaw10.TreeChecks", spec := "treeChecks", unfollowed := true, recurses := true, named := ["probity/digest.initialState", "probity/digest.roundConstants"], apart := false, laid := [("probity/digest.roundConstants", laid_probity_digest_roundConstants), ("probity/digest.initialState", laid_probity_digest_initialState)], narrowed := true }
def TreeChecksUptoSaid : Prop := treeChecksUptoRow.holds Tryd.pinned (OpenSpec.upto treeChecksSpec)

/-- 'probitylaw10.TreeGrows', WHERE WHAT IT READS IS OF BULK AT MOST 1048576: true; the input reads as it did. -/
def treeGrowsUptoRow : OpenClaim := { program := "ytkjdfjpfghpofaadoor", sum := "47ff4a772df147483297cb047af44d5564fbd78d62606c9d61de865d0f670095", func := "probity/probitylaw10.TreeGrows", spec := "treeGrows", unfollowed := true, recurses := true, named := ["probity/digest.initialState", "probity/digest.roundConstants"], apart := false, laid := [("probity/digest.roundConstants", laid_probity_digest_roundConstants), ("probity/digest.initialState", laid_probity_digest_initialState)], narrowed := true }
def TreeGrowsUptoSaid : Prop := treeGrowsUptoRow.holds Tryd.pinned (OpenSpec.upto treeGrowsSpec)

/-- 'probitylaw10.TreeBent', WHERE WHAT IT READS IS OF BULK AT MOST 1048576: true; the input reads as it did. -/
def treeBentUptoRow : OpenClaim := { program := "ytkjdfjpfghpofaadoor", sum := "47ff4a772df147483297cb047af44d5564fbd78d62606c9d61de865d0f670095", func := "probity/probitylaw10.TreeBent", spec := "treeBent", unfollowed := true, recurses := true, named := ["probity/digest.initialState", "probity/digest.roundConstants"], apart := false, laid := [("probity/digest.roundConstants", laid_probity_digest_roundConstants), ("probity/digest.initialState", laid_probity_digest_initialState)], narrowed := true }
def TreeBentUptoSaid : Prop := treeBentUptoRow.holds Tryd.pinned (OpenSpec.upto treeBentSpec)

/-- 'probitylaw10.TreeBinds', WHERE WHAT IT READS IS OF BULK AT MOST 1048576: true; the input reads as it did. -/
def treeBindsUptoRow : OpenClaim := { program := "ytkjdfjpfghpofaadoor", sum := "47ff4a772df147483297cb047af44d5564fbd78d62606c9d61de865d0f670095", func := "probity/probitylaw10.TreeBinds", spec := "treeBinds", unfollowed := true, recurses := true, named := ["probity/digest.initialState", "probity/digest.roundConstants"], apart := false, laid := [("probity/digest.roundConstants", laid_probity_digest_roundConstants), ("probity/digest.initialState", laid_probity_digest_initialState)], narrowed := true }
def TreeBindsUptoSaid : Prop := treeBindsUptoRow.holds Tryd.pinned (OpenSpec.upto treeBindsSpec)

/-- 'probitylaw10.TreeExtends', WHERE WHAT IT READS IS OF BULK AT MOST 1048576: true; the input reads as it did. -/
def treeExtendsUptoRow : OpenClaim := { program := "ytkjdfjpfghpofaadoor", sum := "47ff4a772df147483297cb047af44d5564fbd78d62606c9d61de865d0f670095", func := "probity/probitylaw10.TreeExtends", spec := "treeExtends", unfollowed := true, recurses := true, named := ["probity/digest.initialState", "probity/digest.roundConstants"], apart := false, laid := [("probity/digest.roundConstants", laid_probity_digest_roundConstants), ("probity/digest.initialState", laid_probity_digest_initialState)], narrowed := true }
def TreeExtendsUptoSaid : Prop := treeExtendsUptoRow.holds Tryd.pinned (OpenSpec.upto treeExtendsSpec)

/-- 'probitylaw10.TreeLarge', WHERE WHAT IT READS IS OF BULK AT MOST 1048576: true; the input reads as it did. -/
def treeLargeUptoRow : OpenClaim := { program := "ytkjdfjpfghpofaadoor", sum := "47ff4a772df147483297cb047af44d5564fbd78d62606c9d61de865d0f670095", func := "probity/probitylaw10.TreeLarge", spec := "treeLarge", unfollowed := true, recurses := true, named := ["probity/digest.initialState", "probity/digest.roundConstants"], apart := false, laid := [("probity/digest.roundConstants", laid_probity_digest_roundConstants), ("probity/digest.initialState", laid_probity_digest_initialState)], narrowed := true }
def TreeLargeUptoSaid : Prop := treeLargeUptoRow.holds Tryd.pinned (OpenSpec.upto treeLargeSpec)

/-- 'probitylaw10.TreeTwice', WHERE WHAT IT READS IS OF BULK AT MOST 1048576: true; the input reads as it did. -/
def treeTwiceUptoRow : OpenClaim := { program := "ytkjdfjpfghpofaadoor", sum := "47ff4a772df147483297cb047af44d5564fbd78d62606c9d61de865d0f670095", func := "probity/probitylaw10.TreeTwice", spec := "treeTwice", unfollowed := true, recurses := true, named := ["probity/digest.initialState", "probity/digest.roundConstants"], apart := false, laid := [("probity/digest.roundConstants", laid_probity_digest_roundConstants), ("probity/digest.initialState", laid_probity_digest_initialState)], narrowed := true }
def TreeTwiceUptoSaid : Prop := treeTwiceUptoRow.holds Tryd.pinned (OpenSpec.upto treeTwiceSpec)

/-- 'probitylaw10.TreeKeeps', WHERE WHAT IT READS IS OF BULK AT MOST 1048576: true; the input reads as it did. -/
def treeKeepsUptoRow : OpenClaim := { program := "ytkjdfjpfghpofaadoor", sum := "47ff4a772df147483297cb047af44d5564fbd78d62606c9d61de865d0f670095", func := "probity/probitylaw10.TreeKeeps", spec := "treeKeeps", unfollowed := true, recurses := true, named := ["probity/digest.initialState", "probity/digest.roundConstants"], apart := false, laid := [("probity/digest.roundConstants", laid_probity_digest_roundConstants), ("probity/digest.initialState", laid_probity_digest_initialState)], narrowed := true }
def TreeKeepsUptoSaid : Prop := treeKeepsUptoRow.holds Tryd.pinned (OpenSpec.upto treeKeepsSpec)

end Rows
end Go.Proofs.YtkjdfjpfghpofaaDoor
