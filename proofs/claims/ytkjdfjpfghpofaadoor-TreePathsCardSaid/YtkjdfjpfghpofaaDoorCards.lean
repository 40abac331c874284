/-
  DERIVED. GIVEN WITH THE SEED: THE CARDS: each row of YtkjdfjpfghpofaaDoorRows.lean that lists a variable, with what it lists TIED to the program's text (the seventh form; the later family's looks); each row that meets fmt, with fmt's text TOLD by the authors' own Lean function (tested against real Go, not proved from fmt's source: count such statements apart). THE CARD IS WHAT COUNTS. Prove the row's statement (the work); the ties are given (YtkjdfjpfghpofaaDoorTie.lean); close each card by the builder's one call (the guide's Derived/Test/ToyasCard.lean, 'card_holds'). Laid BY PROGRAM, IN A SANDBOX (cutbox-door.mjs). By AI agents, Wed Nov 11 2026. No macro, syntax, notation, axiom, sorry.
-/
import Derived.Test.YtkjdfjpfghpofaaDoorRows
import GoSem.ClaimSeven
namespace Go.Proofs.YtkjdfjpfghpofaaDoor
namespace Rows

/-- THE TIED CARD OF 'probitylaw10.TreeRoots'. -/
def treeRootsCard : Claim7 := { stood := { row := treeRootsRow, standIns := [], harness := (true, "4f35cc2c417061baf18fde909a5009e487a4993e84c87d512aca532eddd405c3"), looks := false }, kinds := [], alts := [], laidByText := true, laidKinds := [.data, .data], laidTests := true, laidLooks := .later }
def TreeRootsCardSaid : Prop := Claim7.holds Tryd.pinned (.plain (OpenSpec.ofChange treeRootsSpec)) treeRootsCard

/-- THE TIED CARD OF 'probitylaw10.TreePaths'. -/
def treePathsCard : Claim7 := { stood := { row := treePathsRow, standIns := [], harness := (true, "4f35cc2c417061baf18fde909a5009e487a4993e84c87d512aca532eddd405c3"), looks := false }, kinds := [], alts := [], laidByText := true, laidKinds := [.data, .data], laidTests := true, laidLooks := .later }
def TreePathsCardSaid : Prop := Claim7.holds Tryd.pinned (.plain (OpenSpec.ofChange treePathsSpec)) treePathsCard

/-- THE TIED CARD OF 'probitylaw10.TreeChecks'. -/
def treeChecksCard : Claim7 := { stood := { row := treeChecksRow, standIns := [], harness := (true, "4f35cc2c417061baf18fde909a5009e487a4993e84c87d512aca532eddd405c3"), looks := false }, kinds := [], alts := [], laidByText := true, laidKinds := [.data, .data], laidTests := true, laidLooks := .later }
def TreeChecksCardSaid : Prop := Claim7.holds Tryd.pinned (.plain (OpenSpec.ofChange treeChecksSpec)) treeChecksCard

/-- THE TIED CARD OF 'probitylaw10.TreeGrows'. -/
def treeGrowsCard : Claim7 := { stood := { row := treeGrowsRow, standIns := [], harness := (true, "4f35cc2c417061baf18fde909a5009e487a4993e84c87d512aca532eddd405c3"), looks := false }, kinds := [], alts := [], laidByText := true, laidKinds := [.data, .data], laidTests := true, laidLooks := .later }
def TreeGrowsCardSaid : Prop := Claim7.holds Tryd.pinned (.plain (OpenSpec.ofChange treeGrowsSpec)) treeGrowsCard

/-- THE TIED CARD OF 'probitylaw10.TreeBent'. -/
def treeBentCard : Claim7 := { stood := { row := treeBentRow, standIns := [], harness := (true, "4f35cc2c417061baf18fde909a5009e487a4993e84c87d512aca532eddd405c3"), looks := false }, kinds := [], alts := [], laidByText := true, laidKinds := [.data, .data], laidTests := true, laidLooks := .later }
def TreeBentCardSaid : Prop := Claim7.holds Tryd.pinned (.plain (OpenSpec.ofChange treeBentSpec)) treeBentCard

/-- THE TIED CARD OF 'probitylaw10.TreeBinds'. -/
def treeBindsCard : Claim7 := { stood := { row := treeBindsRow, standIns := [], harness := (true, "4f35cc2c417061baf18fde909a5009e487a4993e84c87d512aca532eddd405c3"), looks := false }, kinds := [], alts := [], laidByText := true, laidKinds := [.data, .data], laidTests := true, laidLooks := .later }
def TreeBindsCardSaid : Prop := Claim7.holds Tryd.pinned (.plain (OpenSpec.ofChange treeBindsSpec)) treeBindsCard

/-- THE TIED CARD OF 'probitylaw10.TreeExtends'. -/
def treeExtendsCard : Claim7 := { stood := { row := treeExtendsRow, standIns := [], harness := (true, "4f35cc2c417061baf18fde909a5009e487a4993e84c87d512aca532eddd405c3"), looks := false }, kinds := [], alts := [], laidByText := true, laidKinds := [.data, .data], laidTests := true, laidLooks := .later }
def TreeExtendsCardSaid : Prop := Claim7.holds Tryd.pinned (.plain (OpenSpec.ofChange treeExtendsSpec)) treeExtendsCard

/-- THE TIED CARD OF 'probitylaw10.TreeLarge'. -/
def treeLargeCard : Claim7 := { stood := { row := treeLargeRow, standIns := [], harness := (true, "4f35cc2c417061baf18fde909a5009e487a4993e84c87d512aca532eddd405c3"), looks := false }, kinds := [], alts := [], laidByText := true, laidKinds := [.data, .data], laidTests := true, laidLooks := .later }
def TreeLargeCardSaid : Prop := Claim7.holds Tryd.pinned (.plain (OpenSpec.ofChange treeLargeSpec)) treeLargeCard

/-- THE TIED CARD OF 'probitylaw10.TreeTwice'. -/
def treeTwiceCard : Claim7 := { stood := { row := treeTwiceRow, standIns := [], harness := (true, "4f35cc2c417061baf18fde909a5009e487a4993e84c87d512aca532eddd405c3"), looks := false }, kinds := [], alts := [], laidByText := true, laidKinds := [.data, .data], laidTests := true, laidLooks := .later }
def TreeTwiceCardSaid : Prop := Claim7.holds Tryd.pinned (.plain (OpenSpec.ofChange treeTwiceSpec)) treeTwiceCard

/-- THE TIED CARD OF 'probitylaw10.TreeKeeps'. -/
def treeKeepsCard : Claim7 := { stood := { row := treeKeepsRow, standIns := [], harness := (true, "4f35cc2c417061baf18fde909a5009e487a4993e84c87d512aca532eddd405c3"), looks := false }, kinds := [], alts := [], laidByText := true, laidKinds := [.data, .data], laidTests := true, laidLooks := .later }
def TreeKeepsCardSaid : Prop := Claim7.holds Tryd.pinned (.plain (OpenSpec.ofChange treeKeepsSpec)) treeKeepsCard

/-- THE SECOND FORM's CARD OF 'probitylaw10.TreeRoots'. -/
def treeRootsUptoCard : Claim7 := { stood := { row := treeRootsUptoRow, standIns := [], harness := (true, "4f35cc2c417061baf18fde909a5009e487a4993e84c87d512aca532eddd405c3"), looks := false }, kinds := [], alts := [], laidByText := true, laidKinds := [.data, .data], laidTests := true, laidLooks := .later }
def TreeRootsUptoCardSaid : Prop := Claim7.holds Tryd.pinned (.plain (OpenSpec.upto treeRootsSpec)) treeRootsUptoCard

/-- THE SECOND FORM's CARD OF 'probitylaw10.TreePaths'. -/
def treePathsUptoCard : Claim7 := { stood := { row := treePathsUptoRow, standIns := [], harness := (true, "4f35cc2c417061baf18fde909a5009e487a4993e84c87d512aca532eddd405c3"), looks := false }, kinds := [], alts := [], laidByText := true, laidKinds := [.data, .data], laidTests := true, laidLooks := .later }
def TreePathsUptoCardSaid : Prop := Claim7.holds Tryd.pinned (.plain (OpenSpec.upto treePathsSpec)) treePathsUptoCard

/-- THE SECOND FORM's CARD OF 'probitylaw10.TreeChecks'. -/
def treeChecksUptoCard : Claim7 := { stood := { row := treeChecksUptoRow, standIns := [], harness := (true, "4f35cc2c417061baf18fde909a5009e487a4993e84c87d512aca532eddd405c3"), looks := false }, kinds := [], alts := [], laidByText := true, laidKinds := [.data, .data], laidTests := true, laidLooks := .later }
def TreeChecksUptoCardSaid : Prop := Claim7.holds Tryd.pinned (.plain (OpenSpec.upto treeChecksSpec)) treeChecksUptoCard

/-- THE SECOND FORM's CARD OF 'probitylaw10.TreeGrows'. -/
def treeGrowsUptoCard : Claim7 := { stood := { row := treeGrowsUptoRow, standIns := [], harness := (true, "4f35cc2c417061baf18fde909a5009e487a4993e84c87d512aca532eddd405c3"), looks := false }, kinds := [], alts := [], laidByText := true, laidKinds := [.data, .data], laidTests := true, laidLooks := .later }
def TreeGrowsUptoCardSaid : Prop := Claim7.holds Tryd.pinned (.plain (OpenSpec.upto treeGrowsSpec)) treeGrowsUptoCard

/-- THE SECOND FORM's CARD OF 'probitylaw10.TreeBent'. -/
def treeBentUptoCard : Claim7 := { stood := { row := treeBentUptoRow, standIns := [], harness := (true, "4f35cc2c417061baf18fde909a5009e487a4993e84c87d512aca532eddd405c3"), looks := false }, kinds := [], alts := [], laidByText := true, laidKinds := [.data, .data], laidTests := true, laidLooks := .later }
def TreeBentUptoCardSaid : Prop := Claim7.holds Tryd.pinned (.plain (OpenSpec.upto treeBentSpec)) treeBentUptoCard

/-- THE SECOND FORM's CARD OF 'probitylaw10.TreeBinds'. -/
def treeBindsUptoCard : Claim7 := { stood := { row := treeBindsUptoRow, standIns := [], harness := (true, "4f35cc2c417061baf18fde909a5009e487a4993e84c87d512aca532eddd405c3"), looks := false }, kinds := [], alts := [], laidByText := true, laidKinds := [.data, .data], laidTests := true, laidLooks := .later }
def TreeBindsUptoCardSaid : Prop := Claim7.holds Tryd.pinned (.plain (OpenSpec.upto treeBindsSpec)) treeBindsUptoCard

/-- THE SECOND FORM's CARD OF 'probitylaw10.TreeExtends'. -/
def treeExtendsUptoCard : Claim7 := { stood := { row := treeExtendsUptoRow, standIns := [], harness := (true, "4f35cc2c417061baf18fde909a5009e487a4993e84c87d512aca532eddd405c3"), looks := false }, kinds := [], alts := [], laidByText := true, laidKinds := [.data, .data], laidTests := true, laidLooks := .later }
def TreeExtendsUptoCardSaid : Prop := Claim7.holds Tryd.pinned (.plain (OpenSpec.upto treeExtendsSpec)) treeExtendsUptoCard

/-- THE SECOND FORM's CARD OF 'probitylaw10.TreeLarge'. -/
def treeLargeUptoCard : Claim7 := { stood := { row := treeLargeUptoRow, standIns := [], harness := (true, "4f35cc2c417061baf18fde909a5009e487a4993e84c87d512aca532eddd405c3"), looks := false }, kinds := [], alts := [], laidByText := true, laidKinds := [.data, .data], laidTests := true, laidLooks := .later }
def TreeLargeUptoCardSaid : Prop := Claim7.holds Tryd.pinned (.plain (OpenSpec.upto treeLargeSpec)) treeLargeUptoCard

/-- THE SECOND FORM's CARD OF 'probitylaw10.TreeTwice'. -/
def treeTwiceUptoCard : Claim7 := { stood := { row := treeTwiceUptoRow, standIns := [], harness := (true, "4f35cc2c417061baf18fde909a5009e487a4993e84c87d512aca532eddd405c3"), looks := false }, kinds := [], alts := [], laidByText := true, laidKinds := [.data, .data], laidTests := true, laidLooks := .later }
def TreeTwiceUptoCardSaid : Prop := Claim7.holds Tryd.pinned (.plain (OpenSpec.upto treeTwiceSpec)) treeTwiceUptoCard

/-- THE SECOND FORM's CARD OF 'probitylaw10.TreeKeeps'. -/
def treeKeepsUptoCard : Claim7 := { stood := { row := treeKeepsUptoRow, standIns := [], harness := (true, "4f35cc2c417061baf18fde909a5009e487a4993e84c87d512aca532eddd405c3"), looks := false }, kinds := [], alts := [], laidByText := true, laidKinds := [.data, .data], laidTests := true, laidLooks := .later }
def TreeKeepsUptoCardSaid : Prop := Claim7.holds Tryd.pinned (.plain (OpenSpec.upto treeKeepsSpec)) treeKeepsUptoCard
end Rows
end Go.Proofs.YtkjdfjpfghpofaaDoor
