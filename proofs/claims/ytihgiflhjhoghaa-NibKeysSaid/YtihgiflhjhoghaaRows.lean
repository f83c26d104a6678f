/-
  No cell of these rows narrows 'for every input' (looked for: loops, veiled, ifaces, maps, wideKeys, modest, calm, conditions, laid).
  DERIVED. THE GIVEN ROWS OF THIS SEAT. 4 by the template 'for every input the law returns true; each argument reads behind the call as it read before'; 0 by the template 'total and deterministic' (their statements: YtihgiflhjhoghaaTotals.lean).
  GIVEN WITH THE SEED: the statements are not yours to turn. If you find one false, say at which input.
  Laid BY PROGRAM, IN A SANDBOX (cutbox-rows.mjs): the forced cells as the released guide's own fill.sh prints them over the translation d506df9275b9e2da… (all of the seat's roots in one cut). By AI agents, Wed Nov 11 2026. No macro, syntax, notation, axiom, sorry.
-/
import Derived.Test.YtihgiflhjhoghaaChecked
import GoSem.Claim
import GoSem.ClaimJoined
import GoSem.ClaimMapViews
import Derived.JoinedTies
import Derived.KernelRfl
namespace Go.Proofs.Ytihgiflhjhoghaa
/- THE CELL 'sum', in the pinned program and in every row, IS THE sha256 OF THE DUMP (.gsa) THAT YtihgiflhjhoghaaProg.lean LOADS. Nothing in Lean hashes anything: it is a label: what it is worth is what the hold of that sum in a sandbox is worth. -/
noncomputable def Try.pinned : Pinned := { name := "ytihgiflhjhoghaa", sum := "d506df9275b9e2daa4ac7a88a154cf5efd4d99d893e618a7ecb082e3c6450ade", checked := Try.checked }
namespace Rows
def none {H : Type} : Left H := { results := [], args := [] }

/-- 'dormouselaw02.NibKeys': WHATEVER THE INPUT: true; the input reads as it did. -/
def nibKeysSpec : ChangeSpec := { name := "nibKeys", fn := fun _ => fun
  | [d1, d2] => { results := [.lit (.bool true)], args := [d1, d2] }
  | _ => none }
def nibKeysRow : OpenClaim := { program := "ytihgiflhjhoghaa", sum := "d506df9275b9e2daa4ac7a88a154cf5efd4d99d893e618a7ecb082e3c6450ade", func := "dormouse/dormouselaw02.NibKeys", spec := "nibKeys", inPlace := ["internal/abi.NoEscape"], unfollowed := true, recurses := true, apart := false }
def NibKeysSaid : Prop := nibKeysRow.holds Try.pinned (OpenSpec.ofChange nibKeysSpec)

/-- ITS FALSE NEIGHBOUR: 'it returns false'. Refute it at one input. -/
def nibKeysWrong : ChangeSpec := { name := "nibKeys", fn := fun _ => fun
  | [d1, d2] => { results := [.lit (.bool false)], args := [d1, d2] }
  | _ => none }
def NibKeysWrongFalsely : Prop := nibKeysRow.holds Try.pinned (OpenSpec.ofChange nibKeysWrong)

/-- 'dormouselaw02.NibPacks': WHATEVER THE INPUT: true; the input reads as it did. -/
def nibPacksSpec : ChangeSpec := { name := "nibPacks", fn := fun _ => fun
  | [d1, d2] => { results := [.lit (.bool true)], args := [d1, d2] }
  | _ => none }
def nibPacksRow : OpenClaim := { program := "ytihgiflhjhoghaa", sum := "d506df9275b9e2daa4ac7a88a154cf5efd4d99d893e618a7ecb082e3c6450ade", func := "dormouse/dormouselaw02.NibPacks", spec := "nibPacks", inPlace := ["internal/abi.NoEscape"], unfollowed := true, recurses := true, apart := false }
def NibPacksSaid : Prop := nibPacksRow.holds Try.pinned (OpenSpec.ofChange nibPacksSpec)

/-- ITS FALSE NEIGHBOUR: 'it returns false'. Refute it at one input. -/
def nibPacksWrong : ChangeSpec := { name := "nibPacks", fn := fun _ => fun
  | [d1, d2] => { results := [.lit (.bool false)], args := [d1, d2] }
  | _ => none }
def NibPacksWrongFalsely : Prop := nibPacksRow.holds Try.pinned (OpenSpec.ofChange nibPacksWrong)

/-- 'dormouselaw02.NibUnpacks': WHATEVER THE INPUT: true; the input reads as it did. -/
def nibUnpacksSpec : ChangeSpec := { name := "nibUnpacks", fn := fun _ => fun
  | [d] => { results := [.lit (.bool true)], args := [d] }
  | _ => none }
def nibUnpacksRow : OpenClaim := { program := "ytihgiflhjhoghaa", sum := "d506df9275b9e2daa4ac7a88a154cf5efd4d99d893e618a7ecb082e3c6450ade", func := "dormouse/dormouselaw02.NibUnpacks", spec := "nibUnpacks", inPlace := ["internal/abi.NoEscape"], unfollowed := true, recurses := true, apart := false }
def NibUnpacksSaid : Prop := nibUnpacksRow.holds Try.pinned (OpenSpec.ofChange nibUnpacksSpec)

/-- ITS FALSE NEIGHBOUR: 'it returns false'. Refute it at one input. -/
def nibUnpacksWrong : ChangeSpec := { name := "nibUnpacks", fn := fun _ => fun
  | [d] => { results := [.lit (.bool false)], args := [d] }
  | _ => none }
def NibUnpacksWrongFalsely : Prop := nibUnpacksRow.holds Try.pinned (OpenSpec.ofChange nibUnpacksWrong)

/-- 'dormouselaw02.NibPaths': WHATEVER THE INPUT: true; the input reads as it did. -/
def nibPathsSpec : ChangeSpec := { name := "nibPaths", fn := fun _ => fun
  | [d1, d2] => { results := [.lit (.bool true)], args := [d1, d2] }
  | _ => none }
def nibPathsRow : OpenClaim := { program := "ytihgiflhjhoghaa", sum := "d506df9275b9e2daa4ac7a88a154cf5efd4d99d893e618a7ecb082e3c6450ade", func := "dormouse/dormouselaw02.NibPaths", spec := "nibPaths", inPlace := ["internal/abi.NoEscape", "internal/bytealg.Compare"], unfollowed := true, recurses := true, apart := false }
def NibPathsSaid : Prop := nibPathsRow.holds Try.pinned (OpenSpec.ofChange nibPathsSpec)

/-- ITS FALSE NEIGHBOUR: 'it returns false'. Refute it at one input. -/
def nibPathsWrong : ChangeSpec := { name := "nibPaths", fn := fun _ => fun
  | [d1, d2] => { results := [.lit (.bool false)], args := [d1, d2] }
  | _ => none }
def NibPathsWrongFalsely : Prop := nibPathsRow.holds Try.pinned (OpenSpec.ofChange nibPathsWrong)

/- THE SECOND FORM. 'bulk': how many values and letters a reading holds, each counted each time it is reached (what is shared counts as often as it is met; a slice's spare places count too). A statement '..UptoSaid' is the law's where the arguments, and the package variables that the reading takes, are together of bulk at most 1048576: NARROWER than '..Said'. Prove '..Said' where nothing that the law and all that it calls make is longer than what came in: it says more and counts as full. Else prove '..UptoSaid'. A law counts once. -/
mutual
def uptoBulk {H : Type} : DataW H → Nat
  | .lit (.string bytes) => bytes.length + 1
  | .lit _ => 1
  | .nil => 1
  | .ptr d => uptoBulk d + 1
  | .slice elems spare => uptoBulkAll elems + uptoBulkAll spare + 1
  | .agg parts => uptoBulkAll parts + 1
  | .iface _ d => uptoBulk d + 1
  | .map entries => uptoBulkEntries entries + 1
  | .held _ => 1
def uptoBulkAll {H : Type} : List (DataW H) → Nat
  | [] => 0
  | d :: r => uptoBulk d + uptoBulkAll r
def uptoBulkEntries {H : Type} : List (Lit × DataW H) → Nat
  | [] => 0
  | x :: r => uptoBulkEntry x + uptoBulkEntries r
def uptoBulkEntry {H : Type} : Lit × DataW H → Nat
  | (.string bytes, d) => bytes.length + uptoBulk d + 1
  | (_, d) => uptoBulk d + 1
 end
def uptoSmall : (H : Type) → List (DataW H) → Bool := fun _ ds => decide (uptoBulkAll ds ≤ 1048576)
def OpenSpec.upto (s : _root_.Go.ChangeSpec) : _root_.Go.OpenSpec := { _root_.Go.OpenSpec.ofChange s with cond := some uptoSmall }

/-- 'dormouselaw02.NibKeys', WHERE WHAT IT READS IS OF BULK AT MOST 1048576: true; the input reads as it did. -/
def nibKeysUptoRow : OpenClaim := { program := "ytihgiflhjhoghaa", sum := "d506df9275b9e2daa4ac7a88a154cf5efd4d99d893e618a7ecb082e3c6450ade", func := "dormouse/dormouselaw02.NibKeys", spec := "nibKeys", inPlace := ["internal/abi.NoEscape"], unfollowed := true, recurses := true, apart := false, narrowed := true }
def NibKeysUptoSaid : Prop := nibKeysUptoRow.holds Try.pinned (OpenSpec.upto nibKeysSpec)

/-- 'dormouselaw02.NibPacks', WHERE WHAT IT READS IS OF BULK AT MOST 1048576: true; the input reads as it did. -/
def nibPacksUptoRow : OpenClaim := { program := "ytihgiflhjhoghaa", sum := "d506df9275b9e2daa4ac7a88a154cf5efd4d99d893e618a7ecb082e3c6450ade", func := "dormouse/dormouselaw02.NibPacks", spec := "nibPacks", inPlace := ["internal/abi.NoEscape"], unfollowed := true, recurses := true, apart := false, narrowed := true }
def NibPacksUptoSaid : Prop := nibPacksUptoRow.holds Try.pinned (OpenSpec.upto nibPacksSpec)

/-- 'dormouselaw02.NibUnpacks', WHERE WHAT IT READS IS OF BULK AT MOST 1048576: true; the input reads as it did. -/
def nibUnpacksUptoRow : OpenClaim := { program := "ytihgiflhjhoghaa", sum := "d506df9275b9e2daa4ac7a88a154cf5efd4d99d893e618a7ecb082e3c6450ade", func := "dormouse/dormouselaw02.NibUnpacks", spec := "nibUnpacks", inPlace := ["internal/abi.NoEscape"], unfollowed := true, recurses := true, apart := false, narrowed := true }
def NibUnpacksUptoSaid : Prop := nibUnpacksUptoRow.holds Try.pinned (OpenSpec.upto nibUnpacksSpec)

/-- 'dormouselaw02.NibPaths', WHERE WHAT IT READS IS OF BULK AT MOST 1048576: true; the input reads as it did. -/
def nibPathsUptoRow : OpenClaim := { program := "ytihgiflhjhoghaa", sum := "d506df9275b9e2daa4ac7a88a154cf5efd4d99d893e618a7ecb082e3c6450ade", func := "dormouse/dormouselaw02.NibPaths", spec := "nibPaths", inPlace := ["internal/abi.NoEscape", "internal/bytealg.Compare"], unfollowed := true, recurses := true, apart := false, narrowed := true }
def NibPathsUptoSaid : Prop := nibPathsUptoRow.holds Try.pinned (OpenSpec.upto nibPathsSpec)

end Rows
end Go.Proofs.Ytihgiflhjhoghaa
