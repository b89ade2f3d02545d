/-
  NARROWER THAN 'FOR EVERY INPUT', by the rows' own cells (each row's printed sentence says how): TintTells: laid · TintDarker: laid · TintFresh: laid · TintBetween: laid · TintGreys: laid · TintRight: laid.
  DERIVED. THE GIVEN ROWS OF THIS SEAT. 6 by the template 'for every input the law returns true; each argument reads behind the call as it read before'; 0 by the template 'total and deterministic' (their statements: YtpffknlbffnafaaDoorTotals.lean).
  GIVEN WITH THE SEED: the statements are not yours to turn. If you find one false, say at which input.
  Laid BY PROGRAM, IN A SANDBOX (cutbox-rows.mjs): the forced cells as the released guide's own fill.sh prints them over the translation 62ed6dda9b539024… (all of the seat's roots in one cut). By AI agents, Wed Nov 11 2026. No macro, syntax, notation, axiom, sorry.
-/
import Derived.Test.YtpffknlbffnafaaDoorChecked
import GoSem.Claim
import GoSem.ClaimJoined
import GoSem.ClaimMapViews
import Derived.JoinedTies
import Derived.KernelRfl
namespace Go.Proofs.YtpffknlbffnafaaDoor
/- THE CELL 'sum', in the pinned program and in every row, IS THE sha256 OF THE DUMP (.gsa) THAT YtpffknlbffnafaaDoorProg.lean LOADS. Nothing in Lean hashes anything: it is a label: what it is worth is what the hold of that sum in a sandbox is worth. -/
noncomputable def Tryd.pinned : Pinned := { name := "ytpffknlbffnafaadoor", sum := "62ed6dda9b5390248851c5259a46a615b82bef4bef0eac9a3e4267fd2f545e87", checked := Tryd.checked }
namespace Rows
def none {H : Type} : Left H := { results := [], args := [] }

/- WHAT THE LISTED PACKAGE-LEVEL VARIABLES READ AS WHEN THE CALL BEGINS. Each datum BY PROGRAM (the guide's laid-datum.mjs) off the statement by which the dump's own 'gosem.cut.vars' lays the variable. In a bare row this is a premise. The card (YtpffknlbffnafaaDoorCards.lean) ties it to the program's text. -/
def laid_math_bits_deBruijn64tab {H : Type} : DataW H := .agg [.lit (.int .u8 0), .lit (.int .u8 1), .lit (.int .u8 56), .lit (.int .u8 2), .lit (.int .u8 57), .lit (.int .u8 49), .lit (.int .u8 28), .lit (.int .u8 3), .lit (.int .u8 61), .lit (.int .u8 58), .lit (.int .u8 42), .lit (.int .u8 50), .lit (.int .u8 38), .lit (.int .u8 29), .lit (.int .u8 17), .lit (.int .u8 4), .lit (.int .u8 62), .lit (.int .u8 47), .lit (.int .u8 59), .lit (.int .u8 36), .lit (.int .u8 45), .lit (.int .u8 43), .lit (.int .u8 51), .lit (.int .u8 22), .lit (.int .u8 53), .lit (.int .u8 39), .lit (.int .u8 33), .lit (.int .u8 30), .lit (.int .u8 24), .lit (.int .u8 18), .lit (.int .u8 12), .lit (.int .u8 5), .lit (.int .u8 63), .lit (.int .u8 55), .lit (.int .u8 48), .lit (.int .u8 27), .lit (.int .u8 60), .lit (.int .u8 41), .lit (.int .u8 37), .lit (.int .u8 16), .lit (.int .u8 46), .lit (.int .u8 35), .lit (.int .u8 44), .lit (.int .u8 21), .lit (.int .u8 52), .lit (.int .u8 32), .lit (.int .u8 23), .lit (.int .u8 11), .lit (.int .u8 54), .lit (.int .u8 26), .lit (.int .u8 40), .lit (.int .u8 15), .lit (.int .u8 34), .lit (.int .u8 20), .lit (.int .u8 31), .lit (.int .u8 10), .lit (.int .u8 25), .lit (.int .u8 14), .lit (.int .u8 19), .lit (.int .u8 9), .lit (.int .u8 13), .lit (.int .u8 8), .lit (.int .u8 7), .lit (.int .u8 6)]
def laid_besom_tint_letters {H : Type} : DataW H := .agg [.lit (.int .u8 119), .lit (.int .u8 103), .lit (.int .u8 98)]

/-- 'besomlaw09.TintTells': WHATEVER THE INPUT: true; the input reads as it did. -/
def tintTellsSpec : ChangeSpec := { name := "tintTells", fn := fun _ => fun
  | [d1, d2, d3, d4] => { results := [.lit (.bool true)], args := [d1, d2, d3, d4] }
  | _ => none }
def tintTellsRow : OpenClaim := { program := "ytpffknlbffnafaadoor", sum := "62ed6dda9b5390248851c5259a46a615b82bef4bef0eac9a3e4267fd2f545e87", func := "besom/besomlaw09.TintTells", spec := "tintTells", inPlace := ["internal/abi.NoEscape"], unfollowed := true, recurses := true, named := ["besom/tint.letters", "math/bits.deBruijn64tab"], apart := false, laid := [("math/bits.deBruijn64tab", laid_math_bits_deBruijn64tab), ("besom/tint.letters", laid_besom_tint_letters)] }
def TintTellsSaid : Prop := tintTellsRow.holds Tryd.pinned (OpenSpec.ofChange tintTellsSpec)

/-- ITS FALSE NEIGHBOUR: 'it returns false'. Refute it at one input. -/
def tintTellsWrong : ChangeSpec := { name := "tintTells", fn := fun _ => fun
  | [d1, d2, d3, d4] => { results := [.lit (.bool false)], args := [d1, d2, d3, d4] }
  | _ => none }
def TintTellsWrongFalsely : Prop := tintTellsRow.holds Tryd.pinned (OpenSpec.ofChange tintTellsWrong)

/-- 'besomlaw09.TintDarker': WHATEVER THE INPUT: true; the input reads as it did. -/
def tintDarkerSpec : ChangeSpec := { name := "tintDarker", fn := fun _ => fun
  | [d1, d2, d3, d4] => { results := [.lit (.bool true)], args := [d1, d2, d3, d4] }
  | _ => none }
def tintDarkerRow : OpenClaim := { program := "ytpffknlbffnafaadoor", sum := "62ed6dda9b5390248851c5259a46a615b82bef4bef0eac9a3e4267fd2f545e87", func := "besom/besomlaw09.TintDarker", spec := "tintDarker", inPlace := ["internal/abi.NoEscape"], unfollowed := true, recurses := true, named := ["besom/tint.letters", "math/bits.deBruijn64tab"], apart := false, laid := [("math/bits.deBruijn64tab", laid_math_bits_deBruijn64tab), ("besom/tint.letters", laid_besom_tint_letters)] }
def TintDarkerSaid : Prop := tintDarkerRow.holds Tryd.pinned (OpenSpec.ofChange tintDarkerSpec)

/-- ITS FALSE NEIGHBOUR: 'it returns false'. Refute it at one input. -/
def tintDarkerWrong : ChangeSpec := { name := "tintDarker", fn := fun _ => fun
  | [d1, d2, d3, d4] => { results := [.lit (.bool false)], args := [d1, d2, d3, d4] }
  | _ => none }
def TintDarkerWrongFalsely : Prop := tintDarkerRow.holds Tryd.pinned (OpenSpec.ofChange tintDarkerWrong)

/-- 'besomlaw09.TintFresh': WHATEVER THE INPUT: true; the input reads as it did. -/
def tintFreshSpec : ChangeSpec := { name := "tintFresh", fn := fun _ => fun
  | [d1, d2, d3] => { results := [.lit (.bool true)], args := [d1, d2, d3] }
  | _ => none }
def tintFreshRow : OpenClaim := { program := "ytpffknlbffnafaadoor", sum := "62ed6dda9b5390248851c5259a46a615b82bef4bef0eac9a3e4267fd2f545e87", func := "besom/besomlaw09.TintFresh", spec := "tintFresh", inPlace := ["internal/abi.NoEscape"], unfollowed := true, recurses := true, named := ["besom/tint.letters", "math/bits.deBruijn64tab"], apart := false, laid := [("math/bits.deBruijn64tab", laid_math_bits_deBruijn64tab), ("besom/tint.letters", laid_besom_tint_letters)] }
def TintFreshSaid : Prop := tintFreshRow.holds Tryd.pinned (OpenSpec.ofChange tintFreshSpec)

/-- ITS FALSE NEIGHBOUR: 'it returns false'. Refute it at one input. -/
def tintFreshWrong : ChangeSpec := { name := "tintFresh", fn := fun _ => fun
  | [d1, d2, d3] => { results := [.lit (.bool false)], args := [d1, d2, d3] }
  | _ => none }
def TintFreshWrongFalsely : Prop := tintFreshRow.holds Tryd.pinned (OpenSpec.ofChange tintFreshWrong)

/-- 'besomlaw09.TintBetween': WHATEVER THE INPUT: true; the input reads as it did. -/
def tintBetweenSpec : ChangeSpec := { name := "tintBetween", fn := fun _ => fun
  | [d1, d2, d3, d4] => { results := [.lit (.bool true)], args := [d1, d2, d3, d4] }
  | _ => none }
def tintBetweenRow : OpenClaim := { program := "ytpffknlbffnafaadoor", sum := "62ed6dda9b5390248851c5259a46a615b82bef4bef0eac9a3e4267fd2f545e87", func := "besom/besomlaw09.TintBetween", spec := "tintBetween", inPlace := ["internal/abi.NoEscape"], unfollowed := true, recurses := true, named := ["besom/tint.letters", "math/bits.deBruijn64tab"], apart := false, laid := [("math/bits.deBruijn64tab", laid_math_bits_deBruijn64tab), ("besom/tint.letters", laid_besom_tint_letters)] }
def TintBetweenSaid : Prop := tintBetweenRow.holds Tryd.pinned (OpenSpec.ofChange tintBetweenSpec)

/-- ITS FALSE NEIGHBOUR: 'it returns false'. Refute it at one input. -/
def tintBetweenWrong : ChangeSpec := { name := "tintBetween", fn := fun _ => fun
  | [d1, d2, d3, d4] => { results := [.lit (.bool false)], args := [d1, d2, d3, d4] }
  | _ => none }
def TintBetweenWrongFalsely : Prop := tintBetweenRow.holds Tryd.pinned (OpenSpec.ofChange tintBetweenWrong)

/-- 'besomlaw09.TintGreys': WHATEVER THE INPUT: true; the input reads as it did. -/
def tintGreysSpec : ChangeSpec := { name := "tintGreys", fn := fun _ => fun
  | [d1, d2, d3] => { results := [.lit (.bool true)], args := [d1, d2, d3] }
  | _ => none }
def tintGreysRow : OpenClaim := { program := "ytpffknlbffnafaadoor", sum := "62ed6dda9b5390248851c5259a46a615b82bef4bef0eac9a3e4267fd2f545e87", func := "besom/besomlaw09.TintGreys", spec := "tintGreys", inPlace := ["internal/abi.NoEscape"], unfollowed := true, recurses := true, named := ["besom/tint.letters", "math/bits.deBruijn64tab"], apart := false, laid := [("math/bits.deBruijn64tab", laid_math_bits_deBruijn64tab), ("besom/tint.letters", laid_besom_tint_letters)] }
def TintGreysSaid : Prop := tintGreysRow.holds Tryd.pinned (OpenSpec.ofChange tintGreysSpec)

/-- ITS FALSE NEIGHBOUR: 'it returns false'. Refute it at one input. -/
def tintGreysWrong : ChangeSpec := { name := "tintGreys", fn := fun _ => fun
  | [d1, d2, d3] => { results := [.lit (.bool false)], args := [d1, d2, d3] }
  | _ => none }
def TintGreysWrongFalsely : Prop := tintGreysRow.holds Tryd.pinned (OpenSpec.ofChange tintGreysWrong)

/-- 'besomlaw09.TintRight': WHATEVER THE INPUT: true; the input reads as it did. -/
def tintRightSpec : ChangeSpec := { name := "tintRight", fn := fun _ => fun
  | [d1, d2] => { results := [.lit (.bool true)], args := [d1, d2] }
  | _ => none }
def tintRightRow : OpenClaim := { program := "ytpffknlbffnafaadoor", sum := "62ed6dda9b5390248851c5259a46a615b82bef4bef0eac9a3e4267fd2f545e87", func := "besom/besomlaw09.TintRight", spec := "tintRight", inPlace := ["internal/abi.NoEscape"], unfollowed := true, recurses := true, named := ["besom/tint.letters", "math/bits.deBruijn64tab"], apart := false, laid := [("math/bits.deBruijn64tab", laid_math_bits_deBruijn64tab), ("besom/tint.letters", laid_besom_tint_letters)] }
def TintRightSaid : Prop := tintRightRow.holds Tryd.pinned (OpenSpec.ofChange tintRightSpec)

/-- ITS FALSE NEIGHBOUR: 'it returns false'. Refute it at one input. -/
def tintRightWrong : ChangeSpec := { name := "tintRight", fn := fun _ => fun
  | [d1, d2] => { results := [.lit (.bool false)], args := [d1, d2] }
  | _ => none }
def TintRightWrongFalsely : Prop := tintRightRow.holds Tryd.pinned (OpenSpec.ofChange tintRightWrong)

/- THE SECOND FORM. 'bulk': how many values and letters a reading holds, each counted each time it is reached (what is shared counts as often as it is met; a slice's spare places count too). A statement '..UptoSaid' is the law's where the arguments, and the package variables that the reading takes, are together of bulk at most 1048576: NARROWER than '..Said'. Prove '..Said' where nothing that the law and all that it calls make is longer than what came in: it says more and counts as full. Else prove '..UptoSaid'. A law counts once. -/
mutual
def uptoBulk {H : Type} : DataW H → Nat
  | .lit (.string bytes) => bytes.length + 1
  | .lit _ => 1
  | .nil => 1
  | .ptr d => uptoBulk d + 1
  | .slice elems spare => uptoBulkAll elems + uptoBulkAll spare + 1
  | .agg parts => uptoBulkAll parts + 1
  | .iface _ d => uptoBulk d + 1
  | .map entries => uptoBulkEntries entries + 1
  | .held _ => 1
def uptoBulkAll {H : Type} : List (DataW H) → Nat
  | [] => 0
  | d :: r => uptoBulk d + uptoBulkAll r
def uptoBulkEntries {H : Type} : List (Lit × DataW H) → Nat
  | [] => 0
  | x :: r => uptoBulkEntry x + uptoBulkEntries r
def uptoBulkEntry {H : Type} : Lit × DataW H → Nat
  | (.string bytes, d) => bytes.length + uptoBulk d + 1
  | (_, d) => uptoBulk d + 1
 end
def uptoSmall : (H : Type) → List (DataW H) → Bool := fun _ ds => decide (uptoBulkAll ds ≤ 1048576)
def OpenSpec.upto (s : _root_.Go.ChangeSpec) : _root_.Go.OpenSpec := { _root_.Go.OpenSpec.ofChange s with cond := some uptoSmall }

/-- 'besomlaw09.TintTells', WHERE WHAT IT READS IS OF BULK AT MOST 1048576: true; the input reads as it did. -/
def tintTellsUptoRow : OpenClaim := { program := "ytpffknlbffnafaadoor", sum := "62ed6dda9b5390248851c5259a46a615b82bef4bef0eac9a3e4267fd2f545e87", func := "besom/besomlaw09.TintTells", spec := "tintTells", inPlace := ["internal/abi.NoEscape"], unfollowed := true, recurses := true, named := ["besom/tint.letters", "math/bits.deBruijn64tab"], apart := false, laid := [("math/bits.deBruijn64tab", laid_math_bits_deBruijn64tab), ("besom/tint.letters", laid_besom_tint_letters)], narrowed := true }
def TintTellsUptoSaid : Prop := tintTellsUptoRow.holds Tryd.pinned (OpenSpec.upto tintTellsSpec)

/-- 'besomlaw09.TintDarker', WHERE WHAT IT READS IS OF BULK AT MOST 1048576: true; the input reads as it did. -/
def tintDarkerUptoRow : OpenClaim := { program := "ytpffknlbffnafaadoor", sum := "62ed6dda9b5390248851c5259a46a615b82bef4bef0eac9a3e4267fd2f545e87", func := "besom/besomlaw09.TintDarker", spec := "tintDarker", inPlace := ["internal/abi.NoEscape"], unfollowed := true, recurses := true, named := ["besom/tint.letters", "math/bits.deBruijn64tab"], apart := false, laid := [("math/bits.deBruijn64tab", laid_math_bits_deBruijn64tab), ("besom/tint.letters", laid_besom_tint_letters)], narrowed := true }
def TintDarkerUptoSaid : Prop := tintDarkerUptoRow.holds Tryd.pinned (OpenSpec.upto tintDarkerSpec)

/-- 'besomlaw09.TintFresh', WHERE WHAT IT READS IS OF BULK AT MOST 1048576: true; the input reads as it did. -/
def tintFreshUptoRow : OpenClaim := { program := "ytpffknlbffnafaadoor", sum := "62ed6dda9b5390248851c5259a46a615b82bef4bef0eac9a3e4267fd2f545e87", func := "besom/besomlaw09.TintFresh", spec := "tintFresh", inPlace := ["internal/abi.NoEscape"], unfollowed := true, recurses := true, named := ["besom/tint.letters", "math/bits.deBruijn64tab"], apart := false, laid := [("math/bits.deBruijn64tab", laid_math_bits_deBruijn64tab), ("besom/tint.letters", laid_besom_tint_letters)], narrowed := true }
def TintFreshUptoSaid : Prop := tintFreshUptoRow.holds Tryd.pinned (OpenSpec.upto tintFreshSpec)

/-- 'besomlaw09.TintBetween', WHERE WHAT IT READS IS OF BULK AT MOST 1048576: true; the input reads as it did. -/
def tintBetweenUptoRow : OpenClaim := { program := "ytpffknlbffnafaadoor", sum := "62ed6dda9b5390248851c5259a46a615b82bef4bef0eac9a3e4267fd2f545e87", func := "besom/besomlaw09.TintBetween", spec := "tintBetween", inPlace := ["internal/abi.NoEscape"], unfollowed := true, recurses := true, named := ["besom/tint.letters", "math/bits.deBruijn64tab"], apart := false, laid := [("math/bits.deBruijn64tab", laid_math_bits_deBruijn64tab), ("besom/tint.letters", laid_besom_tint_letters)], narrowed := true }
def TintBetweenUptoSaid : Prop := tintBetweenUptoRow.holds Tryd.pinned (OpenSpec.upto tintBetweenSpec)

/-- 'besomlaw09.TintGreys', WHERE WHAT IT READS IS OF BULK AT MOST 1048576: true; the input reads as it did. -/
def tintGreysUptoRow : OpenClaim := { program := "ytpffknlbffnafaadoor", sum := "62ed6dda9b5390248851c5259a46a615b82bef4bef0eac9a3e4267fd2f545e87", func := "besom/besomlaw09.TintGreys", spec := "tintGreys", inPlace := ["internal/abi.NoEscape"], unfollowed := true, recurses := true, named := ["besom/tint.letters", "math/bits.deBruijn64tab"], apart := false, laid := [("math/bits.deBruijn64tab", laid_math_bits_deBruijn64tab), ("besom/tint.letters", laid_besom_tint_letters)], narrowed := true }
def TintGreysUptoSaid : Prop := tintGreysUptoRow.holds Tryd.pinned (OpenSpec.upto tintGreysSpec)

/-- 'besomlaw09.TintRight', WHERE WHAT IT READS IS OF BULK AT MOST 1048576: true; the input reads as it did. -/
def tintRightUptoRow : OpenClaim := { program := "ytpffknlbffnafaadoor", sum := "62ed6dda9b5390248851c5259a46a615b82bef4bef0eac9a3e4267fd2f545e87", func := "besom/besomlaw09.TintRight", spec := "tintRight", inPlace := ["internal/abi.NoEscape"], unfollowed := true, recurses := true, named := ["besom/tint.letters", "math/bits.deBruijn64tab"], apart := false, laid := [("math/bits.deBruijn64tab", laid_math_bits_deBruijn64tab), ("besom/tint.letters", laid_besom_tint_letters)], narrowed := true }
def TintRightUptoSaid : Prop := tintRightUptoRow.holds Tryd.pinned (OpenSpec.upto tintRightSpec)

end Rows
end Go.Proofs.YtpffknlbffnafaaDoor
