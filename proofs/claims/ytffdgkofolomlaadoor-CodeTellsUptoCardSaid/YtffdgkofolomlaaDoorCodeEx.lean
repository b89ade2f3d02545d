/- Layer code: the chapter's examples are so. -/
import Derived.Test.YtffdgkofolomlaaDoorCodeUse
namespace Go.Proofs.YtffdgkofolomlaaDoor
open Go.RowKit Go.Shelf Go.Proofs

def exL : List Oq := [⟨1, 1, 0, 0⟩, ⟨2, 1, 0, 1⟩, ⟨3, 2, 0, 0⟩, ⟨4, 3, 2, 0⟩, ⟨5, 0, 0, 0⟩]
def exS : List UInt8 := [66, 61, 65, 46, 48, 59, 65, 46, 49, 61, 66, 59, 67, 61, 110, 101, 119, 59, 68, 61, 67, 59, 65, 61, 48]
theorem ex_1 : cParse exS = (exL, 0) := by decide +kernel
theorem ex_2 : cParse [66, 61, 65, 46, 52] = ([], 2) := by decide +kernel
theorem ex_3 : cParse [] = ([], 2) := by decide +kernel
theorem ex_4 : cParse [45] = ([], 0) := by decide +kernel
theorem ex_5 : cPrint exL = [66, 61, 65, 46, 48, 59, 65, 46, 49, 61, 66, 59, 67, 61, 110, 101, 119, 59, 68, 61, 67, 59, 65, 61, 48] := by decide +kernel
theorem ex_6 : cText ⟨0, 0, 0, 0⟩ = [63] := by decide +kernel
theorem ex_7 : cWrites exL = 1 := by decide +kernel
theorem ex_8 : cFits exL 4 2 = true ∧ cFits exL 3 2 = false ∧ cFits exL 4 1 = false ∧ cRight ⟨1, 1, 0, 0⟩ 2 1 = true ∧ cRight ⟨1, 1, 0, 0⟩ 1 1 = false := by decide +kernel
theorem exP_1 (w : World) : Calls Tryd.prog 10 #[.string ⟨#[66, 61, 65, 46, 48, 59, 65, 46, 49, 61, 66, 59, 67, 61, 110, 101, 119, 59, 68, 61, 67, 59, 65, 61, 48]⟩] w fun en w' => ∃ A c, en = .returned (.tuple #[.slice A 5 c, .int .i64 0]) ∧ (5 ≤ c ∧ c ≤ 9223372036854775807) ∧ Oqs w' (.slice A 5 c) exL ∧ Below w.heap.size w w' := Parse_c exS exL 0 5 ex_1 rfl ⟨#[66, 61, 65, 46, 48, 59, 65, 46, 49, 61, 66, 59, 67, 61, 110, 101, 119, 59, 68, 61, 67, 59, 65, 61, 48]⟩ rfl (by decide) w
theorem exP_2 (w : World) : Calls Tryd.prog 10 #[.string ⟨#[66, 61, 65, 46, 52]⟩] w fun en w' => ∃ A c, en = .returned (.tuple #[.slice A 0 c, .int .i64 2]) ∧ (0 ≤ c ∧ c ≤ 9223372036854775807) ∧ Oqs w' (.slice A 0 c) [] ∧ Below w.heap.size w w' := Parse_c [66, 61, 65, 46, 52] [] 2 0 ex_2 rfl ⟨#[66, 61, 65, 46, 52]⟩ rfl (by decide) w
theorem exP_3 (w : World) : Calls Tryd.prog 10 #[.string ⟨#[]⟩] w fun en w' => ∃ A c, en = .returned (.tuple #[.slice A 0 c, .int .i64 2]) ∧ (0 ≤ c ∧ c ≤ 9223372036854775807) ∧ Oqs w' (.slice A 0 c) [] ∧ Below w.heap.size w w' := Parse_c [] [] 2 0 ex_3 rfl ⟨#[]⟩ rfl (by decide) w
theorem exP_4 (w : World) : Calls Tryd.prog 10 #[.string ⟨#[45]⟩] w fun en w' => ∃ A c, en = .returned (.tuple #[.slice A 0 c, .int .i64 0]) ∧ (0 ≤ c ∧ c ≤ 9223372036854775807) ∧ Oqs w' (.slice A 0 c) [] ∧ Below w.heap.size w w' := Parse_c [45] [] 0 0 ex_4 rfl ⟨#[45]⟩ rfl (by decide) w
set_option maxRecDepth 100000 in
set_option maxHeartbeats 8000000 in
theorem examples_any (w : World) : Calls Tryd.prog 9 #[] w fun e w' => e = .returned (.bool true) ∧ Below w.heap.size w w' := by
  have hB : Below w.heap.size w w := Below.refl _ _
  go_enter Tryd.func9, Tryd.ntmps9
  go_wp2_with fail
  (with_reducible refine (exP_1 _).mono ?_)
  rintro e w1 ⟨A1, c1, rfl, ⟨p1, q1⟩, HL, hb1⟩
  replace hB := bcall hB hb1
  have hs1 := hb1.size
  clear hb1
  obtain ⟨g, off, rfl⟩ := oq_addr HL rfl (by decide)
  have HL := hide HL
  go_wp2_with fail
  (with_reducible refine (exP_2 _).mono ?_)
  rintro e w2 ⟨A2, c2, rfl, ⟨p2, q2⟩, -, hb2⟩
  replace HL := hide (HL.out.below hb2)
  replace hB := bcall hB hb2
  have hs2 := hb2.size
  clear hb2
  go_wp2_with fail
  (with_reducible refine (exP_3 _).mono ?_)
  rintro e w3 ⟨A3, c3, rfl, ⟨p3, q3⟩, -, hb3⟩
  replace HL := hide (HL.out.below hb3)
  replace hB := bcall hB hb3
  have hs3 := hb3.size
  clear hb3
  go_wp2_with fail
  (with_reducible refine (exP_4 _).mono ?_)
  rintro e w4 ⟨A4, c4, rfl, ⟨p4, q4⟩, -, hb4⟩
  replace HL := hide (HL.out.below hb4)
  replace hB := bcall hB hb4
  have hs4 := hb4.size
  clear hb4
  have X0 := oq_cells HL.out rfl (show exL[0]? = some ⟨1, 1, 0, 0⟩ from rfl) rfl
  have X1 := oq_cells HL.out rfl (show exL[1]? = some ⟨2, 1, 0, 1⟩ from rfl) rfl
  have X2 := oq_cells HL.out rfl (show exL[2]? = some ⟨3, 2, 0, 0⟩ from rfl) rfl
  have X3 := oq_cells HL.out rfl (show exL[3]? = some ⟨4, 3, 2, 0⟩ from rfl) rfl
  have X4 := oq_cells HL.out rfl (show exL[4]? = some ⟨5, 0, 0, 0⟩ from rfl) rfl
  simp only [Nat.zero_mul, Nat.one_mul, Nat.add_zero, Nat.reduceMul, Nat.add_assoc, Nat.reduceAdd] at X0 X1 X2 X3 X4
  obtain ⟨x00, x01, x02, x03⟩ := X0
  obtain ⟨x10, x11, x12, x13⟩ := X1
  obtain ⟨x20, x21, x22, x23⟩ := X2
  obtain ⟨x30, x31, x32, x33⟩ := X3
  obtain ⟨x40, x41, x42, x43⟩ := X4
  go_wp2_with fail
  clear x00 x01 x02 x03 x10 x11 x12 x13 x20 x21 x22 x23 x30 x31 x32 x33 x40 x41 x42 x43
  (with_reducible refine (Print_c exL [66, 61, 65, 46, 48, 59, 65, 46, 49, 61, 66, 59, 67, 61, 110, 101, 119, 59, 68, 61, 67, 59, 65, 61, 48] 5 _ _ rfl ex_5 _ HL.out (by decide)).mono ?_)
  rintro e w5 ⟨rfl, hb5⟩
  replace HL := hide (HL.out.below hb5)
  replace hB := bcall hB hb5
  have hs5 := hb5.size
  clear hb5
  go_wp2_with fail
  (with_reducible refine (Print_nil _).mono ?_)
  rintro e w6 ⟨rfl, hb6⟩
  replace HL := hide (HL.out.below hb6)
  replace hB := bcall hB hb6
  have hs6 := hb6.size
  clear hb6
  go_wp2_with fail
  (with_reducible refine (Text_c 0 0 0 0 [63] ex_6 _).mono ?_)
  rintro e w7 ⟨rfl, hb7⟩
  replace HL := hide (HL.out.below hb7)
  replace hB := bcall hB hb7
  have hs7 := hb7.size
  clear hb7
  go_wp2_with fail
  (with_reducible refine (Writes_c exL 5 1 _ _ rfl ex_7 _ HL.out).mono ?_)
  rintro e w8 ⟨rfl, hb8⟩
  replace HL := hide (HL.out.below hb8)
  replace hB := bcall hB hb8
  have hs8 := hb8.size
  clear hb8
  go_wp2_with fail
  (with_reducible refine (Fits_c exL 5 4 2 true _ _ rfl ex_8.1 _ HL.out).mono ?_)
  rintro e w9 ⟨rfl, hb9⟩
  replace HL := hide (HL.out.below hb9)
  replace hB := bcall hB hb9
  have hs9 := hb9.size
  clear hb9
  go_wp2_with fail
  (with_reducible refine (Fits_c exL 5 3 2 false _ _ rfl ex_8.2.1 _ HL.out).mono ?_)
  rintro e w10 ⟨rfl, hb10⟩
  replace HL := hide (HL.out.below hb10)
  replace hB := bcall hB hb10
  have hs10 := hb10.size
  clear hb10
  go_wp2_with fail
  (with_reducible refine (Fits_c exL 5 4 1 false _ _ rfl ex_8.2.2.1 _ HL.out).mono ?_)
  rintro e w11 ⟨rfl, hb11⟩
  replace HL := hide (HL.out.below hb11)
  replace hB := bcall hB hb11
  have hs11 := hb11.size
  clear hb11
  have X0 := oq_cells HL.out rfl (show exL[0]? = some ⟨1, 1, 0, 0⟩ from rfl) rfl
  simp only [Nat.zero_mul, Nat.add_zero] at X0
  obtain ⟨x00, x01, x02, x03⟩ := X0
  go_wp2_with fail
  clear x00 x01 x02 x03
  (with_reducible refine (Right_c 1 1 0 0 2 1 true ex_8.2.2.2.1 _).mono ?_)
  rintro e w12 ⟨rfl, hb12⟩
  replace HL := hide (HL.out.below hb12)
  replace hB := bcall hB hb12
  have hs12 := hb12.size
  clear hb12
  have X0 := oq_cells HL.out rfl (show exL[0]? = some ⟨1, 1, 0, 0⟩ from rfl) rfl
  simp only [Nat.zero_mul, Nat.add_zero] at X0
  obtain ⟨x00, x01, x02, x03⟩ := X0
  go_wp2_with fail
  clear x00 x01 x02 x03
  (with_reducible refine (Right_c 1 1 0 0 1 1 false ex_8.2.2.2.2 _).mono ?_)
  rintro e w13 ⟨rfl, hb13⟩
  replace HL := hide (HL.out.below hb13)
  replace hB := bcall hB hb13
  have hs13 := hb13.size
  clear hb13
  go_wp2
  go_ret
  exact ⟨rfl, hB⟩
end Go.Proofs.YtffdgkofolomlaaDoor
