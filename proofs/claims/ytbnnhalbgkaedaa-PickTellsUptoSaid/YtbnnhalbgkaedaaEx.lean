/- Layer pick: the chapter's examples, as the statements ask them first. -/
import Derived.Test.YtbnnhalbgkaedaaFairW
import Derived.Test.YtbnnhalbgkaedaaPrint
namespace Go.Proofs.Ytbnnhalbgkaedaa
open Go.RowKit

def exL : List PP := [(0, 0), (1, 1), (2, 2), (2, 16), (1, 16)]
theorem exP1 : parseF ⟨#[46, 97, 32, 206, 178, 10, 207, 128, 112]⟩ = (exL, 0) := by decide +kernel
theorem exP2 : parseF ⟨#[113]⟩ = ([], 2) := by decide +kernel
theorem exP3 : parseF ⟨#[207, 129]⟩ = ([], 2) := by decide +kernel
theorem exR : roundL 2 1 = [(0, 0), (1, 1), (1, 2), (2, 1)] := by decide +kernel
theorem exPr1 : printL exL = [46, 97, 206, 178, 207, 128, 112] := by decide +kernel
theorem exPr2 : printL [(3, 0)] = [63] := by decide +kernel
def exR' : List PP := [(0, 0), (1, 1), (1, 2), (2, 1)]
theorem exK1 : (exR'.all fun p => there p 2 1) = true := by decide +kernel
theorem exK2 : (exR'.all fun p => there p 2 0) = false := by decide +kernel
theorem exF1 : fairF exR' 2 1 4 = true := by decide +kernel
theorem exF2 : fairF exR' 2 1 3 = false := by decide +kernel
theorem exF3 : fairF [] 2 1 3 = true := by decide +kernel
theorem exF4 : fairF [] 2 1 0 = false := by decide +kernel
theorem exWf : ∀ p ∈ exR', Wf p := by intro p hp; simp [exR'] at hp; rcases hp with rfl | rfl | rfl | rfl <;> exact ⟨by decide, by decide⟩

set_option maxHeartbeats 8000000 in
theorem examples_any (w : World) : Calls Try.prog 10 #[] w fun e w' => e = .returned (.bool true) ∧ Below w.heap.size w w' := by
  go_enter Try.func10, Try.ntmps10
  go_wp2_with fail
  refine (Parse_any _ _).mono ?_
  rintro e w1 ⟨v1, rfl, ho1, hb1⟩
  rw [exP1] at ho1 ⊢
  obtain ⟨A1, c1, rfl, _, _⟩ : ∃ A c, v1 = .slice A 5 c ∧ 5 ≤ c ∧ c ≤ maxLen := own_form ho1
  have hb := hb1
  have HL := hide (Sl.of_own pc_len ho1)
  clear ho1 hb1
  go_wp2_with fail
  refine (Parse_any _ _).mono ?_
  rintro e w2 ⟨v2, rfl, ho2, hb2⟩
  rw [exP2] at ho2 ⊢
  have hb := bcall hb hb2
  have HL := hide (HL.out.below hb2)
  clear ho2 hb2
  go_wp2_with fail
  refine (Parse_any _ _).mono ?_
  rintro e w3 ⟨v3, rfl, ho3, hb3⟩
  rw [exP3] at ho3 ⊢
  have hb := bcall hb hb3
  have HL := hide (HL.out.below hb3)
  clear ho3 hb3
  go_wp2_with fail
  refine (Round_any _ _ _).mono ?_
  rintro e w4 ⟨v4, rfl, ho4, hb4⟩
  rw [exR] at ho4
  obtain ⟨A4, c4, rfl, _, _⟩ : ∃ A c, v4 = .slice A 4 c ∧ 4 ≤ c ∧ c ≤ maxLen := own_form ho4
  have hb := bcall hb hb4
  have HL := hide (HL.out.below hb4)
  have HR := hide (show Picks w4 _ exR' from Sl.of_own pc_len ho4)
  clear ho4 hb4
  obtain ⟨b, off, rfl, _, -, -⟩ := picks_at HL.out (k := 0) (by decide)
  have x00 : w4.cell? ⟨b, off, none⟩ = some (.int .i64 0) := (picks_cells HL.out (k := 0) (by decide)).1
  have x01 : w4.cell? ⟨b, off + 1, none⟩ = some (.int .i64 0) := (picks_cells HL.out (k := 0) (by decide)).2
  have x10 : w4.cell? ⟨b, off + 2, none⟩ = some (.int .i64 1) := (picks_cells HL.out (k := 1) (by decide)).1
  have x11 : w4.cell? ⟨b, off + 3, none⟩ = some (.int .i64 1) := (picks_cells HL.out (k := 1) (by decide)).2
  have x12 : w4.cell? ⟨b, off + 2 + 1, none⟩ = some (.int .i64 1) := (picks_cells HL.out (k := 1) (by decide)).2
  have x20 : w4.cell? ⟨b, off + 4, none⟩ = some (.int .i64 2) := (picks_cells HL.out (k := 2) (by decide)).1
  have x21 : w4.cell? ⟨b, off + 5, none⟩ = some (.int .i64 2) := (picks_cells HL.out (k := 2) (by decide)).2
  have x22 : w4.cell? ⟨b, off + 4 + 1, none⟩ = some (.int .i64 2) := (picks_cells HL.out (k := 2) (by decide)).2
  have x30 : w4.cell? ⟨b, off + 6, none⟩ = some (.int .i64 2) := (picks_cells HL.out (k := 3) (by decide)).1
  have x31 : w4.cell? ⟨b, off + 7, none⟩ = some (.int .i64 16) := (picks_cells HL.out (k := 3) (by decide)).2
  have x32 : w4.cell? ⟨b, off + 6 + 1, none⟩ = some (.int .i64 16) := (picks_cells HL.out (k := 3) (by decide)).2
  have x40 : w4.cell? ⟨b, off + 8, none⟩ = some (.int .i64 1) := (picks_cells HL.out (k := 4) (by decide)).1
  have x41 : w4.cell? ⟨b, off + 9, none⟩ = some (.int .i64 16) := (picks_cells HL.out (k := 4) (by decide)).2
  have x42 : w4.cell? ⟨b, off + 8 + 1, none⟩ = some (.int .i64 16) := (picks_cells HL.out (k := 4) (by decide)).2
  go_wp2_with fail
  refine (Print_any _ exL _ HL.out (by decide)).mono ?_
  rintro e w5 ⟨rfl, hb5⟩
  rw [exPr1]
  have HR := hide (HR.out.below hb5)
  have hb := bcall hb hb5
  clear hb5 x00 x01 x10 x11 x12 x20 x21 x22 x30 x31 x32 x40 x41 x42 HL
  have HS := hide (show Picks (w5.alloc (.cells #[.int .i64 3, .int .i64 0] 32)) (.slice (some ⟨w5.heap.size, 0, none⟩) 1 1) [(3, 0)] from Sl.of_own (base := 0) pc_len (own_new w5 0 [.int .i64 3, .int .i64 0] 32 2 1 (Nat.zero_le _) rfl (by simp [maxLen])))
  go_wp2_with fail
  refine (Print_any _ [(3, 0)] _ HS.out (by decide)).mono ?_
  rintro e w6 ⟨rfl, hb6⟩
  rw [exPr2]
  have hb6 := bcall1 (Below.refl w5.heap.size w5) hb6
  have HR := hide (HR.out.below hb6)
  have hb := bcall hb hb6
  clear hb6 HS
  obtain ⟨rb, roff, rfl, _, -, -⟩ := picks_at HR.out (k := 0) (by decide)
  have r30 : w6.cell? ⟨rb, roff + 6, none⟩ = some (.int .i64 2) := (picks_cells HR.out (k := 3) (by decide)).1
  have r31 : w6.cell? ⟨rb, roff + 7, none⟩ = some (.int .i64 1) := (picks_cells HR.out (k := 3) (by decide)).2
  have r32 : w6.cell? ⟨rb, roff + 6 + 1, none⟩ = some (.int .i64 1) := (picks_cells HR.out (k := 3) (by decide)).2
  go_wp2_with fail
  refine (Known_any _ exR' _ _ _ HR.out).mono ?_
  rintro e w7 ⟨rfl, hb7⟩
  rw [exK1]
  have HR := hide (HR.out.below hb7)
  have hb := bcall hb hb7
  clear hb7
  go_wp2_with fail
  refine (Known_any _ exR' _ _ _ HR.out).mono ?_
  rintro e w8 ⟨rfl, hb8⟩
  rw [exK2]
  have HR := hide (HR.out.below hb8)
  have hb := bcall hb hb8
  clear hb8
  go_wp2_with fail
  refine (Fair_any _ exR' _ _ _ _ HR.out exWf (by decide) (by decide) (by decide) (by decide) (by decide)).mono ?_
  rintro e w9 ⟨rfl, hb9⟩
  rw [exF1]
  have HR := hide (HR.out.below hb9)
  have hb := bcall hb hb9
  clear hb9
  go_wp2_with fail
  refine (Fair_any _ exR' _ _ _ _ HR.out exWf (by decide) (by decide) (by decide) (by decide) (by decide)).mono ?_
  rintro e w10 ⟨rfl, hb10⟩
  rw [exF2]
  have HR := hide (HR.out.below hb10)
  have hb := bcall hb hb10
  clear hb10
  go_wp2_with fail
  refine (Fair_any _ [] _ _ _ _ Sl.nil_ (fun _ h => nomatch h) (by decide) (by decide) (by decide) (by decide) (by decide)).mono ?_
  rintro e w11 ⟨rfl, hb11⟩
  rw [exF3]
  have HR := hide (HR.out.below hb11)
  have hb := bcall hb hb11
  clear hb11
  go_wp2_with fail
  refine (Fair_any _ [] _ _ _ _ Sl.nil_ (fun _ h => nomatch h) (by decide) (by decide) (by decide) (by decide) (by decide)).mono ?_
  rintro e w12 ⟨rfl, hb12⟩
  rw [exF4]
  have HR := hide (HR.out.below hb12)
  have hb := bcall hb hb12
  clear hb12
  have r00 : w12.cell? ⟨rb, roff, none⟩ = some (.int .i64 0) := (picks_cells HR.out (k := 0) (by decide)).1
  have r01 : w12.cell? ⟨rb, roff + 1, none⟩ = some (.int .i64 0) := (picks_cells HR.out (k := 0) (by decide)).2
  go_wp2_with fail
  refine (Right_any _ _ _).mono ?_
  rintro e w13 ⟨rfl, hb13⟩
  have hb := bcall hb hb13
  rw [show right (0, 0) = true from rfl]
  go_wp2
  go_ret
  exact ⟨rfl, hb⟩
end Go.Proofs.Ytbnnhalbgkaedaa
