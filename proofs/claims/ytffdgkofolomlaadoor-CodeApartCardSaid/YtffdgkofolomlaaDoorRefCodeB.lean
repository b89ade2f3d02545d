/- Layer code: the document's Text, its fourth kind; any op. -/
import Derived.Test.YtffdgkofolomlaaDoorRefCodeA
namespace Go.Proofs.YtffdgkofolomlaaDoor
open Go.RowKit

set_option maxRecDepth 100000 in
set_option maxHeartbeats 4000000 in
theorem rcText_4 (r a s : Int) (h : cRight ⟨4, r, a, s⟩ 4 4 = true) (w : World) : Calls Tryd.prog 21 #[qv 4 r a s] w fun e w' => e = .returned (.string ⟨(cText ⟨4, r, a, s⟩).toArray⟩) ∧ Below w.heap.size w w' := by
  have H := hide h
  obtain ⟨⟨r0, r1⟩, ⟨a0, a1⟩, ⟨s0, s1⟩, -⟩ := cRight_rng h
  have e1 := cwrap (x := 48 + s) (by omega) (by omega)
  have iw : IntKind.i64.wrap (48 + s) = 48 + s := by simp [IntKind.wrap, IntKind.bits, IntKind.signed]; omega
  have hc := fun w : World => cconv1 w (48 + s) (by omega) (by omega)
  have hcd := fun w : World => cconv_at (w := w) (x := 48 + s) (by omega) (by omega) ((Below.refl _ _).drew)
  have HD := hide (cdig s0)
  have HR := hide (show 0 ≤ r ∧ r < 4 from ⟨r0, r1⟩)
  have HA := hide (show 0 ≤ a ∧ a < 4 from ⟨a0, a1⟩)
  have HS := hide (show 0 ≤ 48 + s ∧ 48 + s ≤ 255 by omega)
  have EF := hide (show cText ⟨4, r, a, s⟩ = [cLet r, 61, cLet a] by unfold cText; rw [h]; rfl)
  clear h r0 r1 a0 a1 s0 s1
  obtain ⟨w1, e1, hb1, hs1, X⟩ := b4_new w (.int .i64 4) (.int .i64 r) (.int .i64 a) (.int .i64 s) 33
  have HE1 := hide e1
  have HX := hide X
  obtain ⟨X0, X1, X2, X3⟩ := X.all
  clear e1 X
  go_enter Tryd.func21, Tryd.ntmps21
  go_upto_region 1 with (fail)
  rw [HE1.out]
  go_wp2_with fail
  (with_reducible refine (rcRight_any 4 r a s 4 4 _).mono ?_)
  rintro e w2 ⟨rfl, hb2⟩
  rw [H.out]
  have HX2 := hide (HX.out.below hb2)
  have hB := bcall hb1 hb2
  clear X0 X1 X2 X3
  obtain ⟨X0, X1, X2, X3⟩ := HX2.out.all
  have Xa0 := fun ob => ckeep (cbal w2 ob) X0
  have Xa1 := fun ob => ckeep (cbal w2 ob) X1
  have Xa2 := fun ob => ckeep (cbal w2 ob) X2
  have Xa3 := fun ob => ckeep (cbal w2 ob) X3
  go_upto_region 3 with (fail)
  go_region_law (first | (go_simp; go_at_call 32; (with_reducible refine (letter_any a HA.out _).mono ?_); rintro e w3 ⟨rfl, hb3⟩; have hb4 : Below w2.heap.size w2 w3 := (by first | exact ⟨hb3.os, hb3.tape, hb3.output, hb3.size, hb3.block⟩ | exact bcall (cbal w2 _) ⟨hb3.os, hb3.tape, hb3.output, hb3.size, hb3.block⟩); (first | (have hc3 := cconv_at (w := w2) HS.out.1 HS.out.2 ⟨hb3.os, hb3.tape, hb3.output, hb3.size, hb3.block⟩) | skip); have X0 := ckeep hb4 X0; have X1 := ckeep hb4 X1; have X2 := ckeep hb4 X2; have X3 := ckeep hb4 X3; have Xb0 := (fun ob => ckeep (cbal w3 ob) X0); have Xb1 := (fun ob => ckeep (cbal w3 ob) X1); have Xb2 := (fun ob => ckeep (cbal w3 ob) X2); have Xb3 := (fun ob => ckeep (cbal w3 ob) X3); have hB := bcall hB hb4; clear hb3))
  all_goals
    go_wp2
    go_region_law (first | (go_simp; go_at_call 32; (first | (with_reducible refine (letter_any r HR.out _).mono ?_) | (with_reducible refine (letter_any a HA.out _).mono ?_)); rintro e w5 ⟨rfl, hb5⟩; (first | (have hB := (show Below w.heap.size w w5 by first | exact bcall hB ⟨hb5.os, hb5.tape, hb5.output, hb5.size, hb5.block⟩ | exact bcall (bcall hB (cbal w3 _)) ⟨hb5.os, hb5.tape, hb5.output, hb5.size, hb5.block⟩)) | skip); (first | (have X2 := ckeep (a := w3) (show Below w3.heap.size w3 w5 by first | exact ⟨hb5.os, hb5.tape, hb5.output, hb5.size, hb5.block⟩ | exact bcall (cbal w3 _) ⟨hb5.os, hb5.tape, hb5.output, hb5.size, hb5.block⟩) X2) | skip); clear hb5))
    all_goals
      go_wp2
      go_ret
      refine ⟨cret ?_, ?_⟩
      · rw [EF.out]
        apply ByteArray.ext
        simp [ByteArray.data_append]
      · exact hB
theorem rcText_any (k r a s : Int) (w : World) : Calls Tryd.prog 21 #[qv k r a s] w fun e w' => e = .returned (.string ⟨(cText ⟨k, r, a, s⟩).toArray⟩) ∧ Below w.heap.size w w' := by
  cases h : cRight ⟨k, r, a, s⟩ 4 4
  · exact rcText_no k r a s h w
  · obtain ⟨-, -, -, hk⟩ := cRight_rng h
    rcases hk with rfl | rfl | rfl | rfl | rfl
    · exact rcText_1 r a s h w
    · exact rcText_2 r a s h w
    · exact rcText_3 r a s h w
    · exact rcText_4 r a s h w
    · exact rcText_5 r a s h w
end Go.Proofs.YtffdgkofolomlaaDoor
