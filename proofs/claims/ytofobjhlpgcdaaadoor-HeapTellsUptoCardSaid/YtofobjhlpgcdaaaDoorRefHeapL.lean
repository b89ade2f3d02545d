/- Layer heap: the document's own answer, with named values; a heap as the document's; is a heap the document's? -/
import Derived.Test.YtofobjhlpgcdaaaDoorRefHeapG
import Derived.Test.YtofobjhlpgcdaaaDoorRefHeapH
import Derived.Test.YtofobjhlpgcdaaaDoorRefHeapK
import Derived.Test.YtofobjhlpgcdaaaDoorRefHeapC
import Derived.Test.YtofobjhlpgcdaaaDoorHeapUse
import Derived.Test.YtofobjhlpgcdaaaDoorQuietB
namespace Go.Proofs.YtofobjhlpgcdaaaDoor
open Go.RowKit Go.Shelf Go.Proofs

set_option maxHeartbeats 1000000 in
theorem refHeap_any (n : Int) (A : Option Addr) (L c : Nat) (w : World) :
    Calls Tryd.prog 5 #[hv n (.slice A L c)] w fun e w' => e = .returned (hv n (.slice A L c)) ∧ Below w.heap.size w w' := by
  go_enter Tryd.func5, Tryd.ntmps5
  go_wp2
  refine bodyPost_ret (v := hv n (.slice A L c)) (by simp [results, Tryd.results5, go_sem]) rfl ⟨rfl, ?_⟩
  exact (bal _ _).alloc (by simp) _
theorem grid_form {w : World} {v : Value} {ls : Rws} (h : Grid w v ls) : ∃ A c, v = .slice A ls.length c ∧ ls.length ≤ c ∧ c ≤ 9223372036854775807 := by
  obtain ⟨A, c, rfl, h1, h2⟩ := h.form
  exact ⟨A, c, rfl, h1, by unfold maxLen at h2; omega⟩
theorem rGet_c (n : Int) (v : Value) (ls : Rws) (o s : Int) (w : World) (h : Grid w v ls) (x : Int) (hx : getF ls o s = x) (b : Bool) (hb : hasS ls o s = b) :
    Calls Tryd.prog 7 #[hv n v, .int .i64 o, .int .i64 s] w fun e w' => e = .returned (.tuple #[.int .i64 x, .bool b]) ∧ Below w.heap.size w w' := by
  subst hx; subst hb; exact rGet_any n v ls o s w h
theorem rPut_c (n : Int) (v : Value) (ls : Rws) (o s x : Int) (w : World) (h : Grid w v ls) (hf : Fit ls) (k : Nat) (hk : ls.length = k) (R : Rws) (hR : putF ls o s x = R) (b : Bool) (hb : putOk ls o s x = b) :
    Calls Tryd.prog 9 #[hv n v, .int .i64 o, .int .i64 s, .int .i64 x] w fun e w' => ∃ A c, e = .returned (.tuple #[hv n (.slice A k c), .bool b]) ∧ k ≤ c ∧ c ≤ 9223372036854775807 ∧ Hid (Grid w' (.slice A k c) R) ∧ Below w.heap.size w w' := by
  refine (rPut_any n v ls o s x w h hf).mono ?_
  rintro e w' ⟨v', rfl, hO, hB⟩
  obtain ⟨A, c, rfl, h1, h2⟩ := grid_form hO
  rw [hb, putF_len, hk] at *
  rw [hR] at hO
  exact ⟨A, c, rfl, h1, h2, hide hO, hB⟩
theorem rAlloc_c (n : Int) (v : Value) (ls : Rws) (m : Int) (w : World) (h : Grid w v ls) (hf : Fit ls) (R : Rws) (hR : allocF n ls m = R) (k : Nat) (hk : R.length = k) (a : Int) (ha : allocN n ls m = a) (b : Int) (hb : allocE n ls m = b) :
    Calls Tryd.prog 11 #[hv n v, .int .i64 m] w fun e w' => ∃ A c, e = .returned (.tuple #[hv n (.slice A k c), .int .i64 a, .int .i64 b]) ∧ k ≤ c ∧ c ≤ 9223372036854775807 ∧ Hid (Grid w' (.slice A k c) R) ∧ Below w.heap.size w w' := by
  refine (rAlloc_any n v ls m w h hf).mono ?_
  rintro e w' ⟨v', rfl, hO, hB⟩
  rw [hR] at hO
  obtain ⟨A, c, rfl, h1, h2⟩ := grid_form hO
  rw [hk] at h1 hO ⊢
  rw [ha, hb]
  exact ⟨A, c, rfl, h1, h2, hide hO, hB⟩
theorem rParse_c (t : ByteArray) (w : World) (hl : t.size ≤ 1048576) (n : Int) (R : Rws) (x : Int) (hx : (heapF t.data.toList = some (n, R) ∧ x = 0) ∨ (heapF t.data.toList = none ∧ n = 0 ∧ R = [] ∧ x = 2)) (k : Nat) (hk : R.length = k) :
    Calls Tryd.prog 13 #[.string t] w fun e w' => ∃ A c, e = .returned (.tuple #[hv n (.slice A k c), .int .i64 x]) ∧ k ≤ c ∧ c ≤ 9223372036854775807 ∧ Hid (Grid w' (.slice A k c) R) ∧ Below w.heap.size w w' := by
  refine (rParse_any t w hl).mono ?_
  rintro e w' ⟨n', R', x', v, hr, rfl, hG, hB⟩
  have he : n' = n ∧ R' = R ∧ x' = x := by
    rcases hr with ⟨h1, h2⟩ | ⟨h1, h2, h3, h4⟩
    · rcases hx with ⟨g1, g2⟩ | ⟨g1, -⟩
      · rw [h1] at g1; injection g1 with g1; injection g1 with g1 g3; exact ⟨g1, g3, by rw [h2, g2]⟩
      · rw [h1] at g1; cases g1
    · rcases hx with ⟨g1, g2⟩ | ⟨g1, g2, g3, g4⟩
      · rw [h1] at g1; cases g1
      · exact ⟨by rw [h2, g2], by rw [h3, g3], by rw [h4, g4]⟩
  obtain ⟨rfl, rfl, rfl⟩ := he
  obtain ⟨A, c, rfl, h1, h2⟩ := grid_form hG
  rw [hk] at h1 hG ⊢
  exact ⟨A, c, rfl, h1, h2, hide hG, hB⟩
theorem rSame_c (n m : Int) (va vb : Value) (a b : Rws) (w : World) (ha : Grid w va a) (hb : Grid w vb b) (r : Bool) (hr : sameF n a m b = r) :
    Calls Tryd.prog 18 #[hv n va, hv m vb] w fun e w' => e = .returned (.bool r) ∧ Below w.heap.size w w' := by
  subst hr; exact rSame_any n m va vb a b w ha hb
theorem rText_c (n : Int) (v : Value) (ls : Rws) (w : World) (h : Grid w v ls) (t : ByteArray) (ht : textF n ls = t.data.toList) :
    Calls Tryd.prog 20 #[hv n v] w fun e w' => e = .returned (.string t) ∧ Below w.heap.size w w' := by
  refine (rText_any n v ls w h).mono ?_
  rintro e w' ⟨rfl, hB⟩
  exact ⟨by rw [ht], hB⟩
theorem rRight_c (n : Int) (v : Value) (ls : Rws) (w : World) (h : Grid w v ls) (b : Bool) (hb : rightF n ls = b) :
    Calls Tryd.prog 16 #[hv n v] w fun e w' => e = .returned (.bool b) ∧ Below w.heap.size w w' := by
  subst hb; exact rRight_any n v ls w h
theorem same_refl (n : Int) (a : Rws) : sameF n a n a = true := by unfold sameF; simp

set_option maxHeartbeats 2000000 in
theorem sameHeap_c (n : Int) (A B : Option Addr) (k c d : Nat) (a : Rws) (w : World) (ha : Grid w (.slice A k c) a) (hb : Grid w (.slice B k d) a) :
    Calls Tryd.prog 14 #[hv n (.slice A k c), hv n (.slice B k d)] w fun e w' => e = .returned (.bool true) ∧ Below w.heap.size w w' := by
  obtain ⟨w1, e1, hb1, hlt1, -, x0, x1⟩ := box1 w (.int .i64 n) (.slice A k c) 24
  obtain ⟨w2, e2, hb2, hlt2, -, y0, y1⟩ := box1 w1 (.int .i64 n) (.slice B k d) 26
  have hs1 : w1.heap.size = w.heap.size + 1 := by rw [← e1]; simp
  rw [hs1] at y0 y1
  have x0 := keepc hb2 x0
  have x1 := keepc hb2 x1
  have HE1 := hide e1
  have HE2 := hide e2
  have GA := hide ((ha.below hb1).below hb2)
  have GB := hide ((hb.below hb1).below hb2)
  have hB2 := hide (bcall hb1 hb2)
  clear e1 e2 hs1 ha hb
  have x0q : ∀ p : BW w2, p.w.cell? ⟨w.heap.size, 0, none⟩ = some (.int .i64 n) := fun p => keepc p.b x0
  have x1q : ∀ p : BW w2, p.w.cell? ⟨w.heap.size, 1, none⟩ = some (.slice A k c) := fun p => keepc p.b x1
  have y0q : ∀ p : BW w2, p.w.cell? ⟨w.heap.size + 1, 0, none⟩ = some (.int .i64 n) := fun p => keepc p.b y0
  have y1q : ∀ p : BW w2, p.w.cell? ⟨w.heap.size + 1, 1, none⟩ = some (.slice B k d) := fun p => keepc p.b y1
  have GAq := hide (fun p : BW w2 => GA.out.below p.b)
  have GBq := hide (fun p : BW w2 => GB.out.below p.b)
  have HSR := hide (same_refl n a)
  go_enter Tryd.func14, Tryd.ntmps14
  go_wp2_with fail
  rw [HE1.out, HE2.out]
  refine wp_region_below (by kernel_rfl) (by kernel_rfl) ?_
  repeat (go_big_quiet_step (first | (with_reducible refine below_of (refHeap_any n A k c _)) | (with_reducible refine below_of (rSame_c n n _ _ a a _ (GAq.out _) (GBq.out _) true HSR.out))))
  refine wpQuiet_nil ?_
  intro _ hw'
  obtain ⟨⟨wq_, bq_⟩, hw''⟩ := hw'
  subst hw''
  go_wp2
  go_ret
  exact ⟨rfl, bcall hB2.out bq_⟩
end Go.Proofs.YtofobjhlpgcdaaaDoor
