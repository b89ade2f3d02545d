/- Layer deque: what cells have; has the owner lowered BOTTOM? -/
import Derived.Test.YtimjlgglhonhkaaDequeCells
import Derived.Test.YtimjlgglhonhkaaGrid
namespace Go.Proofs.Ytimjlgglhonhkaa
open Go.RowKit

theorem infoOp' : (Try.prog.info? 103).map (fun i => (i.zero, i.size, i.bytes)) = some (some (.agg #[.int .i64 0, .int .i64 0, .int .u64 0, .int .u64 0]), 4, 32) := by kernel_rfl
def ldD (a : Int) : Dd := ⟨1, a, 0, 0⟩
theorem allV_load : ∀ (l : List Int) (m : List Int), allM m (l.map ldD) = m ∧ allV m (l.map ldD) = l.map (loadF m)
  | [], _ => ⟨rfl, rfl⟩
  | a :: l, m => by
    have e : mF m (ldD a) = m := mF_load m a
    obtain ⟨h1, h2⟩ := allV_load l m
    rw [List.map_cons, allM, allV, e, h1, h2]
    exact ⟨rfl, rfl⟩
def LookEnd (w : World) (r : List Int) (n : Nat) (e : Ending) (w' : World) : Prop := ∃ A c, e = .returned (.slice A n c) ∧ (n ≤ c ∧ c ≤ 9223372036854775807) ∧ Cells w' (.slice A n c) r ∧ Below w.heap.size w w'

structure LookAt (w wr : World) (l : List Int) (k : Nat) (v : Value) : Prop where
  own : wr.ownsRow w.heap.size 103 4 v k (((l.take k).map ldD).flatMap oc)
  below : Below w.heap.size w wr

set_option maxRecDepth 100000 in
set_option maxHeartbeats 4000000 in
theorem look_any (v lv : Value) (m l : List Int) (w : World) (h : Cells w v m) (hl : Ints w lv l) (hbig : m.length * 8 ≤ 140737488351232) (hbl : l.length ≤ 64) (r : List Int) (hr : l.map (loadF m) = r) (n : Nat) (hn : r.length = n) :
    Calls Try.prog 49 #[v, lv] w (LookEnd w r n) := by
  have HC := hide h
  have HL := hide hl
  have HR := hide hr
  have HN := hide hn
  have hl' := hl
  obtain ⟨A, c, rfl, h1, h2, -⟩ := hl'
  unfold maxLen at h2
  obtain ⟨i0, hi, hz0, hz1, hz2⟩ := info_parts infoOp'
  clear h hl hr hn
  go_enter Try.func49, Try.ntmps49
  go_wp2
  go_loopw [5, 13] (fun vs i wr => ∃ k : Nat, k ≤ l.length ∧ i = .int .i64 k ∧ Hid (LookAt w wr l k vs)) (fun _ i _ => l.length - (Go.RowKit.intOf i).toNat)
  case atStart => exact ⟨0, Nat.zero_le _, rfl, hide ⟨World.ownsRow_nil _ _ _ _, Below.refl _ _⟩⟩
  case round =>
    obtain ⟨k, hk, rfl, HA⟩ := hrel
    by_cases hlt : k < l.length
    · obtain ⟨g, off, rfl, hg, d0⟩ := ints_at (HL.out.below HA.out.below) hlt
      obtain ⟨x, hx⟩ : ∃ x, l[k] = x := ⟨_, rfl⟩
      rw [hx] at d0
      have HX := hide (show (l.take (k + 1)).map ldD = (l.take k).map ldD ++ [ldD x] by rw [List.take_succ_eq_append_getElem hlt, hx, List.map_append]; rfl)
      have hs := HA.out.below.size
      clear hx
      go_wp2_with (at_builtin; refine wpList_append_own _ rfl _ _ 101 rfl w.heap.size 103 i0 (.agg #[.int .i64 0, .int .i64 0, .int .u64 0, .int .u64 0]) 4 32 Try.underlying101 hi hz0 hz1 hz2 rfl (by decide) _ _ _ rfl (HA.out.own.alloc _) ⟨_, 0, none⟩ 1 1 [.int .i64 1, .int .i64 x, .int .u64 0, .int .u64 0] rfl rfl (row_at _ _ _ (by simp)) (by simp [Value.oneCell']) (by simp only [maxLen]; omega) (by omega) (by simp; omega) ?_; intro h'' w6 hown' hgrow _)
      go_roundw
      case rel =>
        refine ⟨k + 1, by omega, by go_num, hide ⟨?_, ?_⟩⟩
        · rw [HX.out, List.flatMap_append]; exact hown'
        · exact (HA.out.below.alloc hs _).grown hgrow (by simp; omega) (own_ge HA.out.own)
      case measure => simp [Go.RowKit.intOf]; omega
    · have hkl : k = l.length := by omega
      have HO := hide (show Dds wr _ (l.map ldD) by
        have := HA.out.own
        rw [hkl, List.take_of_length_le (Nat.le_refl _)] at this
        exact Sl.of_own oc_len (by rw [List.length_map]; exact this))
      go_wp2_with fail
      (with_reducible refine (All_c _ _ m (l.map ldD) _ (HC.out.below HA.out.below) HO.out hbig (by rw [List.length_map]; omega) m r _ (allV_load l m).1 ((allV_load l m).2.trans HR.out) rfl m.length n rfl HN.out).mono ?_)
      rintro e w2 ⟨A1, c1, H1, d1, rfl, -, ⟨hd1, hd2⟩, -, hH, hb2⟩
      have HF := hide (show LookEnd w r n (.returned (.slice H1 n d1)) w2 from ⟨H1, d1, rfl, ⟨hd1, by omega⟩, hH, bcall HA.out.below hb2⟩)
      clear hd1 hd2 hH hb2
      go_wp2
      go_ret
      exact HF.out
set_option maxRecDepth 100000 in
set_option maxHeartbeats 2000000 in
theorem lowered_any (k p s c b t x u : Int) (w : World) (r : Bool) (hr : extF ⟨k, p, s, c, b, t, x, u⟩ = r) : Calls Try.prog 50 #[mvv k p s c b t x u] w fun e w' => e = .returned (.bool r) ∧ Below w.heap.size w w' := by
  obtain ⟨b1, hb1⟩ : ∃ b1, w64 (b - 1) = b1 := ⟨_, rfl⟩
  have hw : IntKind.u64.wrap (b - 1) = b1 := by rw [wrap_w]; exact hb1
  unfold extF at hr
  simp only [hb1] at hr
  clear hb1
  by_cases hk : k = 2
  · subst hk
    by_cases hu : u = 0
    · subst hu
      by_cases h2 : p = 2
      · subst h2
        have e : r = true := by rw [← hr]; simp
        clear hr
        subst e
        go_enter Try.func50, Try.ntmps50
        go_wp2
        go_ret
        exact ⟨rfl, bal _ _⟩
      by_cases h4 : p = 4
      · subst h4
        have e : r = true := by rw [← hr]; simp
        clear hr
        subst e
        go_enter Try.func50, Try.ntmps50
        go_wp2
        go_ret
        exact ⟨rfl, bal _ _⟩
      by_cases h5 : p = 5
      · subst h5
        have e : r = true := by rw [← hr]; simp
        clear hr
        subst e
        go_enter Try.func50, Try.ntmps50
        go_wp2
        go_ret
        exact ⟨rfl, bal _ _⟩
      have q2 : (p == 2) = false := by rw [beq_eq_false_iff_ne]; exact h2
      have q4 : (p == 4) = false := by rw [beq_eq_false_iff_ne]; exact h4
      have q5 : (p == 5) = false := by rw [beq_eq_false_iff_ne]; exact h5
      by_cases h3 : p = 3
      · subst h3
        by_cases ht : t = b1
        · subst ht
          have e : r = true := by rw [← hr]; simp
          have q0 : (t == t) = true := by simp
          clear hr
          subst e
          clear h2 h4 h5
          go_enter Try.func50, Try.ntmps50
          go_wp2
          go_ret
          exact ⟨rfl, bal _ _⟩
        · have q0 : (t == b1) = false := by rw [beq_eq_false_iff_ne]; exact ht
          have e : r = false := by rw [← hr]; simp [ht]
          clear hr
          subst e
          clear ht h2 h4 h5
          go_enter Try.func50, Try.ntmps50
          go_wp2
          go_ret
          exact ⟨rfl, bal _ _⟩
      · have q3 : (p == 3) = false := by rw [beq_eq_false_iff_ne]; exact h3
        have e : r = false := by rw [← hr]; simp [h2, h3, h4, h5]
        clear hr
        subst e
        clear h2 h3 h4 h5
        go_enter Try.func50, Try.ntmps50
        go_wp2
        go_ret
        exact ⟨rfl, bal _ _⟩
    · have q0 : (u != 0) = true := by rw [bne_iff_ne]; exact hu
      have e : r = false := by rw [← hr]; simp [hu]
      clear hr
      subst e
      clear hu
      go_enter Try.func50, Try.ntmps50
      go_wp2
      go_ret
      exact ⟨rfl, bal _ _⟩
  · have q0 : (k != 2) = true := by rw [bne_iff_ne]; exact hk
    have e : r = false := by rw [← hr]; simp [hk]
    clear hr
    subst e
    clear hk
    go_enter Try.func50, Try.ntmps50
    go_wp2
    go_ret
    exact ⟨rfl, bal _ _⟩
end Go.Proofs.Ytimjlgglhonhkaa
