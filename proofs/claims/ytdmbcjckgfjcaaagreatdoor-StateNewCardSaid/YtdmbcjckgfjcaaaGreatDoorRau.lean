/- Layer chain: what a list has. -/
import Derived.Shelf.SortM.Plain
import Derived.Lib.SliceRun
import Derived.Test.YtdmbcjckgfjcaaaGreatDoorRal
import Derived.Test.YtdmbcjckgfjcaaaGreatDoorRaf
namespace Go.Proofs.YtdmbcjckgfjcaaaGreatDoor.ch
open Go.RowKit
theorem infoI : (Tryz.prog.info? 3).map (fun i => (i.zero, i.size, i.bytes)) = some (some (.int .i64 0), 1, 8) := by kernel_rfl
theorem load_off {m : List Int} {a : Int} (h : a < 0 ∨ (m.length : Int) ≤ a) : loadF m a = 0 := (at_off (m := m) (o := ⟨1, a, 0, 0⟩) (fun h' => by have := h'.2.1; have := h'.2.2; simp only at *; omega)).1
set_option maxRecDepth 100000 in
set_option maxHeartbeats 2000000 in
theorem look_any (v : Value) (m : List Int) (a z : Int) (hz : loadF m a = z) (w : World) (h : Cells w v m) : Calls Tryz.prog 91 #[v, .int .i64 a] w fun e w' => e = .returned (.int .u64 z) ∧ w' = w := by
  obtain ⟨A, c, rfl, h1, h2⟩ := cells_form' h
  by_cases h0 : a < 0
  · rw [load_off (.inl h0)] at hz
    subst hz
    clear h
    go_enter Tryz.func91, Tryz.ntmps91
    go_wp2
    go_ret
    exact ⟨rfl, rfl⟩
  · by_cases h3 : (m.length : Int) ≤ a
    · rw [load_off (.inr h3)] at hz
      subst hz
      clear h
      go_enter Tryz.func91, Tryz.ntmps91
      go_wp2
      go_ret
      exact ⟨rfl, rfl⟩
    · obtain ⟨i, rfl⟩ : ∃ i : Nat, a = i := ⟨a.toNat, by omega⟩
      have hi : i < m.length := by omega
      rw [load_nat i hi] at hz
      obtain ⟨b, off, rfl, -, hc⟩ := cells_at h hi
      have e : m[i] = z := by rw [← hz, List.getD_eq_getElem?_getD, List.getElem?_eq_getElem hi]; rfl
      rw [e] at hc
      clear h hz e
      go_enter Tryz.func91, Tryz.ntmps91
      go_wp2
      go_ret
      exact ⟨rfl, rfl⟩
def ListEnd (w : World) (r : List Int) (n : Nat) (e : Ending) (w' : World) : Prop := ∃ A c, e = .returned (.slice A n c) ∧ (n ≤ c ∧ c ≤ 9223372036854775807) ∧ Ints w' (.slice A n c) r ∧ Below w.heap.size w w'
structure LsAt (w wr : World) (l : List Int) (k : Nat) (v : Value) : Prop where
  own : wr.ownsRow w.heap.size 3 1 v k (l.flatMap ic)
  below : Below w.heap.size w wr
  len : l.length = k
theorem list_fin {w wr : World} {l r : List Int} {k n : Nat} {v : Value} (h : LsAt w wr l k v) (hr : r = l) (hn : r.length = n) : ListEnd w r n (.returned v) wr := by
  subst hr
  have hkn : k = n := by have := h.len; omega
  subst hkn
  obtain ⟨A, c, rfl, h1, h2⟩ := own_form h.own
  have := h.own
  rw [← h.len] at this
  refine ⟨A, c, rfl, ⟨h1, by unfold maxLen at h2; omega⟩, ?_, h.below⟩
  rw [← h.len]
  exact Sl.of_own ic_len this
def lenOf : Value → Nat
  | .slice _ n _ => n
  | _ => 0
theorem from_zero (m : List Int) (nx : Int) (k : Nat) : listFrom m nx k 0 = [] := by cases k <;> simp [listFrom]
set_option maxRecDepth 100000 in
set_option maxHeartbeats 4000000 in
theorem list_any (v : Value) (m : List Int) (hd nx most : Int) (w : World) (h : Cells w v m) (r : List Int) (hr : listFCh m hd nx most = r) (n : Nat) (hn : r.length = n) :
    Calls Tryz.prog 26 #[v, .int .i64 hd, .int .i64 nx, .int .i64 most] w (ListEnd w r n) := by
  obtain ⟨y, hy⟩ : ∃ y, loadF m hd = y := ⟨_, rfl⟩
  obtain ⟨x0, hx0⟩ : ∃ x0, nodeF y = x0 := ⟨_, rfl⟩
  obtain ⟨K, hK⟩ : ∃ K, (min (max most 0) 1000).toNat = K := ⟨_, rfl⟩
  obtain ⟨mm, hmm⟩ : ∃ mm, min most 1000 = mm := ⟨_, rfl⟩
  have hKm : ∀ k : Nat, k < K ↔ (k : Int) < mm := fun k => by omega
  unfold listFCh at hr
  rw [hy, hx0, hK] at hr
  have HR := hide hr
  have HN := hide hn
  have HC := hide h
  have HY := hide hy
  have HX := hide hx0
  have HK := hide hKm
  have hK1 : K ≤ 1000 := by omega
  obtain ⟨i0, hi, hz0, hz1, hz2⟩ := info_parts infoI
  clear h hr hn hy hx0 hK hKm
  go_enter Tryz.func26, Tryz.ntmps26
  go_wp2_with fail
  (with_reducible refine (look_any v m hd y HY.out _ HC.out).mono ?_)
  rintro e w1 ⟨rfl, rfl⟩
  go_wp2_with fail
  (with_reducible refine (Node_same y x0 HX.out _).mono ?_)
  rintro e w1 ⟨rfl, rfl⟩
  go_wp2
  go_loopw [9, 10] (fun vs xs wr => ∃ (k : Nat) (l : List Int) (x : Int), k ≤ K ∧ xs = .int .i64 x ∧ Hid (LsAt w1 wr l k vs) ∧ Hid (l ++ listFrom m nx (K - k) x = r)) (fun vs _ _ => K - lenOf vs)
  case atStart => exact ⟨0, [], x0, Nat.zero_le _, rfl, hide ⟨World.ownsRow_nil _ _ _ _, Below.refl _ _, rfl⟩, HR⟩
  case round =>
    obtain ⟨k, l, x, hk, rfl, HA, HS⟩ := hrel
    by_cases hx : x = 0
    · subst hx
      have HF := hide (list_fin HA.out (by rw [← HS.out, from_zero, List.append_nil]) HN.out)
      go_wp2
      go_ret
      exact HF.out
    · have q0 : (x != 0) = true := by rw [bne_iff_ne]; exact hx
      obtain ⟨A, c, rfl, hc1, hc2⟩ := own_form HA.out.own
      by_cases hlt : k < K
      · have hlt' := (HK.out k).1 hlt
        obtain ⟨q, hq⟩ : ∃ q, s64 (nx + x) = q := ⟨_, rfl⟩
        obtain ⟨z, hz⟩ : ∃ z, loadF m q = z := ⟨_, rfl⟩
        obtain ⟨x2, hx2⟩ : ∃ x2, s64 z = x2 := ⟨_, rfl⟩
        have e1 : IntKind.i64.wrap (nx + x) = q := by rw [wrap_sDq]; exact hq
        have e2 : wrap64 (nx + x) = q := by rw [wrap64_s]; exact hq
        have e3 : IntKind.i64.wrap z = x2 := by rw [wrap_sDq]; exact hx2
        have e4 : wrap64 z = x2 := by rw [wrap64_s]; exact hx2
        have HS2 := hide (show (l ++ [x]) ++ listFrom m nx (K - (k + 1)) x2 = r by
          have e := HS.out
          rw [show K - k = (K - (k + 1)) + 1 by omega, listFrom, if_neg hx, hq, hz, hx2] at e
          rw [List.append_assoc]; exact e)
        have HZ := hide hz
        have hs := HA.out.below.size
        clear hx hq hz hx2
        go_wp2_with (at_builtin; refine wpList_append_own _ rfl _ _ 47 rfl w1.heap.size 3 i0 (.int .i64 0) 1 8 Tryz.underlying47 hi hz0 hz1 hz2 rfl (by decide) _ _ _ rfl (HA.out.own.alloc _) ⟨_, 0, none⟩ 1 1 [.int .i64 x] rfl rfl (row_at _ _ _ (by simp)) (by simp [Value.oneCell']) (by simp only [maxLen]; omega) (by omega) (by simp; omega) ?_; intro v' w6 hown' hgrow _)
        have HB := hide (show Below w1.heap.size w1 w6 from (HA.out.below.alloc hs _).grown hgrow (by simp; omega) (own_ge HA.out.own))
        (with_reducible refine (look_any v m q z HZ.out _ (HC.out.below HB.out)).mono ?_)
        rintro e w7 ⟨rfl, rfl⟩
        have HL := hide (show LsAt w1 w7 (l ++ [x]) (k + 1) v' from ⟨by rw [List.flatMap_append]; exact hown', HB.out, by rw [List.length_append, HA.out.len]; rfl⟩)
        have hln : lenOf v' = k + 1 := by obtain ⟨A9, c9, rfl, -, -⟩ := own_form hown'; rfl
        go_wp2
        go_roundw
        case rel => exact ⟨k + 1, l ++ [x], x2, by omega, rfl, HL, HS2⟩
        case measure =>
          show K - lenOf v' < K - lenOf (.slice A k c)
          rw [hln]
          show K - (k + 1) < K - k
          omega
      · have hlt' : ¬ (k : Int) < mm := fun h' => hlt ((HK.out k).2 h')
        have HF := hide (list_fin HA.out (by rw [← HS.out, show K - k = 0 by omega, listFrom, List.append_nil]) HN.out)
        go_wp2
        go_ret
        exact HF.out
end Go.Proofs.YtdmbcjckgfjcaaaGreatDoor.ch
