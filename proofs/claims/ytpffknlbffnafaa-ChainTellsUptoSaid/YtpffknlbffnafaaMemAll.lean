/- Layer mem: All: deeds one behind another. -/
import Derived.Test.YtpffknlbffnafaaMemDo
namespace Go.Proofs.Ytpffknlbffnafaa
open Go.RowKit

/-- a deed, as cells -/
def oc (o : Dd) : List Value := [.int .i64 o.k, .int .i64 o.t, .int .u64 o.a, .int .u64 o.b]
theorem oc_len (o : Dd) : (oc o).length = 4 := rfl
abbrev Dds (w : World) (v : Value) (l : List Dd) : Prop := Sl oc 4 w v l
theorem dd_at {w : World} {A : Option Addr} {n c i : Nat} {l : List Dd} {k t a b : Int} (h : Dds w (.slice A n c) l) (hi : i < l.length) (e : l[i] = ⟨k, t, a, b⟩) :
    ∃ g off, A = some ⟨g, off, none⟩ ∧ g < w.heap.size ∧ w.cell? ⟨g, off + i * 4, none⟩ = some (.int .i64 k) ∧ w.cell? ⟨g, off + i * 4 + 1, none⟩ = some (.int .i64 t) ∧ w.cell? ⟨g, off + i * 4 + 2, none⟩ = some (.int .u64 a) ∧ w.cell? ⟨g, off + i * 4 + 3, none⟩ = some (.int .u64 b) := by
  obtain ⟨A', c', e0, h1, h2, h3⟩ := h
  injection e0 with e1 e2 e3
  subst e1
  obtain ⟨g, off, rfl, hb, hc⟩ := h3 (by omega)
  have hd := List.getElem?_eq_getElem hi
  rw [e] at hd
  exact ⟨g, off, rfl, hb, hc i _ hd 0 _ rfl, hc i _ hd 1 _ rfl, hc i _ hd 2 _ rfl, hc i _ hd 3 _ rfl⟩

/-- what stays as the loop goes round -/
structure AllAt (B B2 M : Nat) (w0 : World) (v' : Value) (m : List Int) (l : List Dd) (k : Nat) (h : Value) (wr : World) : Prop where
  cells : wr.ownsRow B 24 1 v' m.length ((allM m (l.take k)).flatMap uc)
  had : wr.ownsRow B2 24 1 h k ((allV m (l.take k)).flatMap uc)
  map : Dm wr M
  below : Below B w0 wr
  size : B2 ≤ wr.heap.size

section
variable {B B2 M k : Nat} {w0 wr w5 w6 : World} {v' hd h'' : Value} {m : List Int} {l : List Dd} {o : Dd} {bx row : Obj}
theorem AllAt.had5 (hA : AllAt B B2 M w0 v' m l k hd wr) (hv : ∀ x, v'.ownBlock = some x → x < B2) (hg5 : (wr.alloc bx).grownBy w5 v'.ownBlock) : w5.ownsRow B2 24 1 hd k ((allV m (l.take k)).flatMap uc) := by
  refine (hA.had.alloc bx).kept hg5 ?_
  cases e : hd.ownBlock with
  | none => exact .inl rfl
  | some x =>
    refine .inr fun h => ?_
    have := (hA.had.lt x e).1
    have := hv x h.symm
    omega
theorem AllAt.next (hA : AllAt B B2 M w0 v' m l k hd wr) (hv : ∀ x, v'.ownBlock = some x → x < B2) (hM : M < B2) (hvM : v'.ownBlock ≠ some M) (hB : B ≤ B2) (ho : l[k]? = some o)
    (ho5 : w5.ownsRow B 24 1 v' m.length ((mF (allM m (l.take k)) o).flatMap uc)) (hg5 : (wr.alloc bx).grownBy w5 v'.ownBlock)
    (h6 : w6.ownsRow B2 24 1 h'' (k + 1) ((allV m (l.take k)).flatMap uc ++ [.int .u64 (vF (allM m (l.take k)) o)])) (hg6 : (w5.alloc row).grownBy w6 hd.ownBlock) :
    AllAt B B2 M w0 v' m l (k + 1) h'' w6 := by
  have hk : k < l.length := (List.getElem?_eq_some_iff.1 ho).1
  have ht : l.take (k + 1) = l.take k ++ [o] := by
    rw [List.take_succ_eq_append_getElem hk]
    rw [List.getElem?_eq_getElem hk] at ho
    injection ho with ho
    rw [ho]
  have hge : ∀ x, hd.ownBlock = some x → B2 ≤ x := fun x h => (hA.had.lt x h).1
  have hs4 : wr.heap.size ≤ (wr.alloc bx).heap.size := by simp
  have hb5 : Below B w0 w5 := (hA.below.alloc (Nat.le_trans hB hA.size) bx).grown hg5 (Nat.le_trans (Nat.le_trans hB hA.size) hs4) (fun x h => (hA.cells.lt x h).1)
  have hs5 : B2 ≤ w5.heap.size := Nat.le_trans (Nat.le_trans hA.size hs4) hg5.size
  have hs6 : B2 ≤ (w5.alloc row).heap.size := by simp; omega
  refine ⟨?_, ?_, ?_, ?_, Nat.le_trans hs6 hg6.size⟩
  · rw [ht, allM_snoc]
    refine (ho5.alloc row).kept hg6 ?_
    cases e : v'.ownBlock with
    | none => exact .inl rfl
    | some x =>
      refine .inr fun h => ?_
      have := hge x h.symm
      have := hv x e
      omega
  · rw [ht, allV_snoc, List.flatMap_append]
    exact h6
  · refine Dm.grown (Dm.below (Dm.grown (Dm.below hA.map (bal _ _)) hg5 hvM.symm) (bal _ _)) hg6 fun h => ?_
    have := hge M h.symm
    omega
  · exact (hb5.alloc (Nat.le_trans hB hs5) row).grown hg6 (Nat.le_trans hB hs6) (fun x h => Nat.le_trans hB (hge x h))
end

set_option maxHeartbeats 4000000 in
theorem All_any (v lv : Value) (m : List Int) (l : List Dd) (w : World) (h : Cells w v m) (hl : Dds w lv l) (hbig : m.length * 8 ≤ 140737488351232) (hbl : l.length * 8 ≤ 140737488355328) :
    Calls Try.prog 30 #[v, lv] w fun e w' => ∃ v' h', e = .returned (.tuple #[v', h', .int .i64 (allN m l : Nat)]) ∧ OwnC w.heap.size w' v' (allM m l) ∧ OwnC w.heap.size w' h' (allV m l) ∧ Below w.heap.size w w' := by
  have HC := hide h
  have HL := hide hl
  have hl' := hl
  obtain ⟨A, c, rfl, h1, h2, -⟩ := hl'
  unfold maxLen at h2
  clear h hl
  go_enter Try.func30, Try.ntmps30
  go_wp2_with fail
  (with_reducible refine (Clone_cells _ m _ HC.out hbig).mono ?_)
  rintro e w2 ⟨v', rfl, hown, hb2⟩
  obtain ⟨A', c', rfl, hc1, hc2⟩ := own_form hown
  have HO := hide hown
  clear hown
  go_wp2_with fail
  (with_reducible refine (deeds_any _).mono ?_)
  rintro e w3 ⟨rfl, hD3, hb3⟩
  have hs3 := hD3.lt
  have hvl : ∀ x, (Value.slice A' m.length c').ownBlock = some x → x < w2.heap.size := fun x h => (HO.out.lt x h).2
  have HV := hide (show ∀ x, (Value.slice A' m.length c').ownBlock = some x → x < w3.heap.size from fun x h => Nat.lt_trans (hvl x h) hs3)
  have HVM := hide (show (Value.slice A' m.length c').ownBlock ≠ some w2.heap.size from fun h => Nat.lt_irrefl _ (hvl _ h))
  have hB23 : w.heap.size ≤ w3.heap.size := Nat.le_trans hb2.size hb3.size
  have HD := hide hD3
  obtain ⟨i0, hi, hz0, hz1, hz2⟩ := info_parts infoU
  unfold maxLen at hc2
  clear hD3 hvl
  go_wp2
  go_loopw [9, 10, 20] (fun hd n i wr => ∃ k : Nat, k ≤ l.length ∧ i = .int .i64 k ∧ n = .int .i64 (allN m (l.take k) : Nat) ∧ Hid (AllAt w.heap.size w3.heap.size w2.heap.size w (.slice A' m.length c') m l k hd wr)) (fun _ _ i _ => l.length - (Go.RowKit.intOf i).toNat)
  case atStart =>
    exact ⟨0, Nat.zero_le _, rfl, rfl, hide ⟨own_below HO.out hb3, World.ownsRow_nil _ _ _ _, HD.out, hb2.trans (hb3.mono hb2.size), Nat.le_refl _⟩⟩
  case round =>
    obtain ⟨k, hk, rfl, rfl, HA⟩ := hrel
    have hlen := allM_len (l.take k) m
    have hnl := allN_le (l.take k) m
    have hnk : (l.take k).length ≤ k := List.length_take_le _ _
    by_cases hlt : k < l.length
    · obtain ⟨kk, t, a, b, ho⟩ : ∃ kk t a b, l[k] = ⟨kk, t, a, b⟩ := ⟨l[k].k, l[k].t, l[k].a, l[k].b, rfl⟩
      have hHL := HL.out.below ((HA.out.below))
      obtain ⟨g, off, rfl, hg, d0, d1, d2, d3⟩ := dd_at hHL hlt ho
      have ho' : l[k]? = some ⟨kk, t, a, b⟩ := by rw [List.getElem?_eq_getElem hlt, ho]
      have HNX := hide (fun (w5 w6 : World) (h'' : Value) (bx row : Obj) => HA.out.next (w5 := w5) (w6 := w6) (h'' := h'') (bx := bx) (row := row) HV.out hs3 HVM.out hB23 ho')
      have HN := hide (show allN m (l.take (k + 1)) = allN m (l.take k) + (if okF (allM m (l.take k)) ⟨kk, t, a, b⟩ then 1 else 0) by rw [List.take_succ_eq_append_getElem hlt, ho, allN_snoc])
      have HH5 := hide (fun (w5 : World) (bx : Obj) => HA.out.had5 (w5 := w5) (bx := bx) HV.out)
      have hss := HA.out.size
      have hrs := HA.out.below.size
      have HCC := HA.out.cells
      have HMM := hide HA.out.map
      clear ho hHL ho'
      obtain ⟨cur, hcur⟩ : ∃ cur, allM m (l.take k) = cur := ⟨_, rfl⟩
      obtain ⟨N, hN⟩ : ∃ N, allN m (l.take k) = N := ⟨_, rfl⟩
      rw [hcur] at HNX HN hlen HCC
      rw [hN] at HN hnl
      rw [hN]
      have HOC := hide (show OwnC w.heap.size wr (.slice A' m.length c') cur by
        show wr.ownsRow _ _ 1 _ cur.length _
        rw [hlen]; exact HCC)
      have hlen := hide hlen
      clear HCC hcur hN
      go_wp2_with fail
      (with_reducible refine (turn_any _ cur _ kk t a b _ w.heap.size (HOC.out.alloc _) (HMM.out.below (bal _ _))).mono ?_)
      rintro e w5 ⟨rfl, ho5, hg5⟩
      rw [hlen.out] at ho5
      have HNX := hide (fun (w6 : World) (h'' : Value) (row : Obj) => HNX.out w5 w6 h'' _ row ho5 hg5)
      have HH5 := hide (HH5.out w5 _ hg5)
      have hs5 := hg5.size
      simp at hs5
      clear ho5 hg5
      obtain ⟨x, hx⟩ : ∃ x, vF cur ⟨kk, t, a, b⟩ = x := ⟨_, rfl⟩
      obtain ⟨d, hd⟩ : ∃ d, okF cur ⟨kk, t, a, b⟩ = d := ⟨_, rfl⟩
      rw [hx] at HNX
      rw [hd] at HN
      rw [hx, hd]
      clear hx hd
      cases d
      · go_wp2_with (at_builtin; refine wpList_append_own _ rfl _ _ 22 rfl w3.heap.size 24 i0 (.int .u64 0) 1 8 Try.underlying22 hi hz0 hz1 hz2 rfl (by decide) _ _ _ rfl (HH5.out.alloc _) ⟨_, 0, none⟩ 1 1 [.int .u64 x] rfl rfl (row_at _ _ _ (by simp)) (by simp [Value.oneCell']) (by simp only [maxLen]; omega) (by omega) (by simp; omega) ?_; intro h'' w6 hown' hgrow _)
        go_roundw
        case rel => exact ⟨k + 1, by omega, by go_num, by rw [HN.out]; simp, hide (HNX.out _ _ _ hown' hgrow)⟩
        case measure => simp [Go.RowKit.intOf]; omega
      · go_wp2_with (at_builtin; refine wpList_append_own _ rfl _ _ 22 rfl w3.heap.size 24 i0 (.int .u64 0) 1 8 Try.underlying22 hi hz0 hz1 hz2 rfl (by decide) _ _ _ rfl (HH5.out.alloc _) ⟨_, 0, none⟩ 1 1 [.int .u64 x] rfl rfl (row_at _ _ _ (by simp)) (by simp [Value.oneCell']) (by simp only [maxLen]; omega) (by omega) (by simp; omega) ?_; intro h'' w6 hown' hgrow _)
        go_roundw
        case rel => exact ⟨k + 1, by omega, by go_num, by rw [HN.out]; go_num, hide (HNX.out _ _ _ hown' hgrow)⟩
        case measure => simp [Go.RowKit.intOf]; omega
    · go_wp2
      go_ret3
      have e : l.take k = l := List.take_of_length_le (by omega)
      have hA := HA.out
      have hkk : k = l.length := by omega
      rw [e]
      refine ⟨_, _, rfl, ?_, ?_, hA.below⟩
      · have := hA.cells
        rw [e] at this
        show wr.ownsRow _ _ 1 _ (allM m l).length _
        rw [allM_len]; exact this
      · have := own_base hA.had hB23
        rw [e, hkk] at this
        show wr.ownsRow _ _ 1 _ (allV m l).length _
        rw [allV_len]; exact this
end Go.Proofs.Ytpffknlbffnafaa
