/- Layer mem: the document's own answer: a deed as the document's, All. -/
import Derived.Test.YtncflfpmdcjmcaaRefMem
namespace Go.Proofs.Ytncflfpmdcjmcaa
open Go.RowKit

theorem refOp_any (k t a b : Int) (w : World) : Calls Try.prog 12 #[ov k t a b] w fun e w' => e = .returned (ov k t a b) ∧ Below w.heap.size w w' := by
  go_enter Try.func12, Try.ntmps12
  go_wp2
  refine bodyPost_ret (v := ov k t a b) (by simp [results, Try.results12, go_sem]) rfl ⟨rfl, ?_⟩
  exact (bal _ _).alloc (by simp) _

theorem cells_grown {w w' : World} {row : Option Nat} {v : Value} {l : List Int} (h : Cells w v l) (hg : w.grownBy w' row) (hr : 0 < l.length → ∀ x, v.ownBlock = some x → row ≠ some x) : Cells w' v l := by
  obtain ⟨A, c, rfl, h1, h2, h3⟩ := h
  refine ⟨A, c, rfl, h1, h2, fun hl => ?_⟩
  obtain ⟨b, off, rfl, hb, hc⟩ := h3 hl
  refine ⟨b, off, rfl, Nat.lt_of_lt_of_le hb hg.size, fun i p hp j u hu => ?_⟩
  have hk : w'.heap[b]? = w.heap[b]? := hg.block b hb fun e => hr hl b rfl e.symm
  rw [World.cell?_of_block (w := w) hk]
  exact hc i p hp j u hu
theorem cells_lt {w : World} {v : Value} {l : List Int} (h : Cells w v l) (hl : 0 < l.length) : ∀ x, v.ownBlock = some x → x < w.heap.size := by
  obtain ⟨A, c, rfl, h1, h2, h3⟩ := h
  obtain ⟨b, off, rfl, hb, hc⟩ := h3 hl
  intro x hx
  simp only [Value.ownBlock, Option.some.injEq] at hx
  omega

/-- what stays as the loop goes round -/
structure RAt (B : Nat) (w0 : World) (m : List Int) (l : List Dd) (k : Nat) (mv h : Value) (wr : World) : Prop where
  cells : Cells wr mv (allM m (l.take k))
  had : wr.ownsRow B 24 1 h k ((allV m (l.take k)).flatMap uc)
  apart : 0 < m.length → ∀ x, mv.ownBlock = some x → h.ownBlock ≠ some x
  below : Below B w0 wr
  size : B ≤ wr.heap.size
theorem RAt.next {B k g cap : Nat} {w0 wr w5 w6 : World} {mv v' hd : Value} {m : List Int} {l : List Dd} {o : Dd} {row : Obj} (hA : RAt B w0 m l k mv hd wr) (ho : l[k]? = some o)
    (hc : Cells w5 v' (mF (allM m (l.take k)) o)) (hv : v' = mv ∨ ∀ x, v'.ownBlock = some x → wr.heap.size ≤ x) (hb : Below wr.heap.size wr w5)
    (h6 : w6.ownsRow B 24 1 (.slice (some ⟨g, 0, none⟩) (k + 1) cap) (k + 1) ((allV m (l.take k)).flatMap uc ++ [.int .u64 (vF (allM m (l.take k)) o)])) (hg : (w5.alloc row).grownBy w6 hd.ownBlock)
    (hat : hd.ownBlock = some g ∨ g = (w5.alloc row).heap.size) : RAt B w0 m l (k + 1) v' (.slice (some ⟨g, 0, none⟩) (k + 1) cap) w6 := by
  have hk : k < l.length := (List.getElem?_eq_some_iff.1 ho).1
  have ht : l.take (k + 1) = l.take k ++ [o] := by
    rw [List.take_succ_eq_append_getElem hk]
    rw [List.getElem?_eq_getElem hk] at ho
    injection ho with ho
    rw [ho]
  have hlen : (mF (allM m (l.take k)) o).length = m.length := by rw [mF_len, allM_len]
  have hdl : ∀ x, hd.ownBlock = some x → B ≤ x ∧ x < wr.heap.size := fun x h => hA.had.lt x h
  have hne : 0 < m.length → ∀ x, v'.ownBlock = some x → hd.ownBlock ≠ some x := fun h0 x hx e => by
    rcases hv with rfl | hv
    · exact hA.apart h0 x hx e
    · have := hv x hx
      have := (hdl x e).2
      omega
  have hs5 := hb.size
  have hs6 := hg.size
  have hss := hA.size
  have hsz : (w5.alloc row).heap.size = w5.heap.size + 1 := by simp
  refine ⟨?_, ?_, fun h0 x hx e => ?_, ?_, by omega⟩
  · rw [ht, allM_snoc]
    exact cells_grown (hc.alloc row) hg (fun h0 => by rw [hlen] at h0; exact hne h0)
  · rw [ht, allV_snoc, List.flatMap_append]
    exact h6
  · simp only [Value.ownBlock, Option.some.injEq] at e
    subst e
    rcases hat with h1 | h1
    · exact hne h0 _ hx h1
    · have := cells_lt hc (by rw [hlen]; exact h0) _ hx
      omega
  · exact ((hA.below.trans (hb.mono hss)).alloc (by omega) row).grown hg (by omega) (fun x h => (hdl x h).1)

set_option maxHeartbeats 4000000 in
theorem rAll_any (v lv : Value) (m : List Int) (l : List Dd) (w : World) (h : Cells w v m) (hl : Dds w lv l) (hbig : m.length * 8 ≤ 140737488351232) (hbl : l.length * 8 ≤ 140737488355328) :
    Calls Try.prog 14 #[v, lv] w fun e w' => ∃ v' h', e = .returned (.tuple #[v', h', .int .i64 (allN m l : Nat)]) ∧ Cells w' v' (allM m l) ∧ OwnC w.heap.size w' h' (allV m l) ∧ Below w.heap.size w w' := by
  have HC := hide h
  have HL := hide hl
  have hl' := hl
  obtain ⟨A, c, rfl, h1, h2, -⟩ := hl'
  unfold maxLen at h2
  obtain ⟨i0, hi, hz0, hz1, hz2⟩ := info_parts infoU
  clear h hl
  go_enter Try.func14, Try.ntmps14
  go_wp2
  go_loopw [0, 7, 8, 9] (fun mv hd n i wr => ∃ k : Nat, k ≤ l.length ∧ i = .int .i64 k ∧ n = .int .i64 (allN m (l.take k) : Nat) ∧ Hid (RAt w.heap.size w m l k mv hd wr)) (fun _ _ _ i _ => l.length - (Go.RowKit.intOf i).toNat)
  case atStart =>
    exact ⟨0, Nat.zero_le _, rfl, rfl, hide ⟨HC.out, World.ownsRow_nil _ _ _ _, fun _ _ _ e => by simp [Value.ownBlock] at e, Below.refl _ _, Nat.le_refl _⟩⟩
  case round =>
    obtain ⟨k, hk, rfl, rfl, HA⟩ := hrel
    have hlen := allM_len (l.take k) m
    have hnl := allN_le (l.take k) m
    have hnk : (l.take k).length ≤ k := List.length_take_le _ _
    by_cases hlt : k < l.length
    · obtain ⟨kk, t, a, b, ho⟩ : ∃ kk t a b, l[k] = ⟨kk, t, a, b⟩ := ⟨l[k].k, l[k].t, l[k].a, l[k].b, rfl⟩
      obtain ⟨g, off, rfl, hg, d0, d1, d2, d3⟩ := dd_at (HL.out.below HA.out.below) hlt ho
      have ho' : l[k]? = some ⟨kk, t, a, b⟩ := by rw [List.getElem?_eq_getElem hlt, ho]
      have HNX := hide (fun (w5 w6 : World) (v' : Value) (row : Obj) (g cap : Nat) => HA.out.next (w5 := w5) (w6 := w6) (v' := v') (row := row) (g := g) (cap := cap) ho')
      have HN := hide (show allN m (l.take (k + 1)) = allN m (l.take k) + (if okF (allM m (l.take k)) ⟨kk, t, a, b⟩ then 1 else 0) by rw [List.take_succ_eq_append_getElem hlt, ho, allN_snoc])
      have hss := HA.out.size
      have HCC := hide HA.out.cells
      have HHD := hide HA.out.had
      clear ho ho'
      obtain ⟨cur, hcur⟩ : ∃ cur, allM m (l.take k) = cur := ⟨_, rfl⟩
      obtain ⟨N, hN⟩ : ∃ N, allN m (l.take k) = N := ⟨_, rfl⟩
      rw [hcur] at HNX HN hlen HCC
      rw [hN] at HN hnl
      rw [hN]
      have hlen := hide hlen
      clear hcur hN
      go_wp2_with fail
      (with_reducible refine (rDo_any _ cur kk t a b _ HCC.out (by rw [hlen.out]; exact hbig)).mono ?_)
      rintro e w5 ⟨v', rfl, hc5, hv5, hb5⟩
      have HNX := hide (fun (w6 : World) (row : Obj) (g cap : Nat) => HNX.out w5 w6 v' row g cap hc5 hv5 hb5)
      have HH5 := hide (own_below HHD.out hb5)
      have hs5 := hb5.size
      clear hc5 hv5 hb5
      obtain ⟨x, hx⟩ : ∃ x, vF cur ⟨kk, t, a, b⟩ = x := ⟨_, rfl⟩
      obtain ⟨d, hd'⟩ : ∃ d, okF cur ⟨kk, t, a, b⟩ = d := ⟨_, rfl⟩
      rw [hx] at HNX
      rw [hd'] at HN
      rw [hx, hd']
      clear hx hd'
      cases d
      · go_wp2_with (at_builtin; refine wpList_append_lies _ rfl _ _ 22 rfl w.heap.size 24 i0 (.int .u64 0) 1 8 Try.underlying22 hi hz0 hz1 hz2 rfl (by decide) _ _ _ rfl (HH5.out.alloc _) ⟨_, 0, none⟩ 1 1 [.int .u64 x] rfl rfl (row_at _ _ _ (by simp)) (by simp [Value.oneCell']) (by decide) (by simp only [maxLen]; omega) (by omega) (by simp; omega) _ rfl ?_; intro g6 cap6 w6 hown6 hgrow6 hat6 hlt6)
        go_roundw
        case rel => exact ⟨k + 1, by omega, by go_num, by rw [HN.out]; simp, hide (HNX.out _ _ _ _ hown6 hgrow6 hat6)⟩
        case measure => simp [Go.RowKit.intOf]; omega
      · go_wp2_with (at_builtin; refine wpList_append_lies _ rfl _ _ 22 rfl w.heap.size 24 i0 (.int .u64 0) 1 8 Try.underlying22 hi hz0 hz1 hz2 rfl (by decide) _ _ _ rfl (HH5.out.alloc _) ⟨_, 0, none⟩ 1 1 [.int .u64 x] rfl rfl (row_at _ _ _ (by simp)) (by simp [Value.oneCell']) (by decide) (by simp only [maxLen]; omega) (by omega) (by simp; omega) _ rfl ?_; intro g6 cap6 w6 hown6 hgrow6 hat6 hlt6)
        go_roundw
        case rel => exact ⟨k + 1, by omega, by go_num, by rw [HN.out]; go_num, hide (HNX.out _ _ _ _ hown6 hgrow6 hat6)⟩
        case measure => simp [Go.RowKit.intOf]; omega
    · go_wp2
      go_ret3
      have e : l.take k = l := List.take_of_length_le (by omega)
      have hA := HA.out
      have hkk : k = l.length := by omega
      rw [e]
      refine ⟨_, _, rfl, ?_, ?_, hA.below⟩
      · have := hA.cells
        rwa [e] at this
      · have := hA.had
        rw [e, hkk] at this
        show wr.ownsRow _ _ 1 _ (allV m l).length _
        rw [allV_len]; exact this
end Go.Proofs.Ytncflfpmdcjmcaa
