import Derived.Deep.RegionHeldLaw
import Derived.Deep.RegionLaw
import Derived.Deep.Cut
import Derived.Test.YtjnokhaojpijhaaGreatDoorPbg
import Derived.Test.YtjnokhaojpijhaaGreatDoorPac
import Derived.Test.YtjnokhaojpijhaaGreatDoorPab
import Derived.Test.YtjnokhaojpijhaaGreatDoorPab
/- Layer plan: what lays a mutator's line into a plan. Written by tools/genplanr3.py. -/
namespace Go.Proofs.YtjnokhaojpijhaaGreatDoor
open Go.RowKit Go.Shelf Go.Proofs Go.Joins
theorem infoRw : (Tryz.prog.info? 63).map (fun i => (i.zero, i.size, i.bytes)) = some (some (.slice none 0 0), 1, 24) := by kernel_rfl
theorem infoRo : (Tryz.prog.info? 97).map (fun i => (i.zero, i.size, i.bytes)) = some (some (.slice none 0 0), 1, 24) := by kernel_rfl
/-- where a mutator's line is being laid: the plan's box as it was, its two rows of rows -/
structure MuAt (B : Nat) (W X : World) (rg pg : Value) (vr vp : List Value) : Prop where
  bw : Below B W X
  blk : X.heap[B]? = W.heap[B]?
  sz : B < X.heap.size
  rg : X.ownsRow (B + 1) 63 1 rg vr.length vr
  pg : X.ownsRow (B + 1) 97 1 pg vp.length vp
section
variable {B : Nat} {W X X' : World} {rg pg rg' pg' u : Value} {vr vp : List Value}
theorem MuAt.alloc (h : MuAt B W X rg pg vr vp) (o : Obj) : MuAt B W (X.alloc o) rg pg vr vp :=
  ⟨h.bw.alloc (by have := h.sz; omega) _, (((balHp X o)).block _ h.sz).trans h.blk, by have := h.sz; rw [World.size_alloc]; omega, h.rg.alloc _, h.pg.alloc _⟩
theorem MuAt.drew (h : MuAt B W X rg pg vr vp) : MuAt B W X.drew rg pg vr vp := ⟨belowD h.bw, h.blk, h.sz, h.rg, h.pg⟩
theorem own_apart {b1 b2 : Nat} {t1 t2 : TypeId} {s1 s2 n1 n2 : Nat} {v1 v2 : Value} {x1 x2 : List Value} (h1 : X.ownsRow b1 t1 s1 v1 n1 x1) (h2 : X.ownsRow b2 t2 s2 v2 n2 x2) (hne : t1 ≠ t2) : v1.ownBlock ≠ v2.ownBlock ∨ v1.ownBlock = none := by
  rcases h2.2 with ⟨rfl, _⟩ | ⟨g, cap, cur, rfl, _, hg, _⟩
  · cases e : v1.ownBlock with
    | none => exact .inr rfl
    | some k => exact .inl (by simp [Value.ownBlock])
  · exact .inl (own_type h1 hg hne)
theorem MuAt.appR (h : MuAt B W X rg pg vr vp) (ho : X'.ownsRow (B + 1) 63 1 rg' (vr.length + 1) (vr ++ [u])) (hg : X.grownBy X' rg.ownBlock) : MuAt B W X' rg' pg (vr ++ [u]) vp := by
  have hge := own_ge h.rg
  have hB : some B ≠ rg.ownBlock := fun e => by have := hge B e.symm; omega
  refine ⟨h.bw.grown hg (Nat.le_of_lt h.sz) (fun k hk => by have := hge k hk; omega), (hg.block B h.sz hB).trans h.blk, Nat.lt_of_lt_of_le h.sz hg.size, by rw [List.length_append]; exact ho, h.pg.kept hg ?_⟩
  rcases own_apart h.pg h.rg (by decide) with e | e
  · exact .inr e
  · exact .inl e
theorem MuAt.appP (h : MuAt B W X rg pg vr vp) (ho : X'.ownsRow (B + 1) 97 1 pg' (vp.length + 1) (vp ++ [u])) (hg : X.grownBy X' pg.ownBlock) : MuAt B W X' rg pg' vr (vp ++ [u]) := by
  have hge := own_ge h.pg
  have hB : some B ≠ pg.ownBlock := fun e => by have := hge B e.symm; omega
  refine ⟨h.bw.grown hg (Nat.le_of_lt h.sz) (fun k hk => by have := hge k hk; omega), (hg.block B h.sz hB).trans h.blk, Nat.lt_of_lt_of_le h.sz hg.size, h.rg.kept hg ?_, by rw [List.length_append]; exact ho⟩
  rcases own_apart h.rg h.pg (by decide) with e | e
  · exact .inr e
  · exact .inl e
theorem lit_grown {l : Nat} {row : Option Nat} (h : X.cell? ⟨l, 0, none⟩ = some u) (hg : X.grownBy X' row) (hr : row ≠ some l) : X'.cell? ⟨l, 0, none⟩ = some u := by
  rw [show X'.cell? ⟨l, 0, none⟩ = X.cell? ⟨l, 0, none⟩ from ?_]; exact h
  have hlt := World.block_lt_of_cell? X _ h
  have := hg.block l hlt (fun e => hr e.symm)
  unfold World.cell?
  simp only [this]
theorem lit_news {l : Nat} (h : X.cell? ⟨l, 0, none⟩ = some u) : ∀ j v, [u][j]? = some v → X.cell? ((⟨l, 0, none⟩ : Addr).add j) = some v := by
  intro j v hj
  cases j with
  | zero => simp at hj; subst hj; rw [add_none]; exact h
  | succ j => simp at hj
end
theorem mu_free {B : Nat} {W X : World} {rg pg : Value} {vr vp : List Value} (h : MuAt B W X rg pg vr vp) (hf : ∀ i, W.frozen? ⟨B, i, none⟩ = false) (i : Nat) : X.frozen? ⟨B, i, none⟩ = false := by
  rw [← hf i]; unfold World.frozen?; simp only [h.blk]
theorem mu_cells {B C1 C2 : Nat} {W X : World} {rg pg u1 u2 v11 v12 : Value} {vr vp : List Value} (h : MuAt B W X rg pg vr vp) (h1 : C1 < B) (h2 : C2 < B) (c1 : W.cell? ⟨C1, 0, none⟩ = some u1) (c2 : W.cell? ⟨C2, 0, none⟩ = some u2) (z1 : W.cell? ⟨B, 11, none⟩ = some v11) (z2 : W.cell? ⟨B, 12, none⟩ = some v12) :
    X.cell? ⟨C1, 0, none⟩ = some u1 ∧ X.cell? ⟨C2, 0, none⟩ = some u2 ∧ X.cell? ⟨B, 11, none⟩ = some v11 ∧ X.cell? ⟨B, 12, none⟩ = some v12 := by
  have kb : ∀ i, X.cell? ⟨B, i, none⟩ = W.cell? ⟨B, i, none⟩ := fun i => by unfold World.cell?; simp only [h.blk]
  exact ⟨(h.bw.cell (p := ⟨C1, 0, none⟩) h1).trans c1, (h.bw.cell (p := ⟨C2, 0, none⟩) h2).trans c2, (kb 11).trans z1, (kb 12).trans z2⟩
set_option maxRecDepth 100000 in
set_option maxHeartbeats 16000000 in
theorem mut_walk (B C1 C2 : Nat) (W : World) (A1 A2 Ar Ap : Option Addr) (N1 c1 N2 c2 Nr cr Np cp : Nat) (vr vp : List Value) (hM : MuAt B W W (.slice Ar Nr cr) (.slice Ap Np cp) vr vp) (hNr : vr.length = Nr) (hNp : vp.length = Np) (h1 : C1 < B) (h2 : C2 < B) (k1 : W.cell? ⟨C1, 0, none⟩ = some (.slice A1 N1 c1)) (k2 : W.cell? ⟨C2, 0, none⟩ = some (.slice A2 N2 c2))
  (z1 : W.cell? ⟨B, 11, none⟩ = some (.slice Ar Nr cr)) (z2 : W.cell? ⟨B, 12, none⟩ = some (.slice Ap Np cp)) (hf : ∀ i, W.frozen? ⟨B, i, none⟩ = false) (hr : vr.length ≤ 2000000) (hp : vp.length ≤ 2000000) :
    Calls Tryz.prog 135 #[.pointer (some ⟨B, 0, none⟩), .pointer (some ⟨C1, 0, none⟩), .pointer (some ⟨C2, 0, none⟩)] W fun e w' => e = .returned (.tuple #[]) ∧ ∃ X rg' pg', MuAt B W X rg' pg' (vr ++ [.slice A1 N1 c1]) (vp ++ [.slice A2 N2 c2]) ∧ w' = (X.setCell ⟨B, 11, none⟩ rg').setCell ⟨B, 12, none⟩ pg' := by
  obtain ⟨i0, hi, hz0, hz1, hz2⟩ := info_parts infoRw
  obtain ⟨j0, hj, hy0, hy1, hy2⟩ := info_parts infoRo
  have HM := hide hM.drew
  have K1 := hide k1
  have K2 := hide k2
  have Z1 := hide z1
  have Z2 := hide z2
  have HF := hide hf
  have HNR := hide hNr
  have HNP := hide hNp
  clear hM k1 k2 z1 z2 hf hNr hNp
  go_enter Tryz.func135, Tryz.ntmps135
  go_wp2
  refine wp_region_B [18, 21] (S := fun w' => w'.cell? ⟨C1, 0, none⟩ = some (.slice A1 N1 c1) ∧ w'.cell? ⟨C2, 0, none⟩ = some (.slice A2 N2 c2) ∧ w'.cell? ⟨B, 11, none⟩ = some (.slice Ar Nr cr) ∧ w'.cell? ⟨B, 12, none⟩ = some (.slice Ap Np cp)) (by kernel_rfl) ?_ (fun hHeld => ?_)
  · exact (mu_cells HM.out h1 h2 K1.out K2.out Z1.out Z2.out)
  obtain ⟨D, hD⟩ : ∃ D, W.drew = D := ⟨_, rfl⟩
  rw [hD] at hHeld HM ⊢
  clear hD
  refine tkP 0 ⟨some 4, .move (.tmp 0), 136, "reader.go:100", #[], none⟩ (h := ?_)
  refine tkP 1 ⟨some 5, .move (.tmp 0), 136, "reader.go:100", #[⟨18, .gcOnly .lateStores⟩], none⟩ (h := ?_)
  refine tkP 2 ⟨some 6, .move (.tmp 0), 136, "reader.go:100", #[], none⟩ (h := ?_)
  refine tkP 3 ⟨some 7, .nilCheck (.tmp 6), 0, "reader.go:100", #[⟨2, .data⟩], none⟩ (h := ?_)
  refine tkP 4 ⟨some 8, .fieldAddr 30 (.tmp 7) 10, 0, "reader.go:100", #[⟨3, .data⟩], none⟩ (h := ?_)
  refine tkB 5 ⟨some 9, .load 22 (.tmp 8), 22, "reader.go:100", #[⟨4, .data⟩], none⟩ (h := ?_)
  refine tkB 6 ⟨some 10, .load 63 (.tmp 1), 63, "reader.go:100", #[], none⟩ (h := ?_)
  refine tkP 9 ⟨some 13, .move (.tmp 0), 136, "reader.go:100", #[], none⟩ (h := ?_)
  refine tkP 10 ⟨some 14, .nilCheck (.tmp 13), 0, "reader.go:100", #[⟨9, .data⟩], none⟩ (h := ?_)
  refine tkP 11 ⟨some 15, .fieldAddr 30 (.tmp 14) 11, 0, "reader.go:100", #[⟨10, .data⟩], none⟩ (h := ?_)
  refine tkB 12 ⟨some 16, .load 27 (.tmp 15), 27, "reader.go:100", #[⟨11, .data⟩], none⟩ (h := ?_)
  refine tkB 13 ⟨some 17, .load 97 (.tmp 2), 97, "reader.go:100", #[], none⟩ (h := ?_)
  refine wpAnyB_ready (rs := [7, 14]) (by kernel_rfl) (by simp) ?_
  refine AllReadyB.cons rfl (fun K hK => ?_) (AllReadyB.cons rfl (fun K hK => ?_) AllReadyB.nil)
  · skip
    go_simp
    obtain ⟨X1, eX1⟩ : ∃ Z, D.alloc (.cells #[.slice A1 N1 c1] 63) = Z := ⟨_, rfl⟩
    rw [eX1]
    have HM1 := hide (show MuAt B W X1 (.slice Ar Nr cr) (.slice Ap Np cp) vr vp by rw [← eX1]; exact HM.out.alloc _)
    have LL1_1 := hide (show X1.cell? ⟨D.heap.size, 0, none⟩ = some (.slice A1 N1 c1) by rw [← eX1]; exact row_new D [.slice A1 N1 c1] 63 0 _ rfl)
    (try go_simp)
    refine hK.out _ _ (mu_cells HM1.out h1 h2 K1.out K2.out Z1.out Z2.out) (fun hHeld => ?_)
    (try simp only [Act.put, List.setIfInBounds_toArray, List.set_cons_zero, List.set_cons_succ])
    refine wpAnyB_ready (rs := [8, 14]) (by kernel_rfl) (by simp) ?_
    refine AllReadyB.cons rfl (fun K hK => ?_) (AllReadyB.cons rfl (fun K hK => ?_) AllReadyB.nil)
    · skip
      refine step_append_own_g (by rfl) _ _ 22 (by rfl) (B + 1) 63 i0 (.slice none 0 0) 1 24 Tryz.underlying22 hi hz0 hz1 hz2 rfl (by decide) (.slice Ar Nr cr) vr.length vr (by go_simp) HM1.out.rg ⟨D.heap.size, 0, none⟩ 1 1 [.slice A1 N1 c1] (by go_simp) rfl (lit_news LL1_1.out) (by simp [Value.oneCell']) (by simp only [maxLen]; omega) (by omega) (by have := HM1.out.sz; omega) ?_
      intro rv2 X2 ho2 hg2
      obtain ⟨gg2, cc2, rfl⟩ := ownsRow_succ ho2
      have HM2 := hide (HM1.out.appR ho2 hg2)
      clear ho2 hg2
      (try go_simp)
      refine hK.out _ _ (mu_cells HM2.out h1 h2 K1.out K2.out Z1.out Z2.out) (fun hHeld => ?_)
      (try simp only [Act.put, List.setIfInBounds_toArray, List.set_cons_zero, List.set_cons_succ])
      refine wpAnyB_ready (rs := [14]) (by kernel_rfl) (by simp) ?_
      refine AllReadyB.cons rfl (fun K hK => ?_) AllReadyB.nil
      go_simp
      obtain ⟨X3, eX3⟩ : ∃ Z, X2.alloc (.cells #[.slice A2 N2 c2] 97) = Z := ⟨_, rfl⟩
      rw [eX3]
      have HM3 := hide (show MuAt B W X3 (.slice (some ⟨gg2, 0, none⟩) (vr.length + 1) cc2) (.slice Ap Np cp) (vr ++ [.slice A1 N1 c1]) vp by rw [← eX3]; exact HM2.out.alloc _)
      have LL2_3 := hide (show X3.cell? ⟨X2.heap.size, 0, none⟩ = some (.slice A2 N2 c2) by rw [← eX3]; exact row_new X2 [.slice A2 N2 c2] 97 0 _ rfl)
      (try go_simp)
      refine hK.out _ _ (mu_cells HM3.out h1 h2 K1.out K2.out Z1.out Z2.out) (fun hHeld => ?_)
      (try simp only [Act.put, List.setIfInBounds_toArray, List.set_cons_zero, List.set_cons_succ])
      refine wpAnyB_ready (rs := [15]) (by kernel_rfl) (by simp) ?_
      refine AllReadyB.cons rfl (fun K hK => ?_) AllReadyB.nil
      refine step_append_own_g (by rfl) _ _ 27 (by rfl) (B + 1) 97 j0 (.slice none 0 0) 1 24 Tryz.underlying27 hj hy0 hy1 hy2 rfl (by decide) (.slice Ap Np cp) vp.length vp (by go_simp) HM3.out.pg ⟨X2.heap.size, 0, none⟩ 1 1 [.slice A2 N2 c2] (by go_simp) rfl (lit_news LL2_3.out) (by simp [Value.oneCell']) (by simp only [maxLen]; omega) (by omega) (by have := HM3.out.sz; omega) ?_
      intro rv4 X4 ho4 hg4
      obtain ⟨gg4, cc4, rfl⟩ := ownsRow_succ ho4
      have HM4 := hide (HM3.out.appP ho4 hg4)
      clear ho4 hg4
      (try go_simp)
      refine hK.out _ _ (mu_cells HM4.out h1 h2 K1.out K2.out Z1.out Z2.out) (fun hHeld => ?_)
      (try simp only [Act.put, List.setIfInBounds_toArray, List.set_cons_zero, List.set_cons_succ])
      refine tkP 16 ⟨some 20, .nilCheck (.tmp 4), 0, "reader.go:100", #[⟨0, .data⟩, ⟨0, .phase⟩, ⟨1, .textOnly .lateStores⟩, ⟨2, .phase⟩, ⟨3, .phase⟩, ⟨4, .phase⟩, ⟨5, .phase⟩, ⟨6, .phase⟩, ⟨7, .phase⟩, ⟨8, .phase⟩, ⟨9, .textOnly .lateStores⟩, ⟨10, .textOnly .lateStoresUnsure⟩, ⟨11, .textOnly .lateStoresUnsure⟩, ⟨12, .phase⟩, ⟨13, .textOnly .inlinedCapture⟩, ⟨14, .textOnly .lateStoresUnsure⟩, ⟨15, .phase⟩], none⟩ (h := ?_)
      refine tkP 17 ⟨some 21, .fieldAddr 30 (.tmp 20) 10, 0, "reader.go:100", #[⟨16, .data⟩, ⟨0, .phase⟩, ⟨1, .textOnly .lateStores⟩, ⟨2, .phase⟩, ⟨3, .phase⟩, ⟨4, .phase⟩, ⟨5, .phase⟩, ⟨6, .phase⟩, ⟨7, .phase⟩, ⟨8, .phase⟩, ⟨9, .textOnly .lateStores⟩, ⟨10, .textOnly .lateStoresUnsure⟩, ⟨11, .textOnly .lateStoresUnsure⟩, ⟨12, .phase⟩, ⟨13, .textOnly .inlinedCapture⟩, ⟨14, .textOnly .lateStoresUnsure⟩, ⟨15, .phase⟩], none⟩ (h := ?_)
      refine wpAnyB_ready (rs := [18]) (by kernel_rfl) (by simp) ?_
      refine AllReadyB.last rfl (by kernel_rfl) (fun K hK => ?_) AllReadyB.nil
      have s11 := (mu_cells HM4.out h1 h2 K1.out K2.out Z1.out Z2.out).2.2.1
      have s12 := (mu_cells HM4.out h1 h2 K1.out K2.out Z1.out Z2.out).2.2.2
      have q11 := mu_free HM4.out HF.out 11
      have q12 := mu_free HM4.out HF.out 12
      go_simp
      (try go_simp)
      refine hK.out _ _ ?_
      (try simp only [Act.put, List.setIfInBounds_toArray, List.set_cons_zero, List.set_cons_succ])
      refine tkQ 19 ⟨some 22, .nilCheck (.tmp 5), 0, "reader.go:100", #[⟨1, .data⟩, ⟨0, .phase⟩, ⟨1, .phase⟩, ⟨2, .phase⟩, ⟨3, .phase⟩, ⟨4, .phase⟩, ⟨5, .phase⟩, ⟨6, .phase⟩, ⟨7, .phase⟩, ⟨8, .phase⟩, ⟨9, .phase⟩, ⟨10, .phase⟩, ⟨11, .phase⟩, ⟨12, .phase⟩, ⟨13, .phase⟩, ⟨14, .phase⟩, ⟨15, .phase⟩, ⟨16, .phase⟩, ⟨17, .phase⟩, ⟨18, .phase⟩], none⟩ (h := ?_)
      refine tkQ 20 ⟨some 23, .fieldAddr 30 (.tmp 22) 11, 0, "reader.go:100", #[⟨19, .data⟩, ⟨0, .phase⟩, ⟨1, .phase⟩, ⟨2, .phase⟩, ⟨3, .phase⟩, ⟨4, .phase⟩, ⟨5, .phase⟩, ⟨6, .phase⟩, ⟨7, .phase⟩, ⟨8, .phase⟩, ⟨9, .phase⟩, ⟨10, .phase⟩, ⟨11, .phase⟩, ⟨12, .phase⟩, ⟨13, .phase⟩, ⟨14, .phase⟩, ⟨15, .phase⟩, ⟨16, .phase⟩, ⟨17, .phase⟩, ⟨18, .phase⟩], none⟩ (h := ?_)
      refine wpAnyB_ready (rs := [21]) (by kernel_rfl) (by simp) ?_
      refine AllReadyB.last rfl (by kernel_rfl) (fun K hK => ?_) AllReadyB.nil
      have s11 := (mu_cells HM4.out h1 h2 K1.out K2.out Z1.out Z2.out).2.2.1
      have s12 := (mu_cells HM4.out h1 h2 K1.out K2.out Z1.out Z2.out).2.2.2
      have q11 := mu_free HM4.out HF.out 11
      have q12 := mu_free HM4.out HF.out 12
      go_simp
      (try go_simp)
      refine hK.out _ _ ?_
      (try simp only [Act.put, List.setIfInBounds_toArray, List.set_cons_zero, List.set_cons_succ])
      refine wpAnyB_done (by kernel_rfl) ?_ _
      go_wp2
      go_end0
      exact ⟨rfl, X4, _, _, HM4.out, rfl⟩
    · skip
      go_simp
      obtain ⟨X2, eX2⟩ : ∃ Z, X1.alloc (.cells #[.slice A2 N2 c2] 97) = Z := ⟨_, rfl⟩
      rw [eX2]
      have HM2 := hide (show MuAt B W X2 (.slice Ar Nr cr) (.slice Ap Np cp) vr vp by rw [← eX2]; exact HM1.out.alloc _)
      have LL2_2 := hide (show X2.cell? ⟨X1.heap.size, 0, none⟩ = some (.slice A2 N2 c2) by rw [← eX2]; exact row_new X1 [.slice A2 N2 c2] 97 0 _ rfl)
      have LK1_2 := hide (show X2.cell? ⟨D.heap.size, 0, none⟩ = some (.slice A1 N1 c1) by rw [← eX2]; exact lit_grown LL1_1.out (grown_of_below (balHp _ _) none) (by simp))
      (try go_simp)
      refine hK.out _ _ (mu_cells HM2.out h1 h2 K1.out K2.out Z1.out Z2.out) (fun hHeld => ?_)
      (try simp only [Act.put, List.setIfInBounds_toArray, List.set_cons_zero, List.set_cons_succ])
      refine wpAnyB_ready (rs := [8]) (by kernel_rfl) (by simp) ?_
      refine AllReadyB.cons rfl (fun K hK => ?_) AllReadyB.nil
      refine step_append_own_g (by rfl) _ _ 22 (by rfl) (B + 1) 63 i0 (.slice none 0 0) 1 24 Tryz.underlying22 hi hz0 hz1 hz2 rfl (by decide) (.slice Ar Nr cr) vr.length vr (by go_simp) HM2.out.rg ⟨D.heap.size, 0, none⟩ 1 1 [.slice A1 N1 c1] (by go_simp) rfl (lit_news LK1_2.out) (by simp [Value.oneCell']) (by simp only [maxLen]; omega) (by omega) (by have := HM2.out.sz; omega) ?_
      intro rv3 X3 ho3 hg3
      obtain ⟨gg3, cc3, rfl⟩ := ownsRow_succ ho3
      have HM3 := hide (HM2.out.appR ho3 hg3)
      have LK2_3 := hide (lit_grown LL2_2.out hg3 (fun e => absurd (HM.out.rg.lt _ e).2 (by first | exact Nat.lt_irrefl _ | (rw [← eX1]; simp))))
      clear ho3 hg3
      (try go_simp)
      refine hK.out _ _ (mu_cells HM3.out h1 h2 K1.out K2.out Z1.out Z2.out) (fun hHeld => ?_)
      (try simp only [Act.put, List.setIfInBounds_toArray, List.set_cons_zero, List.set_cons_succ])
      refine wpAnyB_ready (rs := [15]) (by kernel_rfl) (by simp) ?_
      refine AllReadyB.cons rfl (fun K hK => ?_) AllReadyB.nil
      refine step_append_own_g (by rfl) _ _ 27 (by rfl) (B + 1) 97 j0 (.slice none 0 0) 1 24 Tryz.underlying27 hj hy0 hy1 hy2 rfl (by decide) (.slice Ap Np cp) vp.length vp (by go_simp) HM3.out.pg ⟨X1.heap.size, 0, none⟩ 1 1 [.slice A2 N2 c2] (by go_simp) rfl (lit_news LK2_3.out) (by simp [Value.oneCell']) (by simp only [maxLen]; omega) (by omega) (by have := HM3.out.sz; omega) ?_
      intro rv4 X4 ho4 hg4
      obtain ⟨gg4, cc4, rfl⟩ := ownsRow_succ ho4
      have HM4 := hide (HM3.out.appP ho4 hg4)
      clear ho4 hg4
      (try go_simp)
      refine hK.out _ _ (mu_cells HM4.out h1 h2 K1.out K2.out Z1.out Z2.out) (fun hHeld => ?_)
      (try simp only [Act.put, List.setIfInBounds_toArray, List.set_cons_zero, List.set_cons_succ])
      refine tkP 16 ⟨some 20, .nilCheck (.tmp 4), 0, "reader.go:100", #[⟨0, .data⟩, ⟨0, .phase⟩, ⟨1, .textOnly .lateStores⟩, ⟨2, .phase⟩, ⟨3, .phase⟩, ⟨4, .phase⟩, ⟨5, .phase⟩, ⟨6, .phase⟩, ⟨7, .phase⟩, ⟨8, .phase⟩, ⟨9, .textOnly .lateStores⟩, ⟨10, .textOnly .lateStoresUnsure⟩, ⟨11, .textOnly .lateStoresUnsure⟩, ⟨12, .phase⟩, ⟨13, .textOnly .inlinedCapture⟩, ⟨14, .textOnly .lateStoresUnsure⟩, ⟨15, .phase⟩], none⟩ (h := ?_)
      refine tkP 17 ⟨some 21, .fieldAddr 30 (.tmp 20) 10, 0, "reader.go:100", #[⟨16, .data⟩, ⟨0, .phase⟩, ⟨1, .textOnly .lateStores⟩, ⟨2, .phase⟩, ⟨3, .phase⟩, ⟨4, .phase⟩, ⟨5, .phase⟩, ⟨6, .phase⟩, ⟨7, .phase⟩, ⟨8, .phase⟩, ⟨9, .textOnly .lateStores⟩, ⟨10, .textOnly .lateStoresUnsure⟩, ⟨11, .textOnly .lateStoresUnsure⟩, ⟨12, .phase⟩, ⟨13, .textOnly .inlinedCapture⟩, ⟨14, .textOnly .lateStoresUnsure⟩, ⟨15, .phase⟩], none⟩ (h := ?_)
      refine wpAnyB_ready (rs := [18]) (by kernel_rfl) (by simp) ?_
      refine AllReadyB.last rfl (by kernel_rfl) (fun K hK => ?_) AllReadyB.nil
      have s11 := (mu_cells HM4.out h1 h2 K1.out K2.out Z1.out Z2.out).2.2.1
      have s12 := (mu_cells HM4.out h1 h2 K1.out K2.out Z1.out Z2.out).2.2.2
      have q11 := mu_free HM4.out HF.out 11
      have q12 := mu_free HM4.out HF.out 12
      go_simp
      (try go_simp)
      refine hK.out _ _ ?_
      (try simp only [Act.put, List.setIfInBounds_toArray, List.set_cons_zero, List.set_cons_succ])
      refine tkQ 19 ⟨some 22, .nilCheck (.tmp 5), 0, "reader.go:100", #[⟨1, .data⟩, ⟨0, .phase⟩, ⟨1, .phase⟩, ⟨2, .phase⟩, ⟨3, .phase⟩, ⟨4, .phase⟩, ⟨5, .phase⟩, ⟨6, .phase⟩, ⟨7, .phase⟩, ⟨8, .phase⟩, ⟨9, .phase⟩, ⟨10, .phase⟩, ⟨11, .phase⟩, ⟨12, .phase⟩, ⟨13, .phase⟩, ⟨14, .phase⟩, ⟨15, .phase⟩, ⟨16, .phase⟩, ⟨17, .phase⟩, ⟨18, .phase⟩], none⟩ (h := ?_)
      refine tkQ 20 ⟨some 23, .fieldAddr 30 (.tmp 22) 11, 0, "reader.go:100", #[⟨19, .data⟩, ⟨0, .phase⟩, ⟨1, .phase⟩, ⟨2, .phase⟩, ⟨3, .phase⟩, ⟨4, .phase⟩, ⟨5, .phase⟩, ⟨6, .phase⟩, ⟨7, .phase⟩, ⟨8, .phase⟩, ⟨9, .phase⟩, ⟨10, .phase⟩, ⟨11, .phase⟩, ⟨12, .phase⟩, ⟨13, .phase⟩, ⟨14, .phase⟩, ⟨15, .phase⟩, ⟨16, .phase⟩, ⟨17, .phase⟩, ⟨18, .phase⟩], none⟩ (h := ?_)
      refine wpAnyB_ready (rs := [21]) (by kernel_rfl) (by simp) ?_
      refine AllReadyB.last rfl (by kernel_rfl) (fun K hK => ?_) AllReadyB.nil
      have s11 := (mu_cells HM4.out h1 h2 K1.out K2.out Z1.out Z2.out).2.2.1
      have s12 := (mu_cells HM4.out h1 h2 K1.out K2.out Z1.out Z2.out).2.2.2
      have q11 := mu_free HM4.out HF.out 11
      have q12 := mu_free HM4.out HF.out 12
      go_simp
      (try go_simp)
      refine hK.out _ _ ?_
      (try simp only [Act.put, List.setIfInBounds_toArray, List.set_cons_zero, List.set_cons_succ])
      refine wpAnyB_done (by kernel_rfl) ?_ _
      go_wp2
      go_end0
      exact ⟨rfl, X4, _, _, HM4.out, rfl⟩
  · skip
    go_simp
    obtain ⟨X1, eX1⟩ : ∃ Z, D.alloc (.cells #[.slice A2 N2 c2] 97) = Z := ⟨_, rfl⟩
    rw [eX1]
    have HM1 := hide (show MuAt B W X1 (.slice Ar Nr cr) (.slice Ap Np cp) vr vp by rw [← eX1]; exact HM.out.alloc _)
    have LL2_1 := hide (show X1.cell? ⟨D.heap.size, 0, none⟩ = some (.slice A2 N2 c2) by rw [← eX1]; exact row_new D [.slice A2 N2 c2] 97 0 _ rfl)
    (try go_simp)
    refine hK.out _ _ (mu_cells HM1.out h1 h2 K1.out K2.out Z1.out Z2.out) (fun hHeld => ?_)
    (try simp only [Act.put, List.setIfInBounds_toArray, List.set_cons_zero, List.set_cons_succ])
    refine wpAnyB_ready (rs := [7]) (by kernel_rfl) (by simp) ?_
    refine AllReadyB.cons rfl (fun K hK => ?_) AllReadyB.nil
    go_simp
    obtain ⟨X2, eX2⟩ : ∃ Z, X1.alloc (.cells #[.slice A1 N1 c1] 63) = Z := ⟨_, rfl⟩
    rw [eX2]
    have HM2 := hide (show MuAt B W X2 (.slice Ar Nr cr) (.slice Ap Np cp) vr vp by rw [← eX2]; exact HM1.out.alloc _)
    have LL1_2 := hide (show X2.cell? ⟨X1.heap.size, 0, none⟩ = some (.slice A1 N1 c1) by rw [← eX2]; exact row_new X1 [.slice A1 N1 c1] 63 0 _ rfl)
    have LK2_2 := hide (show X2.cell? ⟨D.heap.size, 0, none⟩ = some (.slice A2 N2 c2) by rw [← eX2]; exact lit_grown LL2_1.out (grown_of_below (balHp _ _) none) (by simp))
    (try go_simp)
    refine hK.out _ _ (mu_cells HM2.out h1 h2 K1.out K2.out Z1.out Z2.out) (fun hHeld => ?_)
    (try simp only [Act.put, List.setIfInBounds_toArray, List.set_cons_zero, List.set_cons_succ])
    refine wpAnyB_ready (rs := [8]) (by kernel_rfl) (by simp) ?_
    refine AllReadyB.cons rfl (fun K hK => ?_) AllReadyB.nil
    refine step_append_own_g (by rfl) _ _ 22 (by rfl) (B + 1) 63 i0 (.slice none 0 0) 1 24 Tryz.underlying22 hi hz0 hz1 hz2 rfl (by decide) (.slice Ar Nr cr) vr.length vr (by go_simp) HM2.out.rg ⟨X1.heap.size, 0, none⟩ 1 1 [.slice A1 N1 c1] (by go_simp) rfl (lit_news LL1_2.out) (by simp [Value.oneCell']) (by simp only [maxLen]; omega) (by omega) (by have := HM2.out.sz; omega) ?_
    intro rv3 X3 ho3 hg3
    obtain ⟨gg3, cc3, rfl⟩ := ownsRow_succ ho3
    have HM3 := hide (HM2.out.appR ho3 hg3)
    have LK2_3 := hide (lit_grown LK2_2.out hg3 (fun e => absurd (HM.out.rg.lt _ e).2 (by first | exact Nat.lt_irrefl _ | (rw [← eX1]; simp))))
    clear ho3 hg3
    (try go_simp)
    refine hK.out _ _ (mu_cells HM3.out h1 h2 K1.out K2.out Z1.out Z2.out) (fun hHeld => ?_)
    (try simp only [Act.put, List.setIfInBounds_toArray, List.set_cons_zero, List.set_cons_succ])
    refine wpAnyB_ready (rs := [15]) (by kernel_rfl) (by simp) ?_
    refine AllReadyB.cons rfl (fun K hK => ?_) AllReadyB.nil
    refine step_append_own_g (by rfl) _ _ 27 (by rfl) (B + 1) 97 j0 (.slice none 0 0) 1 24 Tryz.underlying27 hj hy0 hy1 hy2 rfl (by decide) (.slice Ap Np cp) vp.length vp (by go_simp) HM3.out.pg ⟨D.heap.size, 0, none⟩ 1 1 [.slice A2 N2 c2] (by go_simp) rfl (lit_news LK2_3.out) (by simp [Value.oneCell']) (by simp only [maxLen]; omega) (by omega) (by have := HM3.out.sz; omega) ?_
    intro rv4 X4 ho4 hg4
    obtain ⟨gg4, cc4, rfl⟩ := ownsRow_succ ho4
    have HM4 := hide (HM3.out.appP ho4 hg4)
    clear ho4 hg4
    (try go_simp)
    refine hK.out _ _ (mu_cells HM4.out h1 h2 K1.out K2.out Z1.out Z2.out) (fun hHeld => ?_)
    (try simp only [Act.put, List.setIfInBounds_toArray, List.set_cons_zero, List.set_cons_succ])
    refine tkP 16 ⟨some 20, .nilCheck (.tmp 4), 0, "reader.go:100", #[⟨0, .data⟩, ⟨0, .phase⟩, ⟨1, .textOnly .lateStores⟩, ⟨2, .phase⟩, ⟨3, .phase⟩, ⟨4, .phase⟩, ⟨5, .phase⟩, ⟨6, .phase⟩, ⟨7, .phase⟩, ⟨8, .phase⟩, ⟨9, .textOnly .lateStores⟩, ⟨10, .textOnly .lateStoresUnsure⟩, ⟨11, .textOnly .lateStoresUnsure⟩, ⟨12, .phase⟩, ⟨13, .textOnly .inlinedCapture⟩, ⟨14, .textOnly .lateStoresUnsure⟩, ⟨15, .phase⟩], none⟩ (h := ?_)
    refine tkP 17 ⟨some 21, .fieldAddr 30 (.tmp 20) 10, 0, "reader.go:100", #[⟨16, .data⟩, ⟨0, .phase⟩, ⟨1, .textOnly .lateStores⟩, ⟨2, .phase⟩, ⟨3, .phase⟩, ⟨4, .phase⟩, ⟨5, .phase⟩, ⟨6, .phase⟩, ⟨7, .phase⟩, ⟨8, .phase⟩, ⟨9, .textOnly .lateStores⟩, ⟨10, .textOnly .lateStoresUnsure⟩, ⟨11, .textOnly .lateStoresUnsure⟩, ⟨12, .phase⟩, ⟨13, .textOnly .inlinedCapture⟩, ⟨14, .textOnly .lateStoresUnsure⟩, ⟨15, .phase⟩], none⟩ (h := ?_)
    refine wpAnyB_ready (rs := [18]) (by kernel_rfl) (by simp) ?_
    refine AllReadyB.last rfl (by kernel_rfl) (fun K hK => ?_) AllReadyB.nil
    have s11 := (mu_cells HM4.out h1 h2 K1.out K2.out Z1.out Z2.out).2.2.1
    have s12 := (mu_cells HM4.out h1 h2 K1.out K2.out Z1.out Z2.out).2.2.2
    have q11 := mu_free HM4.out HF.out 11
    have q12 := mu_free HM4.out HF.out 12
    go_simp
    (try go_simp)
    refine hK.out _ _ ?_
    (try simp only [Act.put, List.setIfInBounds_toArray, List.set_cons_zero, List.set_cons_succ])
    refine tkQ 19 ⟨some 22, .nilCheck (.tmp 5), 0, "reader.go:100", #[⟨1, .data⟩, ⟨0, .phase⟩, ⟨1, .phase⟩, ⟨2, .phase⟩, ⟨3, .phase⟩, ⟨4, .phase⟩, ⟨5, .phase⟩, ⟨6, .phase⟩, ⟨7, .phase⟩, ⟨8, .phase⟩, ⟨9, .phase⟩, ⟨10, .phase⟩, ⟨11, .phase⟩, ⟨12, .phase⟩, ⟨13, .phase⟩, ⟨14, .phase⟩, ⟨15, .phase⟩, ⟨16, .phase⟩, ⟨17, .phase⟩, ⟨18, .phase⟩], none⟩ (h := ?_)
    refine tkQ 20 ⟨some 23, .fieldAddr 30 (.tmp 22) 11, 0, "reader.go:100", #[⟨19, .data⟩, ⟨0, .phase⟩, ⟨1, .phase⟩, ⟨2, .phase⟩, ⟨3, .phase⟩, ⟨4, .phase⟩, ⟨5, .phase⟩, ⟨6, .phase⟩, ⟨7, .phase⟩, ⟨8, .phase⟩, ⟨9, .phase⟩, ⟨10, .phase⟩, ⟨11, .phase⟩, ⟨12, .phase⟩, ⟨13, .phase⟩, ⟨14, .phase⟩, ⟨15, .phase⟩, ⟨16, .phase⟩, ⟨17, .phase⟩, ⟨18, .phase⟩], none⟩ (h := ?_)
    refine wpAnyB_ready (rs := [21]) (by kernel_rfl) (by simp) ?_
    refine AllReadyB.last rfl (by kernel_rfl) (fun K hK => ?_) AllReadyB.nil
    have s11 := (mu_cells HM4.out h1 h2 K1.out K2.out Z1.out Z2.out).2.2.1
    have s12 := (mu_cells HM4.out h1 h2 K1.out K2.out Z1.out Z2.out).2.2.2
    have q11 := mu_free HM4.out HF.out 11
    have q12 := mu_free HM4.out HF.out 12
    go_simp
    (try go_simp)
    refine hK.out _ _ ?_
    (try simp only [Act.put, List.setIfInBounds_toArray, List.set_cons_zero, List.set_cons_succ])
    refine wpAnyB_done (by kernel_rfl) ?_ _
    go_wp2
    go_end0
    exact ⟨rfl, X4, _, _, HM4.out, rfl⟩
end Go.Proofs.YtjnokhaojpijhaaGreatDoor
/- Layer plan: the first line's part, a mutator's part; laid. -/
namespace Go.Proofs.YtjnokhaojpijhaaGreatDoor
open Go.RowKit Go.Shelf Go.Proofs Go.Joins
theorem cn_of {C g cp : Nat} {x0 x1 x2 x3 x4 x5 x6 x7 : Int} {b : Nat} {W0 W : World} (hc : W.heap[C]? = some (.cells #[.slice (some ⟨g, 0, none⟩) 8 cp] 63)) (ho : W0.ownsRow b 3 1 (.slice (some ⟨g, 0, none⟩) 8 cp) 8 ([x0, x1, x2, x3, x4, x5, x6, x7].flatMap ic)) (hb : Below W0.heap.size W0 W) :
    Cn C g cp x0 x1 x2 x3 x4 x5 x6 x7 W ∧ g < W0.heap.size := by
  have hlt := (ho.lt g rfl).2
  have h := (own_below ho hb).cells (g := g) rfl
  have hk : ∀ (j : Nat) (u : Value), ([x0, x1, x2, x3, x4, x5, x6, x7].flatMap ic)[j]? = some u → W.cell? ⟨g, j, none⟩ = some u := fun j u hj => by
    have := h j u hj
    rwa [add_none, Nat.zero_add] at this
  exact ⟨⟨cell_of_block hc 0, hk 0 _ rfl, hk 1 _ rfl, hk 2 _ rfl, hk 3 _ rfl, hk 4 _ rfl, hk 5 _ rfl, hk 6 _ rfl, hk 7 _ rfl⟩, hlt⟩
theorem engine_part (R C g cp b : Nat) (w : World) (x0 x1 x2 x3 x4 x5 x6 x7 : Int) (hcp : 8 ≤ cp) (hcm : cp ≤ 9223372036854775807) (hc : w.heap[C]? = some (.cells #[.slice (some ⟨g, 0, none⟩) 8 cp] 63))
    (ho : w.ownsRow b 3 1 (.slice (some ⟨g, 0, none⟩) 8 cp) 8 ([x0, x1, x2, x3, x4, x5, x6, x7].flatMap ic)) (hb : R < b) (hC : C ≠ R) :
    PartAt R w (.func (.func 123) #[] #[.pointer (some ⟨C, 0, none⟩)]) (fun q => { q with wk := x0, mu := x1, cp := x2, bf := x3, bn := x4, mo := x5, pr := x6, li := x7 }) := by
  refine ⟨_, _, rfl, enters_of Tryz.func123 (by kernel_rfl) rfl, fun q => ⟨Nat.le_succ _, Nat.le_succ _⟩, fun W0 W B q hg hL _ _ => ?_⟩
  obtain ⟨ob, rg, pg, pk, vr, vp, hL⟩ := hL
  obtain ⟨hk, hlt⟩ := kept_block hc (by decide) hC hg hL.bw
  obtain ⟨hN, hr⟩ := cn_of hk (kept_own ho (by decide) hb hg) hL.bw
  have hb0 := hL.hB
  refine (eng_walk C g cp B hcp hcm x0 x1 x2 x3 x4 x5 x6 x7 W hN (by omega) (by omega) q.wk q.mu q.cp q.bf q.bn q.mo q.pr q.li q.sl ob q.ro rg pg pk hL.bp.blk).mono ?_
  rintro e w' ⟨rfl, hblk, hb', ho'⟩
  exact ⟨rfl, ⟨ob, rg, pg, pk, vr, vp, hL.set hb' ho' ⟨hblk⟩ hL.ob hL.pk rfl rfl⟩, hb'⟩
theorem rowsI_snoc {b0 : Nat} {w : World} {vr : List Value} {l : Rws} {u : Value} {x : List Int} (h : RowsI b0 w vr l) (hu : w.ownsRow b0 3 1 u x.length (x.flatMap ic)) : RowsI b0 w (vr ++ [u]) (l ++ [x]) := by
  refine ⟨by rw [List.length_append, List.length_append, h.1]; rfl, fun i u' x' hu' hx' => ?_⟩
  by_cases hi : i < vr.length
  · rw [List.getElem?_append_left hi] at hu'
    rw [List.getElem?_append_left (by rw [← h.1]; exact hi)] at hx'
    exact h.2 i u' x' hu' hx'
  · have hlt := (List.getElem?_eq_some_iff.1 hu').1
    rw [List.length_append] at hlt
    obtain rfl : i = vr.length := by simp at hlt; omega
    rw [List.getElem?_concat_length] at hu'
    rw [h.1, List.getElem?_concat_length] at hx'
    cases hu'; cases hx'; exact hu
theorem rowsO_snoc {b0 : Nat} {w : World} {vr : List Value} {l : List (List Oq)} {u : Value} {x : List Oq} (h : RowsO b0 w vr l) (hu : w.ownsRow b0 106 4 u x.length (x.flatMap oq)) : RowsO b0 w (vr ++ [u]) (l ++ [x]) := by
  refine ⟨by rw [List.length_append, List.length_append, h.1]; rfl, fun i u' x' hu' hx' => ?_⟩
  by_cases hi : i < vr.length
  · rw [List.getElem?_append_left hi] at hu'
    rw [List.getElem?_append_left (by rw [← h.1]; exact hi)] at hx'
    exact h.2 i u' x' hu' hx'
  · have hlt := (List.getElem?_eq_some_iff.1 hu').1
    rw [List.length_append] at hlt
    obtain rfl : i = vr.length := by simp at hlt; omega
    rw [List.getElem?_concat_length] at hu'
    rw [h.1, List.getElem?_concat_length] at hx'
    cases hu'; cases hx'; exact hu
theorem mut_part (R C1 C2 b : Nat) (w : World) (A1 A2 : Option Addr) (N1 c1 N2 c2 : Nat) (l : List Int) (p : List Oq) (hl : l.length = N1) (hp : p.length = N2) (hc1 : w.heap[C1]? = some (.cells #[.slice A1 N1 c1] 63)) (hc2 : w.heap[C2]? = some (.cells #[.slice A2 N2 c2] 97))
    (ho1 : w.ownsRow b 3 1 (.slice A1 N1 c1) N1 (l.flatMap ic)) (ho2 : w.ownsRow b 106 4 (.slice A2 N2 c2) N2 (p.flatMap oq)) (hb : R < b) (hC1 : C1 ≠ R) (hC2 : C2 ≠ R) :
    PartAt R w (.func (.func 135) #[] #[.pointer (some ⟨C1, 0, none⟩), .pointer (some ⟨C2, 0, none⟩)]) (fun q => { q with rg := q.rg ++ [l], pg := q.pg ++ [p] }) := by
  refine ⟨_, _, rfl, enters_of Tryz.func135 (by kernel_rfl) rfl, fun q => ⟨by simp, by simp⟩, fun W0 W B q hg hL hrl hpl => ?_⟩
  obtain ⟨ob, rg, pg, pk, vr, vp, hL⟩ := hL
  obtain ⟨hk1, hlt1⟩ := kept_block hc1 (by decide) hC1 hg hL.bw
  obtain ⟨hk2, hlt2⟩ := kept_block hc2 (by decide) hC2 hg hL.bw
  have hI : W0.ownsRow (R + 1) 3 1 (.slice A1 N1 c1) l.length (l.flatMap ic) := by subst hl; exact own_base (kept_own ho1 (by decide) hb hg) (by omega)
  have hO : W0.ownsRow (R + 1) 106 4 (.slice A2 N2 c2) p.length (p.flatMap oq) := by subst hp; exact own_base (kept_own ho2 (by decide) hb hg) (by omega)
  obtain ⟨Ar, cr, hrv, _, _⟩ := own_form hL.rg
  obtain ⟨Ap, cp, hpv, _, _⟩ := own_form hL.pg
  subst hrv hpv
  have hb0 := hL.hB
  refine (mut_walk B C1 C2 W A1 A2 Ar Ap N1 c1 N2 c2 _ cr _ cp vr vp ⟨Below.refl _ _, rfl, hL.bp.lt, hL.rg, hL.pg⟩ rfl rfl (by omega) (by omega) (cell_of_block hk1 0) (cell_of_block hk2 0) (cell_of_block hL.bp.blk 11) (cell_of_block hL.bp.blk 12) (unfrozen_of_block hL.bp.blk) (by rw [hL.rr.1]; exact hrl) (by rw [hL.rp.1]; exact hpl)).mono ?_
  rintro e w' ⟨rfl, X, rg', pg', hM, rfl⟩
  refine ⟨rfl, ⟨ob, rg', pg', pk, vr ++ [.slice A1 N1 c1], vp ++ [.slice A2 N2 c2], ?_⟩, (hM.bw.trans (set_below _ _ _ _)).trans (set_below _ _ _ _)⟩
  have hbp := hM.blk.trans hL.bp.blk
  refine ⟨hL.hB, hL.bw.trans (((hM.bw.trans (set_below _ _ _ _)).trans (set_below _ _ _ _)).mono hL.hB), ⟨?_⟩, hL.ob, hL.pk, ?_, rowsI_snoc hL.rr hI, ?_, rowsO_snoc hL.rp hO⟩
  · have h := block_setCell hbp (i := 11) rg'
    rw [block_setCell h]; rfl
  · exact ownsRow_setCell_below (ownsRow_setCell_below hM.rg (by simp) _) (by simp) _
  · exact ownsRow_setCell_below (ownsRow_setCell_below hM.pg (by simp) _) (by simp) _
/-- the functions vs lay fs, one behind the other -/
def PartsAt (R : Nat) (w : World) (v : Value) (fs : List (Pq → Pq)) : Prop :=
  ∃ vs : List Value, Sl one 1 w v vs ∧ vs.length = fs.length ∧ ∀ (i : Nat) (u : Value) (f : Pq → Pq), vs[i]? = some u → fs[i]? = some f → PartAt R w u f
def layFPl (fs : List (Pq → Pq)) (q : Pq) : Pq := fs.foldl (fun q f => f q) q
theorem lay_take {fs : List (Pq → Pq)} {i : Nat} {q : Pq} (h : i < fs.length) : layFPl (fs.take (i + 1)) q = fs[i] (layFPl (fs.take i) q) := by
  unfold layFPl
  rw [List.take_succ_eq_append_getElem h, List.foldl_append]; rfl
theorem parts_at {R : Nat} {w : World} {A : Option Addr} {n c k : Nat} {fs : List (Pq → Pq)} (h : PartsAt R w (.slice A n c) fs) (hk : k < fs.length) :
    ∃ b off u, A = some ⟨b, off, none⟩ ∧ b < w.heap.size ∧ w.cell? ⟨b, off + k, none⟩ = some u ∧ PartAt R w u fs[k] := by
  obtain ⟨vs, ⟨A', c', e, h1, h2, h3⟩, hl, hi⟩ := h
  injection e with e1 e2 e3
  subst e1
  obtain ⟨b, off, rfl, hb, hc⟩ := h3 (by omega)
  have hkv : k < vs.length := by omega
  refine ⟨b, off, vs[k], rfl, hb, ?_, hi k _ _ (List.getElem?_eq_getElem hkv) (List.getElem?_eq_getElem hk)⟩
  have := hc k vs[k] (List.getElem?_eq_getElem hkv) 0 vs[k] rfl
  simpa using this
theorem parts_form {R : Nat} {w : World} {v : Value} {fs : List (Pq → Pq)} (h : PartsAt R w v fs) : ∃ A c, v = .slice A fs.length c ∧ fs.length ≤ c ∧ c ≤ maxLen := by
  obtain ⟨vs, ⟨A, c, rfl, h1, h2, _⟩, hl, _⟩ := h
  exact ⟨A, c, by rw [hl], by omega, h2⟩
/-- what laid answers -/
def LaidP (b0 : Nat) (q : Pq) (w : World) (e : Ending) (w' : World) : Prop :=
  ∃ ob rg pg pk, e = .returned (planV q.wk q.mu q.cp q.bf q.bn q.mo q.pr q.li q.sl ob q.ro rg pg pk) ∧ PlanO b0 w' ob rg pg pk q ∧ Below w.heap.size w w'
theorem lst_zero (b0 : Nat) (w W0 : World) (hb : Below w.heap.size w W0) : Lst b0 w W0.heap.size (W0.alloc (.cells #[.int .i64 0, .int .i64 0, .int .i64 0, .int .i64 0, .int .i64 0, .int .i64 0, .int .i64 0, .int .i64 0, .int .i64 0, .slice none 0 0, .int .u64 0, .slice none 0 0, .slice none 0 0, .slice none 0 0] 30)) zeroQ :=
  ⟨.slice none 0 0, .slice none 0 0, .slice none 0 0, .slice none 0 0, [], [], hb.size, hb.alloc hb.size _, ⟨heap_alloc_new W0 _⟩, OwnRows.nil_, World.ownsRow_nil _ _ _ _, World.ownsRow_nil _ _ _ _, ⟨rfl, by simp⟩, World.ownsRow_nil _ _ _ _, ⟨rfl, by simp⟩⟩
theorem lay_len {fs : List (Pq → Pq)} (h : ∀ f ∈ fs, ∀ q, (f q).rg.length ≤ q.rg.length + 1 ∧ (f q).pg.length ≤ q.pg.length + 1) : ∀ k, (layFPl (fs.take k) zeroQ).rg.length ≤ k ∧ (layFPl (fs.take k) zeroQ).pg.length ≤ k
  | 0 => by simp [layFPl, zeroQ]
  | k + 1 => by
    have ih := lay_len h k
    by_cases hk : k < fs.length
    · rw [lay_take hk]
      have := h fs[k] (List.getElem_mem hk) (layFPl (fs.take k) zeroQ)
      omega
    · rw [List.take_of_length_le (by omega)]
      rw [List.take_of_length_le (by omega)] at ih
      omega
theorem PartsAt.below {R : Nat} {w w' : World} {v : Value} {fs : List (Pq → Pq)} (h : PartsAt R w v fs) (hb : Below w.heap.size w w') : PartsAt R w' v fs := by
  obtain ⟨vs, h1, h2, h3⟩ := h
  exact ⟨vs, h1.below hb, h2, fun i u f hu hf => (h3 i u f hu hf).below hb⟩
theorem PartsAt.lens {R : Nat} {w : World} {v : Value} {fs : List (Pq → Pq)} (h : PartsAt R w v fs) : ∀ f ∈ fs, ∀ q, (f q).rg.length ≤ q.rg.length + 1 ∧ (f q).pg.length ≤ q.pg.length + 1 := by
  obtain ⟨vs, h1, h2, h3⟩ := h
  intro f hf
  obtain ⟨i, hi, rfl⟩ := List.getElem_of_mem hf
  have hv : i < vs.length := by omega
  obtain ⟨_, _, _, _, h4, _⟩ := h3 i _ _ (List.getElem?_eq_getElem hv) (List.getElem?_eq_getElem hi)
  exact h4
set_option maxRecDepth 100000 in
set_option maxHeartbeats 4000000 in
theorem laid_any (R : Nat) (v : Value) (fs : List (Pq → Pq)) (w : World) (h : PartsAt R w v fs) (hn : fs.length ≤ 2000000) (hRw : R < w.heap.size) :
    Calls Tryz.prog 36 #[v] w (LaidP (R + 1) (layFPl fs zeroQ) w) := by
  obtain ⟨A, c, rfl, hc1, hc2⟩ := parts_form h
  unfold maxLen at hc2
  have HLEN := hide (lay_len h.lens)
  obtain ⟨W0, e0⟩ : ∃ W0, w.alloc (.cells #[.int .i64 0, .int .i64 0, .int .i64 0, .int .i64 0, .int .i64 0, .int .i64 0, .int .i64 0, .int .i64 0, .int .i64 0, .slice none 0 0, .int .u64 0, .slice none 0 0, .slice none 0 0, .slice none 0 0] 30) = W0 := ⟨_, rfl⟩
  have hb0 : Below w.heap.size w W0 := by rw [← e0]; exact balHp _ _
  have hs0 : W0.heap.size = w.heap.size + 1 := by rw [← e0]; simp
  have hz0 : W0.heap[w.heap.size]? = some (.cells (planC 0 0 0 0 0 0 0 0 0 (.slice none 0 0) 0 (.slice none 0 0) (.slice none 0 0) (.slice none 0 0)) 30) := by rw [← e0]; exact heap_alloc_new w _
  have HP := hide h
  have HZ := hide (lst_zero (R + 1) w W0 hb0)
  obtain ⟨W1, e1⟩ : ∃ W1, W0.alloc (.cells #[.int .i64 0, .int .i64 0, .int .i64 0, .int .i64 0, .int .i64 0, .int .i64 0, .int .i64 0, .int .i64 0, .int .i64 0, .slice none 0 0, .int .u64 0, .slice none 0 0, .slice none 0 0, .slice none 0 0] 30) = W1 := ⟨_, rfl⟩
  rw [e1] at HZ
  have HE0 := hide e0
  have HE1 := hide e1
  have HB0 := hide hb0
  have HS0 := hide hs0
  have HZ0 := hide hz0
  clear h e0 e1 hb0 hz0 hs0
  go_enter Tryz.func36, Tryz.ntmps36
  go_wp2_with fail
  rw [HE0.out, HE1.out]
  go_loopw [8] (fun iv wr => ∃ k : Nat, k ≤ fs.length ∧ iv = .int .i64 k ∧ Hid (Lst (R + 1) w (w.heap.size + 1) wr (layFPl (fs.take k) zeroQ)) ∧ Hid (wr.heap[w.heap.size]? = some (.cells (planC 0 0 0 0 0 0 0 0 0 (.slice none 0 0) 0 (.slice none 0 0) (.slice none 0 0) (.slice none 0 0)) 30))) (fun iv _ => fs.length - (Go.RowKit.intOf iv).toNat)
  case atStart => exact ⟨0, Nat.zero_le _, rfl, by have h := HZ.out; rw [HS0.out] at h; exact hide h, by rw [← HE1.out]; exact hide ((Below.heap_alloc _ _ _ (by rw [HS0.out]; omega)).trans HZ0.out)⟩
  case round =>
    obtain ⟨k, hk, rfl, HL, HR0⟩ := hrel
    by_cases hlt : k < fs.length
    · obtain ⟨b, off, u, rfl, hb, hc, hpt⟩ := parts_at HP.out hlt
      obtain ⟨fo, caps, rfl, hcf, -, hcall⟩ := hpt
      obtain ⟨l1, l2⟩ := HLEN.out k
      have HT := hide (lay_take (q := zeroQ) hlt)
      have HC := hide (hcall w wr _ _ (KpR.refl _ _) HL.out (by omega) (by omega))
      have hbw : Below w.heap.size w wr := by obtain ⟨_, _, _, _, _, _, h⟩ := HL.out; exact h.bw
      have hcw : wr.cell? ⟨b, off + k, none⟩ = some (.func (.func fo) #[] caps) := (hbw.cell (p := ⟨b, off + k, none⟩) hb).trans hc
      clear hcall hc hbw l1 l2 hb
      go_wp2_with fail
      refine HC.out.mono ?_
      rintro e w2 ⟨rfl, hL2, hb2⟩
      have HL2 := hide hL2
      have HR2 := hide ((hb2.block w.heap.size (by omega)).trans HR0.out)
      clear hL2 hb2
      go_wp2
      go_roundw
      case rel => exact ⟨k + 1, by omega, by go_num, by rw [HT.out]; exact HL2, HR2⟩
      case measure => simp [Go.RowKit.intOf]; omega
    · obtain rfl : k = fs.length := by omega
      rw [List.take_length] at HL
      obtain ⟨ob, rg, pg, pk, vr, vp, hL⟩ := HL.out
      obtain ⟨q, hq⟩ : ∃ q, layFPl fs zeroQ = q := ⟨_, rfl⟩
      rw [hq] at hL ⊢
      obtain ⟨a, b, c', d, e, f, g, h, n, lo, s, lr, lp, lk⟩ := q
      obtain ⟨A1, m1, rfl, _, _⟩ := OwnRows.form hL.ob
      obtain ⟨A2, m2, rfl, _, _⟩ := own_form hL.rg
      obtain ⟨A3, m3, rfl, _, _⟩ := own_form hL.pg
      obtain ⟨A4, m4, rfl, _, _⟩ := own_form hL.pk
      have HVL := hide (show ∃ vr' vp', LsV (R + 1) w (w.heap.size + 1) wr ⟨a, b, c', d, e, f, g, h, n, lo, s, lr, lp, lk⟩ (.slice A1 lo.length m1) (.slice A2 vr.length m2) (.slice A3 vp.length m3) (.slice A4 lk.length m4) vr' vp' from ⟨_, _, hL⟩)
      obtain ⟨x0, x1, x2, x3, x4, x5, x6, x7, x8, x9, xa, xb, xc, xd⟩ := hL.bp.cells
      have hz := HR0.out
      have y0 := cell_of_block hz 0
      have f0 := unfrozen_of_block hz 0
      have y1 := cell_of_block hz 1
      have f1 := unfrozen_of_block hz 1
      have y2 := cell_of_block hz 2
      have f2 := unfrozen_of_block hz 2
      have y3 := cell_of_block hz 3
      have f3 := unfrozen_of_block hz 3
      have y4 := cell_of_block hz 4
      have f4 := unfrozen_of_block hz 4
      have y5 := cell_of_block hz 5
      have f5 := unfrozen_of_block hz 5
      have y6 := cell_of_block hz 6
      have f6 := unfrozen_of_block hz 6
      have y7 := cell_of_block hz 7
      have f7 := unfrozen_of_block hz 7
      have y8 := cell_of_block hz 8
      have f8 := unfrozen_of_block hz 8
      have y9 := cell_of_block hz 9
      have f9 := unfrozen_of_block hz 9
      have y10 := cell_of_block hz 10
      have f10 := unfrozen_of_block hz 10
      have y11 := cell_of_block hz 11
      have f11 := unfrozen_of_block hz 11
      have y12 := cell_of_block hz 12
      have f12 := unfrozen_of_block hz 12
      have y13 := cell_of_block hz 13
      have f13 := unfrozen_of_block hz 13
      have HQ := hide hq
      clear hL hz hq HL
      go_wp2
      refine bodyPost_ret (v := planV a b c' d e f g h n (.slice A1 lo.length m1) s (.slice A2 vr.length m2) (.slice A3 vp.length m3) (.slice A4 lk.length m4)) (by simp [results, Tryz.results36, go_sem, y0, y1, y2, y3, y4, y5, y6, y7, y8, y9, y10, y11, y12, y13]) rfl ?_
      rw [HQ.out]
      obtain ⟨vr', vp', HV⟩ := HVL.out
      have kS : ∀ {X : World} (i : Nat) (v : Value), LsV (R + 1) w (w.heap.size + 1) X ⟨a, b, c', d, e, f, g, h, n, lo, s, lr, lp, lk⟩ (.slice A1 lo.length m1) (.slice A2 vr.length m2) (.slice A3 vp.length m3) (.slice A4 lk.length m4) vr' vp' →
          LsV (R + 1) w (w.heap.size + 1) (X.setCell ⟨w.heap.size, i, none⟩ v) ⟨a, b, c', d, e, f, g, h, n, lo, s, lr, lp, lk⟩ (.slice A1 lo.length m1) (.slice A2 vr.length m2) (.slice A3 vp.length m3) (.slice A4 lk.length m4) vr' vp' := fun {X} i v hX =>
        ⟨hX.hB, hX.bw.setCell (p := ⟨w.heap.size, i, none⟩) (Nat.le_refl _) v, ⟨(set_others X w.heap.size i v _ (by omega)).trans hX.bp.blk⟩, hX.ob, hX.pk, ownsRow_setCell_below hX.rg (show w.heap.size < _ by omega) _, hX.rr, ownsRow_setCell_below hX.pg (show w.heap.size < _ by omega) _, hX.rp⟩
      have hF := kS 13 (.slice A4 lk.length m4) (kS 12 (.slice A3 vp.length m3) (kS 11 (.slice A2 vr.length m2) (kS 10 (.int .u64 (s : Int)) (kS 9 (.slice A1 lo.length m1) (kS 8 (.int .i64 n) (kS 7 (.int .i64 h) (kS 6 (.int .i64 g) (kS 5 (.int .i64 f) (kS 4 (.int .i64 e) (kS 3 (.int .i64 d) (kS 2 (.int .i64 c') (kS 1 (.int .i64 b) (kS 0 (.int .i64 a) HV)))))))))))))
      exact ⟨_, _, _, _, rfl, hF.read (by omega), hF.bw⟩
end Go.Proofs.YtjnokhaojpijhaaGreatDoor
