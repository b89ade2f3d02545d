import Derived.Test.YtjbaiibbgplljaaGreatDoorPbm
import Derived.Test.YtjbaiibbgplljaaGreatDoorPbg
import Derived.Test.YtjbaiibbgplljaaGreatDoorPaq
set_option maxRecDepth 100000
set_option maxHeartbeats 40000000
namespace Go.Proofs.YtjbaiibbgplljaaGreatDoor
open Go.RowKit Go.Shelf Go.Proofs Go.Joins
theorem infoRw : (Tryz.prog.info? 67).map (fun i => (i.zero, i.size, i.bytes)) = some (some (.slice none 0 0), 1, 24) := by kernel_rfl
theorem infoRo : (Tryz.prog.info? 87).map (fun i => (i.zero, i.size, i.bytes)) = some (some (.slice none 0 0), 1, 24) := by kernel_rfl
structure MuAt (B : Nat) (W X : World) (rg pg : Value) (vr vp : List Value) : Prop where
 bw : Below B W X
 blk : X.heap[B]? = W.heap[B]?
 sz : B < X.heap.size
 rg : X.ownsRow (B + 1) 67 1 rg vr.length vr
 pg : X.ownsRow (B + 1) 87 1 pg vp.length vp
section
variable {B : Nat} {W X X' : World} {rg pg rg' pg' u : Value} {vr vp : List Value}
theorem MuAt.alloc (h : MuAt B W X rg pg vr vp) (o : Obj) : MuAt B W (X.alloc o) rg pg vr vp :=
 ⟨h.bw.alloc (by have := h.sz; omega) _, (((balHp X o)).block _ h.sz).trans h.blk, by have := h.sz; rw [World.size_alloc]; omega, h.rg.alloc _, h.pg.alloc _⟩
theorem MuAt.drew (h : MuAt B W X rg pg vr vp) : MuAt B W X.drew rg pg vr vp := ⟨belowD h.bw, h.blk, h.sz, h.rg, h.pg⟩
theorem own_apart {b1 b2 : Nat} {t1 t2 : TypeId} {s1 s2 n1 n2 : Nat} {v1 v2 : Value} {x1 x2 : List Value} (h1 : X.ownsRow b1 t1 s1 v1 n1 x1) (h2 : X.ownsRow b2 t2 s2 v2 n2 x2) (hne : t1 ≠ t2) : v1.ownBlock ≠ v2.ownBlock ∨ v1.ownBlock = none := by
 rcases h2.2 with ⟨rfl, _⟩ | ⟨g, cap, cur, rfl, _, hg, _⟩
 · cases e : v1.ownBlock with
   | none => exact .inr rfl
   | some k => exact .inl (by simp [Value.ownBlock])
 · exact .inl (own_type h1 hg hne)
theorem MuAt.appR (h : MuAt B W X rg pg vr vp) (ho : X'.ownsRow (B + 1) 67 1 rg' (vr.length + 1) (vr ++ [u])) (hg : X.grownBy X' rg.ownBlock) : MuAt B W X' rg' pg (vr ++ [u]) vp := by
 have hge := own_ge h.rg; have hB : some B ≠ rg.ownBlock := fun e => by have := hge B e.symm; omega
 refine ⟨h.bw.grown hg (Nat.le_of_lt h.sz) (fun k hk => by have := hge k hk; omega), (hg.block B h.sz hB).trans h.blk, Nat.lt_of_lt_of_le h.sz hg.size, by rw [List.length_append]; exact ho, h.pg.kept hg ?_⟩; rcases own_apart h.pg h.rg (by decide) with e | e
 · exact .inr e
 · exact .inl e
theorem MuAt.appP (h : MuAt B W X rg pg vr vp) (ho : X'.ownsRow (B + 1) 87 1 pg' (vp.length + 1) (vp ++ [u])) (hg : X.grownBy X' pg.ownBlock) : MuAt B W X' rg pg' vr (vp ++ [u]) := by
 have hge := own_ge h.pg; have hB : some B ≠ pg.ownBlock := fun e => by have := hge B e.symm; omega
 refine ⟨h.bw.grown hg (Nat.le_of_lt h.sz) (fun k hk => by have := hge k hk; omega), (hg.block B h.sz hB).trans h.blk, Nat.lt_of_lt_of_le h.sz hg.size, h.rg.kept hg ?_, by rw [List.length_append]; exact ho⟩; rcases own_apart h.rg h.pg (by decide) with e | e
 · exact .inr e
 · exact .inl e
theorem lit_grown {l : Nat} {row : Option Nat} (h : X.cell? ⟨l, 0, none⟩ = some u) (hg : X.grownBy X' row) (hr : row ≠ some l) : X'.cell? ⟨l, 0, none⟩ = some u := by
 rw [show X'.cell? ⟨l, 0, none⟩ = X.cell? ⟨l, 0, none⟩ from ?_]; exact h; have hlt := World.block_lt_of_cell? X _ h; have := hg.block l hlt (fun e => hr e.symm); unfold World.cell?; simp only [this]
theorem lit_news {l : Nat} (h : X.cell? ⟨l, 0, none⟩ = some u) : ∀ j v, [u][j]? = some v → X.cell? ((⟨l, 0, none⟩ : Addr).add j) = some v := by
 intro j v hj; cases j with
 | zero => simp at hj; subst hj; rw [add_none]; exact h
 | succ j => simp at hj
end
theorem mu_free {B : Nat} {W X : World} {rg pg : Value} {vr vp : List Value} (h : MuAt B W X rg pg vr vp) (hf : ∀ i, W.frozen? ⟨B, i, none⟩ = false) (i : Nat) : X.frozen? ⟨B, i, none⟩ = false := by
 rw [← hf i]; unfold World.frozen?; simp only [h.blk]
theorem mu_cells {B C1 C2 : Nat} {W X : World} {rg pg u1 u2 v11 v12 : Value} {vr vp : List Value} (h : MuAt B W X rg pg vr vp) (h1 : C1 < B) (h2 : C2 < B) (c1 : W.cell? ⟨C1, 0, none⟩ = some u1) (c2 : W.cell? ⟨C2, 0, none⟩ = some u2) (z1 : W.cell? ⟨B, 11, none⟩ = some v11) (z2 : W.cell? ⟨B, 12, none⟩ = some v12) :
 X.cell? ⟨C1, 0, none⟩ = some u1 ∧ X.cell? ⟨C2, 0, none⟩ = some u2 ∧ X.cell? ⟨B, 11, none⟩ = some v11 ∧ X.cell? ⟨B, 12, none⟩ = some v12 := by
 have kb : ∀ i, X.cell? ⟨B, i, none⟩ = W.cell? ⟨B, i, none⟩ := fun i => by unfold World.cell?; simp only [h.blk]
 exact ⟨(h.bw.cell (p := ⟨C1, 0, none⟩) h1).trans c1, (h.bw.cell (p := ⟨C2, 0, none⟩) h2).trans c2, (kb 11).trans z1, (kb 12).trans z2⟩
theorem mut_walk (B C1 C2 : Nat) (W : World) (A1 A2 Ar Ap : Option Addr) (N1 c1 N2 c2 Nr cr Np cp : Nat) (vr vp : List Value) (hM : MuAt B W W (.slice Ar Nr cr) (.slice Ap Np cp) vr vp) (hNr : vr.length = Nr) (hNp : vp.length = Np) (h1 : C1 < B) (h2 : C2 < B) (k1 : W.cell? ⟨C1, 0, none⟩ = some (.slice A1 N1 c1)) (k2 : W.cell? ⟨C2, 0, none⟩ = some (.slice A2 N2 c2))
 (z1 : W.cell? ⟨B, 11, none⟩ = some (.slice Ar Nr cr)) (z2 : W.cell? ⟨B, 12, none⟩ = some (.slice Ap Np cp)) (hf : ∀ i, W.frozen? ⟨B, i, none⟩ = false) (hr : vr.length ≤ 2000000) (hp : vp.length ≤ 2000000) :
  Calls Tryz.prog 122 #[.pointer (some ⟨B, 0, none⟩), .pointer (some ⟨C1, 0, none⟩), .pointer (some ⟨C2, 0, none⟩)] W fun e w' => e = .returned (.tuple #[]) ∧ ∃ X rg' pg', MuAt B W X rg' pg' (vr ++ [.slice A1 N1 c1]) (vp ++ [.slice A2 N2 c2]) ∧ w' = (X.setCell ⟨B, 11, none⟩ rg').setCell ⟨B, 12, none⟩ pg' := by
 obtain ⟨i0, hi, hz0, hz1, hz2⟩ := info_parts infoRw; obtain ⟨j0, hj, hy0, hy1, hy2⟩ := info_parts infoRo; have HM := hide hM.drew; have K1 := hide k1; have K2 := hide k2; have Z1 := hide z1; have Z2 := hide z2; have HF := hide hf; have HNR := hide hNr; have HNP := hide hNp; clear hM k1 k2 z1 z2 hf hNr hNp; go_enter Tryz.func122, Tryz.ntmps122
 go_wp2; refine wp_region_B [18, 21] (S := fun w' => w'.cell? ⟨C1, 0, none⟩ = some (.slice A1 N1 c1) ∧ w'.cell? ⟨C2, 0, none⟩ = some (.slice A2 N2 c2) ∧ w'.cell? ⟨B, 11, none⟩ = some (.slice Ar Nr cr) ∧ w'.cell? ⟨B, 12, none⟩ = some (.slice Ap Np cp)) (by kernel_rfl) ?_ (fun hHeld => ?_)
 · exact (mu_cells HM.out h1 h2 K1.out K2.out Z1.out Z2.out)
 obtain ⟨D, hD⟩ : ∃ D, W.drew = D := ⟨_, rfl⟩; rw [hD] at hHeld HM ⊢; clear hD; refine tp 0 ?_; refine tp 1 ?_; refine tp 2 ?_; refine tp 3 ?_; refine tp 4 ?_; refine tb 5 ?_; refine tb 6 ?_; refine tp 9 ?_; refine tp 10 ?_; refine tp 11 ?_; refine tb 12 ?_; refine tb 13 ?_; refine rb2 7 14 (fun K hK => ?_) (fun K hK => ?_)
 · skip
   go_simp; obtain ⟨X1, eX1⟩ : ∃ Z, D.alloc (.cells #[.slice A1 N1 c1] 67) = Z := ⟨_, rfl⟩; rw [eX1]; have HM1 := hide (show MuAt B W X1 (.slice Ar Nr cr) (.slice Ap Np cp) vr vp by rw [← eX1]; exact HM.out.alloc _); have LL1_1 := hide (show X1.cell? ⟨D.heap.size, 0, none⟩ = some (.slice A1 N1 c1) by rw [← eX1]; exact row_new D [.slice A1 N1 c1] 67 0 _ rfl); (try go_simp); refine go_ hK (mu_cells HM1.out h1 h2 K1.out K2.out Z1.out Z2.out) (fun hHeld => ?_); refine rb2 8 14 (fun K hK => ?_) (fun K hK => ?_)
   · skip
     refine step_append_own_g (by rfl) _ _ 22 (by rfl) (B + 1) 67 i0 (.slice none 0 0) 1 24 Tryz.underlying22 hi hz0 hz1 hz2 rfl (by decide) (.slice Ar Nr cr) vr.length vr (by go_simp) HM1.out.rg ⟨D.heap.size, 0, none⟩ 1 1 [.slice A1 N1 c1] (by go_simp) rfl (lit_news LL1_1.out) (by simp [Value.oneCell']) (by simp only [maxLen]; omega) (by omega) (by have := HM1.out.sz; omega) ?_; intro rv2 X2 ho2 hg2; obtain ⟨gg2, cc2, rfl⟩ := ownsRow_succ ho2; have HM2 := hide (HM1.out.appR ho2 hg2); clear ho2 hg2; (try go_simp); refine go_ hK (mu_cells HM2.out h1 h2 K1.out K2.out Z1.out Z2.out) (fun hHeld => ?_); refine rb1 14 (fun K hK => ?_); go_simp; obtain ⟨X3, eX3⟩ : ∃ Z, X2.alloc (.cells #[.slice A2 N2 c2] 87) = Z := ⟨_, rfl⟩; rw [eX3]; have HM3 := hide (show MuAt B W X3 (.slice (some ⟨gg2, 0, none⟩) (vr.length + 1) cc2) (.slice Ap Np cp) (vr ++ [.slice A1 N1 c1]) vp by rw [← eX3]; exact HM2.out.alloc _); have LL2_3 := hide (show X3.cell? ⟨X2.heap.size, 0, none⟩ = some (.slice A2 N2 c2) by rw [← eX3]; exact row_new X2 [.slice A2 N2 c2] 87 0 _ rfl); (try go_simp); refine go_ hK (mu_cells HM3.out h1 h2 K1.out K2.out Z1.out Z2.out) (fun hHeld => ?_); refine rb1 15 (fun K hK => ?_); refine step_append_own_g (by rfl) _ _ 27 (by rfl) (B + 1) 87 j0 (.slice none 0 0) 1 24 Tryz.underlying27 hj hy0 hy1 hy2 rfl (by decide) (.slice Ap Np cp) vp.length vp (by go_simp) HM3.out.pg ⟨X2.heap.size, 0, none⟩ 1 1 [.slice A2 N2 c2] (by go_simp) rfl (lit_news LL2_3.out) (by simp [Value.oneCell']) (by simp only [maxLen]; omega) (by omega) (by have := HM3.out.sz; omega) ?_; intro rv4 X4 ho4 hg4; obtain ⟨gg4, cc4, rfl⟩ := ownsRow_succ ho4; have HM4 := hide (HM3.out.appP ho4 hg4); clear ho4 hg4; (try go_simp); refine go_ hK (mu_cells HM4.out h1 h2 K1.out K2.out Z1.out Z2.out) (fun hHeld => ?_); refine tp 16 ?_; refine tp 17 ?_; refine wpAnyB_ready (rs := [18]) (by kernel_rfl) (by simp) ?_; refine AllReadyB.last rfl (by kernel_rfl) (fun K hK => ?_) AllReadyB.nil; have s11 := (mu_cells HM4.out h1 h2 K1.out K2.out Z1.out Z2.out).2.2.1; have s12 := (mu_cells HM4.out h1 h2 K1.out K2.out Z1.out Z2.out).2.2.2; have q11 := mu_free HM4.out HF.out 11; have q12 := mu_free HM4.out HF.out 12; go_simp; (try go_simp); refine hK.out _ _ ?_; (try simp only [Act.put, lA, lB, lC]); refine tq 19 ?_; refine tq 20 ?_; refine wpAnyB_ready (rs := [21]) (by kernel_rfl) (by simp) ?_; refine AllReadyB.last rfl (by kernel_rfl) (fun K hK => ?_) AllReadyB.nil; have s11 := (mu_cells HM4.out h1 h2 K1.out K2.out Z1.out Z2.out).2.2.1; have s12 := (mu_cells HM4.out h1 h2 K1.out K2.out Z1.out Z2.out).2.2.2; have q11 := mu_free HM4.out HF.out 11; have q12 := mu_free HM4.out HF.out 12; go_simp; (try go_simp); refine hK.out _ _ ?_; (try simp only [Act.put, lA, lB, lC]); refine wpAnyB_done (by kernel_rfl) ?_ _; go_wp2; go_end0
     exact ⟨rfl, X4, _, _, HM4.out, rfl⟩
   · skip
     go_simp; obtain ⟨X2, eX2⟩ : ∃ Z, X1.alloc (.cells #[.slice A2 N2 c2] 87) = Z := ⟨_, rfl⟩; rw [eX2]; have HM2 := hide (show MuAt B W X2 (.slice Ar Nr cr) (.slice Ap Np cp) vr vp by rw [← eX2]; exact HM1.out.alloc _); have LL2_2 := hide (show X2.cell? ⟨X1.heap.size, 0, none⟩ = some (.slice A2 N2 c2) by rw [← eX2]; exact row_new X1 [.slice A2 N2 c2] 87 0 _ rfl); have LK1_2 := hide (show X2.cell? ⟨D.heap.size, 0, none⟩ = some (.slice A1 N1 c1) by rw [← eX2]; exact lit_grown LL1_1.out (grown_of_below (balHp _ _) none) (by simp)); (try go_simp); refine go_ hK (mu_cells HM2.out h1 h2 K1.out K2.out Z1.out Z2.out) (fun hHeld => ?_); refine rb1 8 (fun K hK => ?_); refine step_append_own_g (by rfl) _ _ 22 (by rfl) (B + 1) 67 i0 (.slice none 0 0) 1 24 Tryz.underlying22 hi hz0 hz1 hz2 rfl (by decide) (.slice Ar Nr cr) vr.length vr (by go_simp) HM2.out.rg ⟨D.heap.size, 0, none⟩ 1 1 [.slice A1 N1 c1] (by go_simp) rfl (lit_news LK1_2.out) (by simp [Value.oneCell']) (by simp only [maxLen]; omega) (by omega) (by have := HM2.out.sz; omega) ?_; intro rv3 X3 ho3 hg3; obtain ⟨gg3, cc3, rfl⟩ := ownsRow_succ ho3; have HM3 := hide (HM2.out.appR ho3 hg3); have LK2_3 := hide (lit_grown LL2_2.out hg3 (fun e => absurd (HM.out.rg.lt _ e).2 (by first | exact Nat.lt_irrefl _ | (rw [← eX1]; simp)))); clear ho3 hg3; (try go_simp); refine go_ hK (mu_cells HM3.out h1 h2 K1.out K2.out Z1.out Z2.out) (fun hHeld => ?_); refine rb1 15 (fun K hK => ?_); refine step_append_own_g (by rfl) _ _ 27 (by rfl) (B + 1) 87 j0 (.slice none 0 0) 1 24 Tryz.underlying27 hj hy0 hy1 hy2 rfl (by decide) (.slice Ap Np cp) vp.length vp (by go_simp) HM3.out.pg ⟨X1.heap.size, 0, none⟩ 1 1 [.slice A2 N2 c2] (by go_simp) rfl (lit_news LK2_3.out) (by simp [Value.oneCell']) (by simp only [maxLen]; omega) (by omega) (by have := HM3.out.sz; omega) ?_; intro rv4 X4 ho4 hg4; obtain ⟨gg4, cc4, rfl⟩ := ownsRow_succ ho4; have HM4 := hide (HM3.out.appP ho4 hg4); clear ho4 hg4; (try go_simp); refine go_ hK (mu_cells HM4.out h1 h2 K1.out K2.out Z1.out Z2.out) (fun hHeld => ?_); refine tp 16 ?_; refine tp 17 ?_; refine wpAnyB_ready (rs := [18]) (by kernel_rfl) (by simp) ?_; refine AllReadyB.last rfl (by kernel_rfl) (fun K hK => ?_) AllReadyB.nil; have s11 := (mu_cells HM4.out h1 h2 K1.out K2.out Z1.out Z2.out).2.2.1; have s12 := (mu_cells HM4.out h1 h2 K1.out K2.out Z1.out Z2.out).2.2.2; have q11 := mu_free HM4.out HF.out 11; have q12 := mu_free HM4.out HF.out 12; go_simp; (try go_simp); refine hK.out _ _ ?_; (try simp only [Act.put, lA, lB, lC]); refine tq 19 ?_; refine tq 20 ?_; refine wpAnyB_ready (rs := [21]) (by kernel_rfl) (by simp) ?_; refine AllReadyB.last rfl (by kernel_rfl) (fun K hK => ?_) AllReadyB.nil; have s11 := (mu_cells HM4.out h1 h2 K1.out K2.out Z1.out Z2.out).2.2.1; have s12 := (mu_cells HM4.out h1 h2 K1.out K2.out Z1.out Z2.out).2.2.2; have q11 := mu_free HM4.out HF.out 11; have q12 := mu_free HM4.out HF.out 12; go_simp; (try go_simp); refine hK.out _ _ ?_; (try simp only [Act.put, lA, lB, lC]); refine wpAnyB_done (by kernel_rfl) ?_ _; go_wp2; go_end0
     exact ⟨rfl, X4, _, _, HM4.out, rfl⟩
 · skip
   go_simp; obtain ⟨X1, eX1⟩ : ∃ Z, D.alloc (.cells #[.slice A2 N2 c2] 87) = Z := ⟨_, rfl⟩; rw [eX1]; have HM1 := hide (show MuAt B W X1 (.slice Ar Nr cr) (.slice Ap Np cp) vr vp by rw [← eX1]; exact HM.out.alloc _); have LL2_1 := hide (show X1.cell? ⟨D.heap.size, 0, none⟩ = some (.slice A2 N2 c2) by rw [← eX1]; exact row_new D [.slice A2 N2 c2] 87 0 _ rfl); (try go_simp); refine go_ hK (mu_cells HM1.out h1 h2 K1.out K2.out Z1.out Z2.out) (fun hHeld => ?_); refine rb1 7 (fun K hK => ?_); go_simp; obtain ⟨X2, eX2⟩ : ∃ Z, X1.alloc (.cells #[.slice A1 N1 c1] 67) = Z := ⟨_, rfl⟩; rw [eX2]; have HM2 := hide (show MuAt B W X2 (.slice Ar Nr cr) (.slice Ap Np cp) vr vp by rw [← eX2]; exact HM1.out.alloc _); have LL1_2 := hide (show X2.cell? ⟨X1.heap.size, 0, none⟩ = some (.slice A1 N1 c1) by rw [← eX2]; exact row_new X1 [.slice A1 N1 c1] 67 0 _ rfl); have LK2_2 := hide (show X2.cell? ⟨D.heap.size, 0, none⟩ = some (.slice A2 N2 c2) by rw [← eX2]; exact lit_grown LL2_1.out (grown_of_below (balHp _ _) none) (by simp)); (try go_simp); refine go_ hK (mu_cells HM2.out h1 h2 K1.out K2.out Z1.out Z2.out) (fun hHeld => ?_); refine rb1 8 (fun K hK => ?_); refine step_append_own_g (by rfl) _ _ 22 (by rfl) (B + 1) 67 i0 (.slice none 0 0) 1 24 Tryz.underlying22 hi hz0 hz1 hz2 rfl (by decide) (.slice Ar Nr cr) vr.length vr (by go_simp) HM2.out.rg ⟨X1.heap.size, 0, none⟩ 1 1 [.slice A1 N1 c1] (by go_simp) rfl (lit_news LL1_2.out) (by simp [Value.oneCell']) (by simp only [maxLen]; omega) (by omega) (by have := HM2.out.sz; omega) ?_; intro rv3 X3 ho3 hg3; obtain ⟨gg3, cc3, rfl⟩ := ownsRow_succ ho3; have HM3 := hide (HM2.out.appR ho3 hg3); have LK2_3 := hide (lit_grown LK2_2.out hg3 (fun e => absurd (HM.out.rg.lt _ e).2 (by first | exact Nat.lt_irrefl _ | (rw [← eX1]; simp)))); clear ho3 hg3; (try go_simp); refine go_ hK (mu_cells HM3.out h1 h2 K1.out K2.out Z1.out Z2.out) (fun hHeld => ?_); refine rb1 15 (fun K hK => ?_); refine step_append_own_g (by rfl) _ _ 27 (by rfl) (B + 1) 87 j0 (.slice none 0 0) 1 24 Tryz.underlying27 hj hy0 hy1 hy2 rfl (by decide) (.slice Ap Np cp) vp.length vp (by go_simp) HM3.out.pg ⟨D.heap.size, 0, none⟩ 1 1 [.slice A2 N2 c2] (by go_simp) rfl (lit_news LK2_3.out) (by simp [Value.oneCell']) (by simp only [maxLen]; omega) (by omega) (by have := HM3.out.sz; omega) ?_; intro rv4 X4 ho4 hg4; obtain ⟨gg4, cc4, rfl⟩ := ownsRow_succ ho4; have HM4 := hide (HM3.out.appP ho4 hg4); clear ho4 hg4; (try go_simp); refine go_ hK (mu_cells HM4.out h1 h2 K1.out K2.out Z1.out Z2.out) (fun hHeld => ?_); refine tp 16 ?_; refine tp 17 ?_; refine wpAnyB_ready (rs := [18]) (by kernel_rfl) (by simp) ?_; refine AllReadyB.last rfl (by kernel_rfl) (fun K hK => ?_) AllReadyB.nil; have s11 := (mu_cells HM4.out h1 h2 K1.out K2.out Z1.out Z2.out).2.2.1; have s12 := (mu_cells HM4.out h1 h2 K1.out K2.out Z1.out Z2.out).2.2.2; have q11 := mu_free HM4.out HF.out 11; have q12 := mu_free HM4.out HF.out 12; go_simp; (try go_simp); refine hK.out _ _ ?_; (try simp only [Act.put, lA, lB, lC]); refine tq 19 ?_; refine tq 20 ?_; refine wpAnyB_ready (rs := [21]) (by kernel_rfl) (by simp) ?_; refine AllReadyB.last rfl (by kernel_rfl) (fun K hK => ?_) AllReadyB.nil; have s11 := (mu_cells HM4.out h1 h2 K1.out K2.out Z1.out Z2.out).2.2.1; have s12 := (mu_cells HM4.out h1 h2 K1.out K2.out Z1.out Z2.out).2.2.2; have q11 := mu_free HM4.out HF.out 11; have q12 := mu_free HM4.out HF.out 12; go_simp; (try go_simp); refine hK.out _ _ ?_; (try simp only [Act.put, lA, lB, lC]); refine wpAnyB_done (by kernel_rfl) ?_ _; go_wp2; go_end0
   exact ⟨rfl, X4, _, _, HM4.out, rfl⟩
theorem cn_of {C g cp : Nat} {x0 x1 x2 x3 x4 x5 x6 x7 : Int} {b : Nat} {W0 W : World} (hc : W.heap[C]? = some (.cells #[.slice (some ⟨g, 0, none⟩) 8 cp] 67)) (ho : W0.ownsRow b 3 1 (.slice (some ⟨g, 0, none⟩) 8 cp) 8 ([x0, x1, x2, x3, x4, x5, x6, x7].flatMap ic)) (hb : Below W0.heap.size W0 W) :
 Cn C g cp x0 x1 x2 x3 x4 x5 x6 x7 W ∧ g < W0.heap.size := by
 have hlt := (ho.lt g rfl).2; have h := (own_below ho hb).cells (g := g) rfl; have hk : ∀ (j : Nat) (u : Value), ([x0, x1, x2, x3, x4, x5, x6, x7].flatMap ic)[j]? = some u → W.cell? ⟨g, j, none⟩ = some u := fun j u hj => by
  have := h j u hj; rwa [add_none, Nat.zero_add] at this
 exact ⟨⟨cell_of_block hc 0, hk 0 _ rfl, hk 1 _ rfl, hk 2 _ rfl, hk 3 _ rfl, hk 4 _ rfl, hk 5 _ rfl, hk 6 _ rfl, hk 7 _ rfl⟩, hlt⟩
theorem engine_part (R C g cp b : Nat) (w : World) (x0 x1 x2 x3 x4 x5 x6 x7 : Int) (hcp : 8 ≤ cp) (hcm : cp ≤ 9223372036854775807) (hc : w.heap[C]? = some (.cells #[.slice (some ⟨g, 0, none⟩) 8 cp] 67))
 (ho : w.ownsRow b 3 1 (.slice (some ⟨g, 0, none⟩) 8 cp) 8 ([x0, x1, x2, x3, x4, x5, x6, x7].flatMap ic)) (hb : R < b) (hC : C ≠ R) :
 PartAt R w (.func (.func 110) #[] #[.pointer (some ⟨C, 0, none⟩)]) (fun q => { q with wk := x0, mu := x1, cp := x2, bf := x3, bn := x4, mo := x5, pr := x6, li := x7 }) := by
 refine ⟨_, _, rfl, enters_of Tryz.func110 (by kernel_rfl) rfl, fun q => ⟨Nat.le_succ _, Nat.le_succ _⟩, fun W0 W B q hg hL _ _ => ?_⟩; obtain ⟨ob, rg, pg, pk, vr, vp, hL⟩ := hL; obtain ⟨hk, hlt⟩ := kept_block hc (by decide) hC hg hL.bw; obtain ⟨hN, hr⟩ := cn_of hk (kept_own ho (by decide) hb hg) hL.bw; have hb0 := hL.hB; refine (eng_walk C g cp B hcp hcm x0 x1 x2 x3 x4 x5 x6 x7 W hN (by omega) (by omega) q.wk q.mu q.cp q.bf q.bn q.mo q.pr q.li q.sl ob q.ro rg pg pk hL.bp.blk).mono ?_; rintro e w' ⟨rfl, hblk, hb', ho'⟩; exact ⟨rfl, ⟨ob, rg, pg, pk, vr, vp, hL.set hb' ho' ⟨hblk⟩ hL.ob hL.pk rfl rfl⟩, hb'⟩
theorem rowsI_snoc {b0 : Nat} {w : World} {vr : List Value} {l : Rws} {u : Value} {x : List Int} (h : RowsI b0 w vr l) (hu : w.ownsRow b0 3 1 u x.length (x.flatMap ic)) : RowsI b0 w (vr ++ [u]) (l ++ [x]) := by
 refine ⟨by rw [List.length_append, List.length_append, h.1]; rfl, fun i u' x' hu' hx' => ?_⟩; by_cases hi : i < vr.length
 · rw [List.getElem?_append_left hi] at hu'
   rw [List.getElem?_append_left (by rw [← h.1]; exact hi)] at hx'; exact h.2 i u' x' hu' hx'
 · have hlt := (List.getElem?_eq_some_iff.1 hu').1
   rw [List.length_append] at hlt; obtain rfl : i = vr.length := by simp at hlt; omega
   rw [List.getElem?_concat_length] at hu'; rw [h.1, List.getElem?_concat_length] at hx'; cases hu'; cases hx'; exact hu
theorem rowsO_snoc {b0 : Nat} {w : World} {vr : List Value} {l : List (List Oq)} {u : Value} {x : List Oq} (h : RowsO b0 w vr l) (hu : w.ownsRow b0 96 4 u x.length (x.flatMap oq)) : RowsO b0 w (vr ++ [u]) (l ++ [x]) := by
 refine ⟨by rw [List.length_append, List.length_append, h.1]; rfl, fun i u' x' hu' hx' => ?_⟩; by_cases hi : i < vr.length
 · rw [List.getElem?_append_left hi] at hu'
   rw [List.getElem?_append_left (by rw [← h.1]; exact hi)] at hx'; exact h.2 i u' x' hu' hx'
 · have hlt := (List.getElem?_eq_some_iff.1 hu').1
   rw [List.length_append] at hlt; obtain rfl : i = vr.length := by simp at hlt; omega
   rw [List.getElem?_concat_length] at hu'; rw [h.1, List.getElem?_concat_length] at hx'; cases hu'; cases hx'; exact hu
theorem mut_part (R C1 C2 b : Nat) (w : World) (A1 A2 : Option Addr) (N1 c1 N2 c2 : Nat) (l : List Int) (p : List Oq) (hl : l.length = N1) (hp : p.length = N2) (hc1 : w.heap[C1]? = some (.cells #[.slice A1 N1 c1] 67)) (hc2 : w.heap[C2]? = some (.cells #[.slice A2 N2 c2] 87))
 (ho1 : w.ownsRow b 3 1 (.slice A1 N1 c1) N1 (l.flatMap ic)) (ho2 : w.ownsRow b 96 4 (.slice A2 N2 c2) N2 (p.flatMap oq)) (hb : R < b) (hC1 : C1 ≠ R) (hC2 : C2 ≠ R) :
 PartAt R w (.func (.func 122) #[] #[.pointer (some ⟨C1, 0, none⟩), .pointer (some ⟨C2, 0, none⟩)]) (fun q => { q with rg := q.rg ++ [l], pg := q.pg ++ [p] }) := by
 refine ⟨_, _, rfl, enters_of Tryz.func122 (by kernel_rfl) rfl, fun q => ⟨by simp, by simp⟩, fun W0 W B q hg hL hrl hpl => ?_⟩; obtain ⟨ob, rg, pg, pk, vr, vp, hL⟩ := hL; obtain ⟨hk1, hlt1⟩ := kept_block hc1 (by decide) hC1 hg hL.bw; obtain ⟨hk2, hlt2⟩ := kept_block hc2 (by decide) hC2 hg hL.bw; have hI : W0.ownsRow (R + 1) 3 1 (.slice A1 N1 c1) l.length (l.flatMap ic) := by subst hl; exact own_base (kept_own ho1 (by decide) hb hg) (by omega)
 have hO : W0.ownsRow (R + 1) 96 4 (.slice A2 N2 c2) p.length (p.flatMap oq) := by subst hp; exact own_base (kept_own ho2 (by decide) hb hg) (by omega)
 obtain ⟨Ar, cr, hrv, _, _⟩ := own_form hL.rg; obtain ⟨Ap, cp, hpv, _, _⟩ := own_form hL.pg; subst hrv hpv; have hb0 := hL.hB; refine (mut_walk B C1 C2 W A1 A2 Ar Ap N1 c1 N2 c2 _ cr _ cp vr vp ⟨Below.refl _ _, rfl, hL.bp.lt, hL.rg, hL.pg⟩ rfl rfl (by omega) (by omega) (cell_of_block hk1 0) (cell_of_block hk2 0) (cell_of_block hL.bp.blk 11) (cell_of_block hL.bp.blk 12) (unfrozen_of_block hL.bp.blk) (by rw [hL.rr.1]; exact hrl) (by rw [hL.rp.1]; exact hpl)).mono ?_; rintro e w' ⟨rfl, X, rg', pg', hM, rfl⟩; refine ⟨rfl, ⟨ob, rg', pg', pk, vr ++ [.slice A1 N1 c1], vp ++ [.slice A2 N2 c2], ?_⟩, (hM.bw.trans (set_below _ _ _ _)).trans (set_below _ _ _ _)⟩; have hbp := hM.blk.trans hL.bp.blk; refine ⟨hL.hB, hL.bw.trans (((hM.bw.trans (set_below _ _ _ _)).trans (set_below _ _ _ _)).mono hL.hB), ⟨?_⟩, hL.ob, hL.pk, ?_, rowsI_snoc hL.rr hI, ?_, rowsO_snoc hL.rp hO⟩
 · have h := block_setCell hbp (i := 11) rg'
   rw [block_setCell h]; rfl
 · exact ownsRow_setCell_below (ownsRow_setCell_below hM.rg (by simp) _) (by simp) _
 · exact ownsRow_setCell_below (ownsRow_setCell_below hM.pg (by simp) _) (by simp) _
def PartsAt (R : Nat) (w : World) (v : Value) (fs : List (Pq → Pq)) : Prop :=
 ∃ vs : List Value, Sl one 1 w v vs ∧ vs.length = fs.length ∧ ∀ (i : Nat) (u : Value) (f : Pq → Pq), vs[i]? = some u → fs[i]? = some f → PartAt R w u f
def layFPl (fs : List (Pq → Pq)) (q : Pq) : Pq := fs.foldl (fun q f => f q) q
theorem lay_take {fs : List (Pq → Pq)} {i : Nat} {q : Pq} (h : i < fs.length) : layFPl (fs.take (i + 1)) q = fs[i] (layFPl (fs.take i) q) := by
 unfold layFPl; rw [List.take_succ_eq_append_getElem h, List.foldl_append]; rfl
theorem parts_at {R : Nat} {w : World} {A : Option Addr} {n c k : Nat} {fs : List (Pq → Pq)} (h : PartsAt R w (.slice A n c) fs) (hk : k < fs.length) :
 ∃ b off u, A = some ⟨b, off, none⟩ ∧ b < w.heap.size ∧ w.cell? ⟨b, off + k, none⟩ = some u ∧ PartAt R w u fs[k] := by
 obtain ⟨vs, ⟨A', c', e, h1, h2, h3⟩, hl, hi⟩ := h; injection e with e1 e2 e3; subst e1; obtain ⟨b, off, rfl, hb, hc⟩ := h3 (by omega); have hkv : k < vs.length := by omega
 refine ⟨b, off, vs[k], rfl, hb, ?_, hi k _ _ (List.getElem?_eq_getElem hkv) (List.getElem?_eq_getElem hk)⟩; have := hc k vs[k] (List.getElem?_eq_getElem hkv) 0 vs[k] rfl; simpa using this
theorem parts_form {R : Nat} {w : World} {v : Value} {fs : List (Pq → Pq)} (h : PartsAt R w v fs) : ∃ A c, v = .slice A fs.length c ∧ fs.length ≤ c ∧ c ≤ maxLen := by
 obtain ⟨vs, ⟨A, c, rfl, h1, h2, _⟩, hl, _⟩ := h; exact ⟨A, c, by rw [hl], by omega, h2⟩
def LaidP (b0 : Nat) (q : Pq) (w : World) (e : Ending) (w' : World) : Prop :=
 ∃ ob rg pg pk, e = .returned (planV q.wk q.mu q.cp q.bf q.bn q.mo q.pr q.li q.sl ob q.ro rg pg pk) ∧ PlanO b0 w' ob rg pg pk q ∧ Below w.heap.size w w'
theorem lst_zero (b0 : Nat) (w W0 : World) (hb : Below w.heap.size w W0) : Lst b0 w W0.heap.size (W0.alloc (.cells #[.int .i64 0, .int .i64 0, .int .i64 0, .int .i64 0, .int .i64 0, .int .i64 0, .int .i64 0, .int .i64 0, .int .i64 0, .slice none 0 0, .int .u64 0, .slice none 0 0, .slice none 0 0, .slice none 0 0] 30)) zeroQ :=
 ⟨.slice none 0 0, .slice none 0 0, .slice none 0 0, .slice none 0 0, [], [], hb.size, hb.alloc hb.size _, ⟨heap_alloc_new W0 _⟩, OwnRows.nil_, World.ownsRow_nil _ _ _ _, World.ownsRow_nil _ _ _ _, ⟨rfl, by simp⟩, World.ownsRow_nil _ _ _ _, ⟨rfl, by simp⟩⟩
theorem lay_len {fs : List (Pq → Pq)} (h : ∀ f ∈ fs, ∀ q, (f q).rg.length ≤ q.rg.length + 1 ∧ (f q).pg.length ≤ q.pg.length + 1) : ∀ k, (layFPl (fs.take k) zeroQ).rg.length ≤ k ∧ (layFPl (fs.take k) zeroQ).pg.length ≤ k
 | 0 => by simp [layFPl, zeroQ]
 | k + 1 => by
   have ih := lay_len h k; by_cases hk : k < fs.length
   · rw [lay_take hk]
     have := h fs[k] (List.getElem_mem hk) (layFPl (fs.take k) zeroQ); omega
   · rw [List.take_of_length_le (by omega)]
     rw [List.take_of_length_le (by omega)] at ih; omega
theorem PartsAt.lens {R : Nat} {w : World} {v : Value} {fs : List (Pq → Pq)} (h : PartsAt R w v fs) : ∀ f ∈ fs, ∀ q, (f q).rg.length ≤ q.rg.length + 1 ∧ (f q).pg.length ≤ q.pg.length + 1 := by
 obtain ⟨vs, h1, h2, h3⟩ := h; intro f hf; obtain ⟨i, hi, rfl⟩ := List.getElem_of_mem hf; have hv : i < vs.length := by omega
 obtain ⟨_, _, _, _, h4, _⟩ := h3 i _ _ (List.getElem?_eq_getElem hv) (List.getElem?_eq_getElem hi); exact h4
theorem laid_any (R : Nat) (v : Value) (fs : List (Pq → Pq)) (w : World) (h : PartsAt R w v fs) (hn : fs.length ≤ 2000000) (hRw : R < w.heap.size) :
 Calls Tryz.prog 24 #[v] w (LaidP (R + 1) (layFPl fs zeroQ) w) := by
 obtain ⟨A, c, rfl, hc1, hc2⟩ := parts_form h; unfold maxLen at hc2; have HLEN := hide (lay_len h.lens); obtain ⟨W0, e0⟩ : ∃ W0, w.alloc (.cells #[.int .i64 0, .int .i64 0, .int .i64 0, .int .i64 0, .int .i64 0, .int .i64 0, .int .i64 0, .int .i64 0, .int .i64 0, .slice none 0 0, .int .u64 0, .slice none 0 0, .slice none 0 0, .slice none 0 0] 30) = W0 := ⟨_, rfl⟩; have hb0 : Below w.heap.size w W0 := by rw [← e0]; exact balHp _ _
 have hs0 : W0.heap.size = w.heap.size + 1 := by rw [← e0]; simp
 have hz0 : W0.heap[w.heap.size]? = some (.cells (planC 0 0 0 0 0 0 0 0 0 (.slice none 0 0) 0 (.slice none 0 0) (.slice none 0 0) (.slice none 0 0)) 30) := by rw [← e0]; exact heap_alloc_new w _
 have HP := hide h; have HZ := hide (lst_zero (R + 1) w W0 hb0); obtain ⟨W1, e1⟩ : ∃ W1, W0.alloc (.cells #[.int .i64 0, .int .i64 0, .int .i64 0, .int .i64 0, .int .i64 0, .int .i64 0, .int .i64 0, .int .i64 0, .int .i64 0, .slice none 0 0, .int .u64 0, .slice none 0 0, .slice none 0 0, .slice none 0 0] 30) = W1 := ⟨_, rfl⟩; rw [e1] at HZ; have HE0 := hide e0; have HE1 := hide e1; have HB0 := hide hb0; have HS0 := hide hs0; have HZ0 := hide hz0; clear h e0 e1 hb0 hz0 hs0; go_enter Tryz.func24, Tryz.ntmps24
 go_wp2_with fail
 rw [HE0.out, HE1.out]; go_loopw [8] (fun iv wr => ∃ k : Nat, k ≤ fs.length ∧ iv = .int .i64 k ∧ Hid (Lst (R + 1) w (w.heap.size + 1) wr (layFPl (fs.take k) zeroQ)) ∧ Hid (wr.heap[w.heap.size]? = some (.cells (planC 0 0 0 0 0 0 0 0 0 (.slice none 0 0) 0 (.slice none 0 0) (.slice none 0 0) (.slice none 0 0)) 30))) (fun iv _ => fs.length - (intOf iv).toNat)
 case atStart => exact ⟨0, Nat.zero_le _, rfl, by have h := HZ.out; rw [HS0.out] at h; exact hide h, by rw [← HE1.out]; exact hide ((Below.heap_alloc _ _ _ (by rw [HS0.out]; omega)).trans HZ0.out)⟩
 case round =>
  obtain ⟨k, hk, rfl, HL, HR0⟩ := hrel; by_cases hlt : k < fs.length
  · obtain ⟨b, off, u, rfl, hb, hc, hpt⟩ := parts_at HP.out hlt
    obtain ⟨fo, caps, rfl, hcf, -, hcall⟩ := hpt; obtain ⟨l1, l2⟩ := HLEN.out k; have HT := hide (lay_take (q := zeroQ) hlt); have HC := hide (hcall w wr _ _ (KpR.refl _ _) HL.out (by omega) (by omega)); have hbw : Below w.heap.size w wr := by obtain ⟨_, _, _, _, _, _, h⟩ := HL.out; exact h.bw
    have hcw : wr.cell? ⟨b, off + k, none⟩ = some (.func (.func fo) #[] caps) := (hbw.cell (p := ⟨b, off + k, none⟩) hb).trans hc; clear hcall hc hbw l1 l2 hb; go_wp2_with fail
    refine HC.out.mono ?_; rintro e w2 ⟨rfl, hL2, hb2⟩; have HL2 := hide hL2; have HR2 := hide ((hb2.block w.heap.size (by omega)).trans HR0.out); clear hL2 hb2; go_wp2; go_roundw
    case rel => exact ⟨k + 1, by omega, by go_num, by rw [HT.out]; exact HL2, HR2⟩
    case measure => simp [intOf]; omega
  · obtain rfl : k = fs.length := by omega
    rw [List.take_length] at HL; obtain ⟨ob, rg, pg, pk, vr, vp, hL⟩ := HL.out; obtain ⟨q, hq⟩ : ∃ q, layFPl fs zeroQ = q := ⟨_, rfl⟩; rw [hq] at hL ⊢; obtain ⟨a, b, c', d, e, f, g, h, n, lo, s, lr, lp, lk⟩ := q; obtain ⟨A1, m1, rfl, _, _⟩ := OwnRows.form hL.ob; obtain ⟨A2, m2, rfl, _, _⟩ := own_form hL.rg; obtain ⟨A3, m3, rfl, _, _⟩ := own_form hL.pg; obtain ⟨A4, m4, rfl, _, _⟩ := own_form hL.pk; have HVL := hide (show ∃ vr' vp', LsV (R + 1) w (w.heap.size + 1) wr ⟨a, b, c', d, e, f, g, h, n, lo, s, lr, lp, lk⟩ (.slice A1 lo.length m1) (.slice A2 vr.length m2) (.slice A3 vp.length m3) (.slice A4 lk.length m4) vr' vp' from ⟨_, _, hL⟩); obtain ⟨x0, x1, x2, x3, x4, x5, x6, x7, x8, x9, xa, xb, xc, xd⟩ := hL.bp.cells; have hz := HR0.out; have y0 := cell_of_block hz 0; have f0 := unfrozen_of_block hz 0; have y1 := cell_of_block hz 1; have f1 := unfrozen_of_block hz 1; have y2 := cell_of_block hz 2; have f2 := unfrozen_of_block hz 2; have y3 := cell_of_block hz 3; have f3 := unfrozen_of_block hz 3; have y4 := cell_of_block hz 4; have f4 := unfrozen_of_block hz 4; have y5 := cell_of_block hz 5; have f5 := unfrozen_of_block hz 5; have y6 := cell_of_block hz 6; have f6 := unfrozen_of_block hz 6; have y7 := cell_of_block hz 7; have f7 := unfrozen_of_block hz 7; have y8 := cell_of_block hz 8; have f8 := unfrozen_of_block hz 8; have y9 := cell_of_block hz 9; have f9 := unfrozen_of_block hz 9; have y10 := cell_of_block hz 10; have f10 := unfrozen_of_block hz 10; have y11 := cell_of_block hz 11; have f11 := unfrozen_of_block hz 11; have y12 := cell_of_block hz 12; have f12 := unfrozen_of_block hz 12; have y13 := cell_of_block hz 13; have f13 := unfrozen_of_block hz 13; have HQ := hide hq; clear hL hz hq HL; go_wp2; refine bodyPost_ret (v := planV a b c' d e f g h n (.slice A1 lo.length m1) s (.slice A2 vr.length m2) (.slice A3 vp.length m3) (.slice A4 lk.length m4)) (by simp [results, Tryz.results24, go_sem, y0, y1, y2, y3, y4, y5, y6, y7, y8, y9, y10, y11, y12, y13]) rfl ?_; rw [HQ.out]; obtain ⟨vr', vp', HV⟩ := HVL.out; have kS : ∀ {X : World} (i : Nat) (v : Value), LsV (R + 1) w (w.heap.size + 1) X ⟨a, b, c', d, e, f, g, h, n, lo, s, lr, lp, lk⟩ (.slice A1 lo.length m1) (.slice A2 vr.length m2) (.slice A3 vp.length m3) (.slice A4 lk.length m4) vr' vp' →
     LsV (R + 1) w (w.heap.size + 1) (X.setCell ⟨w.heap.size, i, none⟩ v) ⟨a, b, c', d, e, f, g, h, n, lo, s, lr, lp, lk⟩ (.slice A1 lo.length m1) (.slice A2 vr.length m2) (.slice A3 vp.length m3) (.slice A4 lk.length m4) vr' vp' := fun {X} i v hX =>
     ⟨hX.hB, hX.bw.setCell (p := ⟨w.heap.size, i, none⟩) (Nat.le_refl _) v, ⟨(set_others X w.heap.size i v _ (by omega)).trans hX.bp.blk⟩, hX.ob, hX.pk, ownsRow_setCell_below hX.rg (show w.heap.size < _ by omega) _, hX.rr, ownsRow_setCell_below hX.pg (show w.heap.size < _ by omega) _, hX.rp⟩
    have hF := kS 13 (.slice A4 lk.length m4) (kS 12 (.slice A3 vp.length m3) (kS 11 (.slice A2 vr.length m2) (kS 10 (.int .u64 (s : Int)) (kS 9 (.slice A1 lo.length m1) (kS 8 (.int .i64 n) (kS 7 (.int .i64 h) (kS 6 (.int .i64 g) (kS 5 (.int .i64 f) (kS 4 (.int .i64 e) (kS 3 (.int .i64 d) (kS 2 (.int .i64 c') (kS 1 (.int .i64 b) (kS 0 (.int .i64 a) HV))))))))))))); exact ⟨_, _, _, _, rfl, hF.read (by omega), hF.bw⟩
end Go.Proofs.YtjbaiibbgplljaaGreatDoor
namespace Go.Proofs.YtjbaiibbgplljaaGreatDoor
open Go.RowKit Go.Joins
def RowsV {α : Type} (b : Nat) (t : TypeId) (k : Nat) (enc : α → List Value) (w : World) (vs : List Value) (ls : List (List α)) : Prop :=
 vs.length = ls.length ∧ ∀ (i : Nat) (u : Value) (x : List α), vs[i]? = some u → ls[i]? = some x → w.ownsRow b t k u x.length (x.flatMap enc)
theorem rowsV_snoc {α : Type} {b : Nat} {t : TypeId} {k : Nat} {enc : α → List Value} {w : World} {vs : List Value} {ls : List (List α)} {u : Value} {x : List α} (h : RowsV b t k enc w vs ls) (hu : w.ownsRow b t k u x.length (x.flatMap enc)) : RowsV b t k enc w (vs ++ [u]) (ls ++ [x]) := by
 refine ⟨by simp [h.1], fun i v y hi hj => ?_⟩; by_cases hlt : i < vs.length
 · rw [List.getElem?_append_left hlt] at hi
   rw [List.getElem?_append_left (by rw [← h.1]; exact hlt)] at hj; exact h.2 i v y hi hj
 · have e : i = vs.length := by
    have := (List.getElem?_eq_some_iff.1 hi).1; simp at this; omega
   subst e; rw [List.getElem?_append_right (Nat.le_refl _), Nat.sub_self, List.getElem?_cons_zero, Option.some.injEq] at hi; rw [h.1, List.getElem?_append_right (Nat.le_refl _), Nat.sub_self, List.getElem?_cons_zero, Option.some.injEq] at hj; subst hi hj; exact hu
structure Dv (B : Nat) (Wb W0 X : World) (rg pg : Value) (vr vp : List Value) (lr : Rws) (lp : List (List Oq)) : Prop where
 hB : B < W0.heap.size
 bw : Below B Wb X
 sz : W0.heap.size ≤ X.heap.size
 kp : ∀ i, i < W0.heap.size → i ≠ B → X.heap[i]? = W0.heap[i]?
 rg : X.ownsRow W0.heap.size 67 1 rg vr.length vr
 rr : RowsV W0.heap.size 3 1 ic X vr lr
 pg : X.ownsRow W0.heap.size 79 1 pg vp.length vp
 rp : RowsV W0.heap.size 81 4 oq X vp lp
section
variable {B : Nat} {Wb W0 X X' : World} {rg pg rg' pg' u : Value} {vr vp : List Value} {lr : Rws} {lp : List (List Oq)}
theorem Dv.below (h : Dv B Wb W0 X rg pg vr vp lr lp) (hb : Below X.heap.size X X') : Dv B Wb W0 X' rg pg vr vp lr lp :=
 ⟨h.hB, h.bw.trans (hb.mono (by have := h.hB; have := h.sz; omega)), Nat.le_trans h.sz hb.size, fun i hi hn => (hb.block i (by have := h.sz; omega)).trans (h.kp i hi hn), own_below h.rg hb, ⟨h.rr.1, fun i u x hu hx => own_below (h.rr.2 i u x hu hx) hb⟩, own_below h.pg hb, ⟨h.rp.1, fun i u x hu hx => own_below (h.rp.2 i u x hu hx) hb⟩⟩
theorem Dv.set (h : Dv B Wb W0 X rg pg vr vp lr lp) (i : Nat) (v : Value) : Dv B Wb W0 (X.setCell ⟨B, i, none⟩ v) rg pg vr vp lr lp :=
 ⟨h.hB, h.bw.setCell (p := ⟨B, i, none⟩) (Nat.le_refl _) v, by have := h.sz; simpa [World.setCell] using this, fun j hj hn => (Below.heap_setCell X ⟨B, i, none⟩ v j hn).trans (h.kp j hj hn),
  ownsRow_setCell_below h.rg h.hB v, ⟨h.rr.1, fun i u x hu hx => ownsRow_setCell_below (h.rr.2 i u x hu hx) h.hB v⟩, ownsRow_setCell_below h.pg h.hB v, ⟨h.rp.1, fun i u x hu hx => ownsRow_setCell_below (h.rp.2 i u x hu hx) h.hB v⟩⟩
theorem own_kept_apart {b1 b2 : Nat} {t1 t2 : TypeId} {s1 s2 n1 n2 : Nat} {v1 v2 : Value} {x1 x2 : List Value} (h1 : X.ownsRow b1 t1 s1 v1 n1 x1) (h2 : X.ownsRow b2 t2 s2 v2 n2 x2) (hne : t1 ≠ t2) (hg : X.grownBy X' v2.ownBlock) : X'.ownsRow b1 t1 s1 v1 n1 x1 :=
 h1.kept hg (own_apart h1 h2 hne).symm
theorem Dv.appR {l : List Int} (h : Dv B Wb W0 X rg pg vr vp lr lp) (hu : X.ownsRow W0.heap.size 3 1 u l.length (l.flatMap ic)) (ho : X'.ownsRow W0.heap.size 67 1 rg' (vr.length + 1) (vr ++ [u])) (hg : X.grownBy X' rg.ownBlock) : Dv B Wb W0 X' rg' pg (vr ++ [u]) vp (lr ++ [l]) lp := by
 have hge := own_ge h.rg; have hB := h.hB; have hsz := h.sz; refine ⟨h.hB, h.bw.grown hg (by omega) (fun k hk => by have := hge k hk; omega), Nat.le_trans h.sz hg.size, fun i hi hn => (hg.block i (by omega) (fun e => by have := hge i e.symm; omega)).trans (h.kp i hi hn), by rw [List.length_append]; exact ho,
  rowsV_snoc ⟨h.rr.1, fun i u x hu hx => own_kept_apart (h.rr.2 i u x hu hx) h.rg (by decide) hg⟩ (own_kept_apart hu h.rg (by decide) hg), own_kept_apart h.pg h.rg (by decide) hg, ⟨h.rp.1, fun i u x hu hx => own_kept_apart (h.rp.2 i u x hu hx) h.rg (by decide) hg⟩⟩
theorem Dv.appP {l : List Oq} (h : Dv B Wb W0 X rg pg vr vp lr lp) (hu : X.ownsRow W0.heap.size 81 4 u l.length (l.flatMap oq)) (ho : X'.ownsRow W0.heap.size 79 1 pg' (vp.length + 1) (vp ++ [u])) (hg : X.grownBy X' pg.ownBlock) : Dv B Wb W0 X' rg pg' vr (vp ++ [u]) lr (lp ++ [l]) := by
 have hge := own_ge h.pg; have hB := h.hB; have hsz := h.sz; refine ⟨h.hB, h.bw.grown hg (by omega) (fun k hk => by have := hge k hk; omega), Nat.le_trans h.sz hg.size, fun i hi hn => (hg.block i (by omega) (fun e => by have := hge i e.symm; omega)).trans (h.kp i hi hn), own_kept_apart h.rg h.pg (by decide) hg,
  ⟨h.rr.1, fun i u x hu hx => own_kept_apart (h.rr.2 i u x hu hx) h.pg (by decide) hg⟩, by rw [List.length_append]; exact ho, rowsV_snoc ⟨h.rp.1, fun i u x hu hx => own_kept_apart (h.rp.2 i u x hu hx) h.pg (by decide) hg⟩ (own_kept_apart hu h.pg (by decide) hg)⟩
end
theorem Bp.grown {t : TypeId} {w w' : World} {B : Nat} {a b c d e f g h n : Int} {ob : Value} {s : Nat} {rg pg pk : Value} {row : Option Nat} (k : Bp t w B a b c d e f g h n ob s rg pg pk) (hg : w.grownBy w' row) (hne : row ≠ some B) : Bp t w' B a b c d e f g h n ob s rg pg pk :=
 ⟨(hg.block B k.lt (fun e => hne e.symm)).trans k.blk⟩
theorem Bp.free {t : TypeId} {w : World} {B : Nat} {a b c d e f g h n : Int} {ob : Value} {s : Nat} {rg pg pk : Value} (k : Bp t w B a b c d e f g h n ob s rg pg pk) (i : Nat) : w.frozen? ⟨B, i, none⟩ = false := unfrozen_of_block k.blk i
theorem Bp.set11 {t : TypeId} {w : World} {B : Nat} {a b c d e f g h n : Int} {ob : Value} {s : Nat} {rg pg pk : Value} (k : Bp t w B a b c d e f g h n ob s rg pg pk) (v : Value) : Bp t (w.setCell ⟨B, 11, none⟩ v) B a b c d e f g h n ob s v pg pk := ⟨by rw [block_setCell k.blk]; rfl⟩
theorem Bp.set12 {t : TypeId} {w : World} {B : Nat} {a b c d e f g h n : Int} {ob : Value} {s : Nat} {rg pg pk : Value} (k : Bp t w B a b c d e f g h n ob s rg pg pk) (v : Value) : Bp t (w.setCell ⟨B, 12, none⟩ v) B a b c d e f g h n ob s rg v pk := ⟨by rw [block_setCell k.blk]; rfl⟩
theorem rCut_sp (q : B8) (w : World) (ht : q.length ≤ 1048576) :
 Calls Tryz.prog 26 #[.string ⟨q.toArray⟩, .int .u8 32] w fun e w' => ∃ v, e = .returned v ∧ w'.ownsRow w.heap.size 9 1 v (cutG 32 [] q).length ((cutG 32 [] q).flatMap tcRf) ∧ Below w.heap.size w w' := rCut_any ⟨q.toArray⟩ 32 w ht
theorem rpList_44 (S : B8) (w : World) (hs : S.length ≤ 1048576) : Calls Tryz.prog 28 #[.string ⟨S.toArray⟩, .int .u8 44] w (LRead 44 S w) := rpList_any S 44 w hs
theorem rpList_32 (S : B8) (w : World) (hs : S.length ≤ 1048576) : Calls Tryz.prog 28 #[.string ⟨S.toArray⟩, .int .u8 32] w (LRead 32 S w) := rpList_any S 32 w hs
theorem rpAfter_mut (S : B8) (w : World) (hs : S.length ≤ 140737488351232) : Calls Tryz.prog 27 #[.string ⟨S.toArray⟩, .string ⟨#[109, 117, 116, 97, 116, 111, 114]⟩] w fun e w' => e = .returned (afterV (afterF mutW S)) ∧ w' = w := rpAfter_any S mutW w hs (by decide)
theorem mutP_len {a s : B8} (h : afterF mutW a = some s) (hn : (cut 32 s).length ≠ 2) : mutP a = .error 2 := by
 unfold mutP; rw [h]; dsimp only; split
 · rename_i x y hxy
   rw [hxy] at hn; exact absurd rfl hn
 · rfl
theorem mutP_two {a s x y : B8} (h : afterF mutW a = some s) (hc : cut 32 s = [x, y]) : mutP a = match listFPl 44 x with | none => .error 2 | some l => if (cParse y).2 = 0 then .ok (l, (cParse y).1) else .error (cParse y).2 := by
 unfold mutP; rw [h]; dsimp only; rw [hc]; rfl
theorem after_len {w s r : B8} (h : afterF w s = some r) : r.length ≤ s.length := by
 unfold afterF at h; split at h
 · injection h with h
   rw [← h, List.length_drop]; omega
 · cases h
def MutQ (B : Nat) (Wb W0 X : World) (a b c d e f g h n : Int) (ob : Value) (s : Nat) (pk : Value) (lr : Rws) (lp : List (List Oq)) (x : Ending) (w' : World) : Except Int (List Int × List Oq) → Prop
 | .error k => k ≠ 0 ∧ x = .returned (.int .i64 k) ∧ Below X.heap.size X w'
 | .ok y => x = .returned (.int .i64 0) ∧ ∃ rg' pg' vr' vp', Dv B Wb W0 w' rg' pg' vr' vp' (lr ++ [y.1]) (lp ++ [y.2]) ∧ Bp 40 w' B a b c d e f g h n ob s rg' pg' pk
theorem infoRr : (Tryz.prog.info? 79).map (fun i => (i.zero, i.size, i.bytes)) = some (some (.slice none 0 0), 1, 24) := by kernel_rfl
theorem infoRi : (Tryz.prog.info? 67).map (fun i => (i.zero, i.size, i.bytes)) = some (some (.slice none 0 0), 1, 24) := by kernel_rfl
theorem rpMut_any (B : Nat) (Wb W0 X : World) (a b c d e f g h n : Int) (ob : Value) (s : Nat) (rg pg pk : Value) (vr vp : List Value) (lr : Rws) (lp : List (List Oq)) (T : B8) (hT : T.length ≤ 1048576) (hD : Dv B Wb W0 X rg pg vr vp lr lp) (hb : Bp 40 X B a b c d e f g h n ob s rg pg pk) (hn : lr.length ≤ 1048576 ∧ lp.length ≤ 1048576) :
 Calls Tryz.prog 31 #[.pointer (some ⟨B, 0, none⟩), .string ⟨T.toArray⟩] X fun x w' => MutQ B Wb W0 X a b c d e f g h n ob s pk lr lp x w' (mutP T) := by
 have HD := hide hD; have HB := hide hb; have hvr : vr.length ≤ 1048576 := by rw [hD.rr.1]; exact hn.1
 have hvp : vp.length ≤ 1048576 := by rw [hD.rp.1]; exact hn.2
 obtain ⟨Ar, mr, rfl, hr1, hr2⟩ := own_form hD.rg; obtain ⟨Ap, mp, rfl, hp1, hp2⟩ := own_form hD.pg; unfold maxLen at hr2 hp2; clear hD hb hn; obtain ⟨o, ho⟩ : ∃ o, afterF mutW T = o := ⟨_, rfl⟩; have HAF := hide ho; go_enter Tryz.func31, Tryz.ntmps31
 go_wp2_with fail
 (with_reducible refine (rpAfter_mut T _ (by omega)).mono ?_); rintro x w1 ⟨rfl, hw1⟩; obtain rfl := hw1.symm; rw [HAF.out]; cases o with
 | none =>
   have HM := hide (mutP_none HAF.out); clear ho; dsimp only [afterV]; go_wp2_with fail
   (with_reducible refine (rCut_sp [] _ (by simp)).mono ?_); rintro x w2 ⟨v, rfl, -, hb2⟩; go_wp2; go_ret
   rw [HM.out]; exact ⟨by decide, rfl, hb2⟩
 | some S =>
   have hSl := after_len ho; clear ho; dsimp only [afterV]; obtain ⟨Q, hQ⟩ : ∃ Q, cut 32 S = Q := ⟨_, rfl⟩; have HQ0 := hide hQ; have HQ := hide ((cutG_cut 32 S).trans hQ); have HQS := hide (show ∀ p ∈ Q, p.length ≤ 1048576 by
    intro p hp; rw [← HQ.out] at hp; have := cutG_size 32 S [] p hp; simp at this; omega)
   have hQl : Q.length ≤ 1048577 := by rw [← HQ.out]; have := cutG_len 32 S []; omega
   clear hQ; go_wp2_with fail
   (with_reducible refine (rCut_sp S _ (by omega)).mono ?_); rintro x w2 ⟨v, rfl, hown, hb2⟩; rw [HQ.out] at hown; have HC2 := hide (show Pcs w2 v Q from Sl.of_own tc_len hown); obtain ⟨A2, c2, rfl, hc1, hc2⟩ := own_form hown; unfold maxLen at hc2; clear hown; by_cases h2 : Q.length = 2
   rotate_left
   · have HM := hide (mutP_len HAF.out (by rw [HQ0.out]; exact h2))
     have q1 : ((Q.length : Int) != 2) = true := by rw [bne_iff_ne]; omega
     clear h2; go_wp2; go_ret
     rw [HM.out]; exact ⟨by decide, rfl, hb2⟩
   obtain ⟨P1, P2, rfl⟩ : ∃ P1 P2, Q = [P1, P2] := by
    match Q, h2 with
    | [x, y], _ => exact ⟨x, y, rfl⟩
   have HMT := hide (mutP_two HAF.out HQ0.out); have g1 := HQS.out P1 (by simp); have g2 := HQS.out P2 (by simp); obtain ⟨b0, o0, rfl, -, p0⟩ := pcs_at HC2.out (k := 0) (by simp); obtain ⟨b1, o1, e1, -, p1⟩ := pcs_at HC2.out (k := 1) (by simp); injection e1 with e1; injection e1 with e1 e2; subst e1 e2; simp only [List.getElem_cons_zero, List.getElem_cons_succ, Nat.add_zero] at p0 p1; clear h2 hQl hc1; simp only [List.length_cons, List.length_nil, Nat.zero_add, Nat.reduceAdd] at *; go_wp2_with fail
   (with_reducible refine (rpList_44 P1 _ g1).mono ?_); rintro x w3 ⟨v3, l, bb, hl, rfl, hown3, hb3⟩; have hb23 := bcall hb2 hb3; obtain ⟨A3, c3, rfl, -, hc3⟩ := own_form hown3; rcases hl with ⟨hl, rfl⟩ | ⟨hl, rfl, rfl⟩
   rotate_left
   · have HM := hide (show mutP T = .error 2 by rw [HMT.out, hl])
     clear hl; go_wp2; go_ret
     rw [HM.out]; exact ⟨by decide, rfl, hb23⟩
   have HL := hide hl; have HO3 := hide hown3; have p1 := keepcHp hb3 p1; clear hl hown3; have g2' : (⟨P2.toArray⟩ : ByteArray).size ≤ 1048576 := g2; go_wp2_with fail
   (with_reducible refine (rcParse_own ⟨P2.toArray⟩ _ g2').mono ?_); rintro x w4 ⟨v4, rfl, hown4, hb4⟩; rw [show (⟨P2.toArray⟩ : ByteArray).data.toList = P2 by simp] at hown4 ⊢; have hb24 := bcall hb23 hb4; by_cases he : (cParse P2).2 = 0
   rotate_left
   · have HM := hide (show mutP T = .error (cParse P2).2 by rw [HMT.out, HL.out]; dsimp only; rw [if_neg he])
     have q1 : ((cParse P2).2 != 0) = true := by rw [bne_iff_ne]; exact he
     have HEN := hide he; clear he; obtain ⟨k, hk⟩ : ∃ k, (cParse P2).2 = k := ⟨_, rfl⟩; rw [hk] at q1 HM HEN ⊢; obtain ⟨A4, c4, rfl, -, -⟩ := own_form hown4; go_wp2; go_ret
     rw [HM.out]; exact ⟨HEN.out, rfl, hb24⟩
   have HM := hide (show mutP T = .ok (l, (cParse P2).1) by rw [HMT.out, HL.out]; dsimp only; rw [if_pos he]); rw [he]; obtain ⟨O, hO⟩ : ∃ O, (cParse P2).1 = O := ⟨_, rfl⟩; rw [hO] at HM hown4; clear he hO; obtain ⟨A4, c4, rfl, -, hc4⟩ := own_form hown4; unfold maxLen at hc3 hc4; have HD4 := hide (HD.out.below hb24); have HB4 := hide (HB.out.below hb24); have hs0 := HD.out.sz; have hs4 := hb24.size; have HL4 := hide (own_base (own_below HO3.out hb4) (show W0.heap.size ≤ w2.heap.size by have := hb2.size; omega)); have HO4 := hide (own_base hown4 (show W0.heap.size ≤ w3.heap.size by have := hb23.size; omega)); clear hown4 HO3 HL HC2 HMT HAF HQ HQ0 HQS p0 p1 g1 g2 g2' hb2 hb3 hb23 hb4 hb24 HD HB; obtain ⟨i0, hi, hz0, hz1, hz2⟩ := info_parts infoRi; obtain ⟨j0, hj, hy0, hy1, hy2⟩ := info_parts infoRr; have x1 : w4.cell? ⟨B, 11, none⟩ = some (.slice Ar vr.length mr) := HB4.out.all2.2.2.2.1; have hBw : B < w4.heap.size := HB4.out.lt; have hws : W0.heap.size ≤ w4.heap.size := HD4.out.sz; have hne : (Value.slice Ar vr.length mr).ownBlock ≠ some B := fun e => by have := own_ge HD4.out.rg _ e; have := HD4.out.hB; omega
   have hne2 : (Value.slice Ap vp.length mp).ownBlock ≠ some B := fun e => by have := own_ge HD4.out.pg _ e; have := HD4.out.hB; omega
   have HN2 := hide hne2; have KX := hide (show ∀ (o : Obj) (W : World), (w4.alloc o).grownBy W (Value.slice Ar vr.length mr).ownBlock → Bp 40 W B a b c d e f g h n ob s (.slice Ar vr.length mr) (.slice Ap vp.length mp) pk from fun o W hg => (HB4.out.below (balHp _ _)).grown hg hne); have x1a : ∀ o, (w4.alloc o).cell? ⟨B, 11, none⟩ = some (.slice Ar vr.length mr) := fun o => keepcHp (balHp _ _) x1
   clear hne hne2; go_upto_region 12 with (at_builtin; refine wpList_append_own _ rfl _ _ 22 rfl W0.heap.size 67 i0 (.slice none 0 0) 1 24 Tryz.underlying22 hi hz0 hz1 hz2 rfl (by decide) _ vr.length vr rfl (HD4.out.rg.alloc _) ⟨_, 0, none⟩ 1 1 [.slice A3 l.length c3] rfl rfl (row_at _ _ _ (by simp)) (by simp [Value.oneCell']) (by simp only [maxLen]; omega) (by omega) (by simp; omega) ?_; intro v7 w7 hown7 hgrow7 _; obtain ⟨A7, c7, rfl, hc7, hm7⟩ := own_form hown7; have HK7 := hide (KX.out _ _ hgrow7); have g0 := HK7.out.all2.2.2.2.1; have g1 := HK7.out.free 11)
   have HD7 := hide ((HD4.out.below (balHp _ _)).appR (own_below HL4.out (balHp _ _)) hown7 hgrow7); have HO7 := hide (own_kept_apart (HO4.out.alloc _) (HD4.out.rg.alloc _) (by decide) hgrow7); have hs7 := hgrow7.size; clear hown7 hgrow7 KX g0 g1; obtain ⟨X5, hX5⟩ : ∃ Z, w7.setCell ⟨B, 11, none⟩ (.slice A7 (vr.length + 1) c7) = Z := ⟨_, rfl⟩; rw [hX5]; have HD5 := hide (show Dv B Wb W0 X5 (.slice A7 (vr.length + 1) c7) (.slice Ap vp.length mp) (vr ++ [.slice A3 l.length c3]) vp (lr ++ [l]) lp from by rw [← hX5]; exact HD7.out.set 11 _); have HB5 := hide (show Bp 40 X5 B a b c d e f g h n ob s (.slice A7 (vr.length + 1) c7) (.slice Ap vp.length mp) pk from by rw [← hX5]; exact HK7.out.set11 _); have HO5 := hide (show X5.ownsRow W0.heap.size 81 4 (.slice A4 O.length c4) O.length (O.flatMap oq) from by rw [← hX5]; exact ownsRow_setCell_below HO7.out HD7.out.hB _); clear hX5 HD7 HK7 HO7 HD4 HB4 HL4 HO4 x1 x1a hws hBw; have y1 : X5.cell? ⟨B, 12, none⟩ = some (.slice Ap vp.length mp) := HB5.out.all2.2.2.2.2.1; have hBw : B < X5.heap.size := HB5.out.lt; have hws : W0.heap.size ≤ X5.heap.size := HD5.out.sz; have KY := hide (show ∀ (o : Obj) (W : World), (X5.alloc o).grownBy W (Value.slice Ap vp.length mp).ownBlock → Bp 40 W B a b c d e f g h n ob s (.slice A7 (vr.length + 1) c7) (.slice Ap vp.length mp) pk from fun o W hg => (HB5.out.below (balHp _ _)).grown hg HN2.out); have y1a : ∀ o, (X5.alloc o).cell? ⟨B, 12, none⟩ = some (.slice Ap vp.length mp) := fun o => keepcHp (balHp _ _) y1
   go_wp2_with (at_builtin; refine wpList_append_own _ rfl _ _ 37 rfl W0.heap.size 79 j0 (.slice none 0 0) 1 24 Tryz.underlying37 hj hy0 hy1 hy2 rfl (by decide) _ vp.length vp rfl (HD5.out.pg.alloc _) ⟨_, 0, none⟩ 1 1 [.slice A4 O.length c4] rfl rfl (row_at _ _ _ (by simp)) (by simp [Value.oneCell']) (by simp only [maxLen]; omega) (by omega) (by simp; omega) ?_; intro v8 w8 hown8 hgrow8 _; obtain ⟨A8, c8, rfl, hc8, hm8⟩ := own_form hown8; have HK8 := hide (KY.out _ _ hgrow8); have g0 := HK8.out.all2.2.2.2.2.1; have g1 := HK8.out.free 12)
   have HD8 := hide ((HD5.out.below (balHp _ _)).appP (own_below HO5.out (balHp _ _)) hown8 hgrow8); go_ret
   rw [HM.out]; exact ⟨rfl, _, _, _, _, HD8.out.set 12 _, HK8.out.set12 _⟩
open Go.Shelf Go.Proofs
theorem objG_snoc (g : Nat → Int) (n : Int) (k i : Nat) : objG g n (k + 1) i = objG g n k i ++ [g (i + k) % (n + 1)] := by
 unfold objG; rw [List.range_succ, List.map_append]; rfl
theorem objsG_snoc (g : Nat → Int) (n : Int) (s : Nat) : ∀ (k i : Nat), objsG g n s (k + 1) i = objsG g n s k i ++ [objG g n s (i + k * s)]
 | 0, i => by simp [objsG]
 | k + 1, i => by
   rw [objsG, objsG_snoc g n s k (i + s)]; rw [show objsG g n s (k + 1) i = objG g n s i :: objsG g n s k (i + s) from rfl, List.cons_append]; rw [show i + s + k * s = i + (k + 1) * s by rw [Nat.add_mul]; omega]
theorem mutsG_snoc (g : Nat → Int) (n sl : Int) : ∀ (k i : Nat), mutsG g n sl (k + 1) i = ((mutsG g n sl k i).1 ++ [(mutG g n sl (mutsG g n sl k i).2).1], (mutG g n sl (mutsG g n sl k i).2).2)
 | 0, i => rfl
 | k + 1, i => by
   rw [mutsG, mutsG_snoc g n sl k (mutG g n sl i).2]; rfl
def RegInv (g : Nat → Int) (n : Int) (i0 : Nat) (r : List Int) (i : Nat) : Prop :=
 ∃ F, F + r.length = 4 ∧ 1 ≤ F ∧ regG g n 4 i0 0 = (r ++ (regG g n F i r.length).1, (regG g n F i r.length).2)
theorem RegInv.start (g : Nat → Int) (n : Int) (i0 : Nat) : RegInv g n i0 [] i0 := ⟨4, rfl, by decide, rfl⟩
theorem RegInv.len {g : Nat → Int} {n : Int} {i0 : Nat} {r : List Int} {i : Nat} (h : RegInv g n i0 r i) : r.length ≤ 3 := by obtain ⟨F, h1, h2, _⟩ := h; omega
theorem RegInv.step {g : Nat → Int} {n : Int} {i0 : Nat} {r : List Int} {i : Nat} (h : RegInv g n i0 r i) (hc : (r.length : Int) < 1 + g i % 3) : RegInv g n i0 (r ++ [g (i + 1) % (n + 1)]) (i + 1 + 1) := by
 obtain ⟨F, h1, h2, h3⟩ := h; have h4 : g i % 3 < 3 := Int.emod_lt_of_pos _ (by decide); obtain ⟨f, rfl⟩ : ∃ f, F = f + 1 := ⟨F - 1, by omega⟩; refine ⟨f, by rw [List.length_append]; simp; omega, by omega, ?_⟩; rw [h3, regG, if_pos hc, List.length_append]; simp
theorem RegInv.stop {g : Nat → Int} {n : Int} {i0 : Nat} {r : List Int} {i : Nat} (h : RegInv g n i0 r i) (hc : ¬ (r.length : Int) < 1 + g i % 3) : regG g n 4 i0 0 = (r, i + 1) := by
 obtain ⟨F, h1, h2, h3⟩ := h; obtain ⟨f, rfl⟩ : ∃ f, F = f + 1 := ⟨F - 1, by omega⟩; rw [h3, regG, if_neg hc]; simp
def OpInv (g : Nat → Int) (regs slots : Int) (K i0 : Nat) (acc : List Oq) (k i : Nat) : Prop := opsG g regs slots K i0 = (acc ++ (opsG g regs slots k i).1, (opsG g regs slots k i).2)
theorem OpInv.start (g : Nat → Int) (regs slots : Int) (K i0 : Nat) : OpInv g regs slots K i0 [] K i0 := rfl
theorem OpInv.step {g : Nat → Int} {regs slots : Int} {K i0 : Nat} {acc : List Oq} {k i : Nat} (h : OpInv g regs slots K i0 acc (k + 1) i) : OpInv g regs slots K i0 (acc ++ [(opG g regs slots i).1]) k (opG g regs slots i).2 := by
 unfold OpInv at h ⊢; rw [h, opsG]; simp
theorem OpInv.stop {g : Nat → Int} {regs slots : Int} {K i0 : Nat} {acc : List Oq} {i : Nat} (h : OpInv g regs slots K i0 acc 0 i) : opsG g regs slots K i0 = (acc, i) := by
 unfold OpInv at h; rw [h]; simp [opsG]
theorem mutG_is {g : Nat → Int} {n sl : Int} {i j m : Nat} {r : List Int} {acc : List Oq} (h1 : regG g n 4 i 0 = (r, j)) (h2 : opsG g r.length sl (g j % 8).toNat (j + 1) = (acc, m)) : mutG g n sl i = ((r, acc), m) := by
 unfold mutG; rw [h1]; simp only; rw [h2]
structure KB (B : Nat) (w w' : World) : Prop where
 size : w.heap.size ≤ w'.heap.size
 block : ∀ k, B < k → k < w.heap.size → w'.heap[k]? = w.heap[k]?
section
variable {B M : Nat} {w w' w'' : World}
theorem KB.refl (B : Nat) (w : World) : KB B w w := ⟨Nat.le_refl _, fun _ _ _ => rfl⟩
theorem KB.trans (h : KB B w w') (k : KB B w' w'') : KB B w w'' := ⟨Nat.le_trans h.size k.size, fun i hB hi => (k.block i hB (Nat.lt_of_lt_of_le hi h.size)).trans (h.block i hB hi)⟩
theorem KB.call (h : KB B w w') (hg : w'.grownBy w'' (some M)) (hM : M < B) : KB B w w'' := h.trans ⟨hg.size, fun i hB hi => hg.block i hi (by intro e; injection e with e; omega)⟩
theorem KB.below (h : KB B w w') (hb : Below w'.heap.size w' w'') : KB B w w'' := h.trans ⟨hb.size, fun i _ hi => hb.block i hi⟩
theorem KB.set (h : KB B w w') (i : Nat) (u : Value) : KB B w (w'.setCell ⟨B, i, none⟩ u) := h.trans ⟨by rw [set_sizePl]; exact Nat.le_refl _, fun k hk _ => Below.heap_setCell w' ⟨B, i, none⟩ u k (by show k ≠ B; omega)⟩
theorem KB.app {row : Option Nat} (h : KB B w w') (hg : w'.grownBy w'' row) (hr : ∀ k, row = some k → w.heap.size ≤ k) : KB B w w'' :=
 ⟨Nat.le_trans h.size hg.size, fun i hB hi => (hg.block i (Nat.lt_of_lt_of_le hi h.size) (fun e => by have := hr i e.symm; omega)).trans (h.block i hB hi)⟩
theorem own_kb {base size n : Nat} {t : TypeId} {v : Value} {xs : List Value} (h : w.ownsRow base t size v n xs) (hk : KB B w w') (hb : B < base) : w'.ownsRow base t size v n xs := by
 refine ⟨h.1, ?_⟩; rcases h.2 with h0 | ⟨g, cap, cur, hv, hg, hgg, hr⟩
 · exact .inl h0
 · exact .inr ⟨g, cap, cur, hv, hg, (hk.block g (by omega) (Array.getElem?_eq_some_iff.1 hgg).1).trans hgg, hr⟩
theorem rows_kb {base : Nat} {v : Value} {ls : Rws} (h : OwnR base w v ls) (hk : KB B w w') (hb : B < base) : OwnR base w' v ls := by
 obtain ⟨vs, h1, h2, h3⟩ := h; exact ⟨vs, own_kb h1 hk hb, h2, fun i u l hu hl => own_kb (h3 i u l hu hl) hk hb⟩
def OwnO (b : Nat) (w : World) (v : Value) (ls : List (List Oq)) : Prop := ∃ vp, w.ownsRow b 87 1 v vp.length vp ∧ RowsO b w vp ls
theorem OwnO.nil_ (b : Nat) (w : World) : OwnO b w (.slice none 0 0) [] := ⟨[], World.ownsRow_nil _ _ _ _, rfl, by simp⟩
theorem ops_kb {base : Nat} {v : Value} {ls : List (List Oq)} (h : OwnO base w v ls) (hk : KB B w w') (hb : B < base) : OwnO base w' v ls := by
 obtain ⟨vs, h1, h2, h3⟩ := h; exact ⟨vs, own_kb h1 hk hb, h2, fun i u l hu hl => own_kb (h3 i u l hu hl) hk hb⟩
theorem own_other {b1 b2 s1 s2 n1 n2 : Nat} {t1 t2 : TypeId} {v1 v2 : Value} {x1 x2 : List Value} (h1 : w.ownsRow b1 t1 s1 v1 n1 x1) (h2 : w.ownsRow b2 t2 s2 v2 n2 x2) (hne : t1 ≠ t2) (hg : w.grownBy w' v2.ownBlock) : w'.ownsRow b1 t1 s1 v1 n1 x1 := by
 refine h1.kept hg ?_; rcases own_apart h1 h2 hne with e | e
 · exact .inr e
 · exact .inl e
theorem OwnO.other {b : Nat} {v v2 : Value} {ls : List (List Oq)} {b2 s2 n2 : Nat} {t2 : TypeId} {x2 : List Value} (h : OwnO b w v ls) (h2 : w.ownsRow b2 t2 s2 v2 n2 x2) (n1 : 87 ≠ t2) (n2 : 96 ≠ t2) (hg : w.grownBy w' v2.ownBlock) : OwnO b w' v ls := by
 obtain ⟨vp, h1, h3, h4⟩ := h; exact ⟨vp, own_other h1 h2 n1 hg, h3, fun i u l hu hl => own_other (h4 i u l hu hl) h2 n2 hg⟩
theorem OwnR.other {b : Nat} {v v2 : Value} {ls : Rws} {b2 s2 n2 : Nat} {t2 : TypeId} {x2 : List Value} (h : OwnR b w v ls) (h2 : w.ownsRow b2 t2 s2 v2 n2 x2) (n1 : 67 ≠ t2) (n2 : 3 ≠ t2) (hg : w.grownBy w' v2.ownBlock) : OwnR b w' v ls := by
 obtain ⟨vp, h1, h3, h4⟩ := h; exact ⟨vp, own_other h1 h2 n1 hg, h3, fun i u l hu hl => own_other (h4 i u l hu hl) h2 n2 hg⟩
theorem OwnO.snoc {b : Nat} {v v' u : Value} {vp : List Value} {ls : List (List Oq)} {l : List Oq} (hl : vp.length = ls.length) (htop : w.ownsRow b 87 1 v vp.length vp) (hrows : ∀ (i : Nat) (u : Value) (l : List Oq), vp[i]? = some u → ls[i]? = some l → w.ownsRow b 96 4 u l.length (l.flatMap oq))
 (hu : w.ownsRow b 96 4 u l.length (l.flatMap oq)) (ht : w'.ownsRow b 87 1 v' (vp.length + 1) (vp ++ [u])) (hg : w.grownBy w' v.ownBlock) : OwnO b w' v' (ls ++ [l]) := by
 refine ⟨vp ++ [u], by rw [List.length_append]; exact ht, by rw [List.length_append, List.length_append, hl]; rfl, fun i u' l' hu' hl' => ?_⟩; by_cases hi : i < vp.length
 · rw [List.getElem?_append_left hi] at hu'
   rw [List.getElem?_append_left (by rw [← hl]; exact hi)] at hl'; exact own_other (hrows i u' l' hu' hl') htop (by decide) hg
 · have hlt : i < (vp ++ [u]).length := (List.getElem?_eq_some_iff.1 hu').1
   rw [List.length_append] at hlt; obtain rfl : i = vp.length := by simp at hlt; omega
   rw [List.getElem?_concat_length] at hu'; rw [hl, List.getElem?_concat_length] at hl'; cases hu'; cases hl'
   exact own_other hu htop (by decide) hg
theorem OwnO.set_below {b : Nat} {v : Value} {ls : List (List Oq)} (h : OwnO b w v ls) {a : Addr} (ha : a.block < b) (u : Value) : OwnO b (w.setCell a u) v ls := by
 obtain ⟨vp, h1, h3, h4⟩ := h; exact ⟨vp, ownsRow_setCell_below h1 ha u, h3, fun i u' l hu hl => ownsRow_setCell_below (h4 i u' l hu hl) ha u⟩
theorem OwnO.below {b : Nat} {v : Value} {ls : List (List Oq)} (h : OwnO b w v ls) (hb : Below w.heap.size w w') : OwnO b w' v ls := by
 obtain ⟨vp, h1, h3, h4⟩ := h; exact ⟨vp, own_below h1 hb, h3, fun i u' l hu hl => own_below (h4 i u' l hu hl) hb⟩
theorem OwnO.read {b : Nat} {v : Value} {ls : List (List Oq)} (h : OwnO b w v ls) : GridO w v ls := by
 obtain ⟨vp, p1, p2⟩ := h; exact ⟨vp, Sl.of_own (enc := one) (size := 1) one_len (by rw [flat_one]; exact p1), p2.1, fun i u l hu hl => Sl.of_own oq_len (p2.2 i u l hu hl)⟩
end
structure Mst (w : World) (R M B : Nat) (v : Value) (l : List Int) (i : Nat) (W : World) (a b c d e f g h n : Int) (ob : Value) (s : Nat) (rg pg : Value) : Prop where
 bl : Below w.heap.size w W
 mk_ : Mk W M v l i
 bp : Bp 30 W B a b c d e f g h n ob s rg pg (.slice none 0 0)
 rs : Bp 30 W R 0 0 0 0 0 0 0 0 0 (.slice none 0 0) 0 (.slice none 0 0) (.slice none 0 0) (.slice none 0 0)
structure Mlt (w : World) (R M B : Nat) : Prop where
 hR : w.heap.size ≤ R
 hRM : R ≠ M
 hM : w.heap.size ≤ M
 hRB : R < B
 hMB : M < B
section
variable {w W W' : World} {R M B i j : Nat} {v : Value} {l : List Int} {a b c d e f g h n : Int} {ob : Value} {s : Nat} {rg pg : Value}
theorem Mst.call (k : Mst w R M B v l i W a b c d e f g h n ob s rg pg) (q : Mlt w R M B) (hm : Mk W' M v l j) (hg : W.grownBy W' (some M)) : Mst w R M B v l j W' a b c d e f g h n ob s rg pg :=
 ⟨k.bl.trans (grown_bel2 hg q.hM k.bl.size), hm, ⟨(hg.block B k.bp.lt (by intro e; injection e with e; have := q.hMB; omega)).trans k.bp.blk⟩, ⟨(hg.block R k.rs.lt (by intro e; injection e with e; exact q.hRM e)).trans k.rs.blk⟩⟩
theorem Mst.below (k : Mst w R M B v l i W a b c d e f g h n ob s rg pg) (hb : Below W.heap.size W W') : Mst w R M B v l i W' a b c d e f g h n ob s rg pg :=
 ⟨bcall k.bl hb, k.mk_.below hb, k.bp.below hb, k.rs.below hb⟩
theorem Mst.app {row : Option Nat} (k : Mst w R M B v l i W a b c d e f g h n ob s rg pg) (q : Mlt w R M B) (hg : W.grownBy W' row) (hr : ∀ x, row = some x → B < x) : Mst w R M B v l i W' a b c d e f g h n ob s rg pg := by
 have kp : ∀ x, x < W.heap.size → x ≤ B → W'.heap[x]? = W.heap[x]? := fun x hx hxB => hg.block x hx (fun e => by have := hr x e.symm; omega)
 have h1 := q.hR; have h2 := q.hRB; have h3 := q.hMB; exact ⟨k.bl.grown hg k.bl.size (fun x hx => by have := hr x hx; omega), ⟨(kp M k.mk_.lt (by omega)).trans k.mk_.blk⟩, ⟨(kp B k.bp.lt (Nat.le_refl _)).trans k.bp.blk⟩, ⟨(kp R k.rs.lt (by omega)).trans k.rs.blk⟩⟩
theorem Mst.set {a' b' c' d' e' f' g' h' n' : Int} {ob' : Value} {s' : Nat} {rg' pg' : Value} (k : Mst w R M B v l i W a b c d e f g h n ob s rg pg) (q : Mlt w R M B) (x : Nat) (u : Value)
 (hb : (planC a b c d e f g h n ob s rg pg (.slice none 0 0)).setIfInBounds x u = planC a' b' c' d' e' f' g' h' n' ob' s' rg' pg' (.slice none 0 0)) : Mst w R M B v l i (W.setCell ⟨B, x, none⟩ u) a' b' c' d' e' f' g' h' n' ob' s' rg' pg' := by
 have h1 := q.hR; have h2 := q.hRB; have h3 := q.hMB; refine ⟨k.bl.setCell (p := ⟨B, x, none⟩) (by show w.heap.size ≤ B; omega) u, ⟨(Below.heap_setCell W ⟨B, x, none⟩ u M (by show M ≠ B; omega)).trans k.mk_.blk⟩, ⟨?_⟩, ⟨(Below.heap_setCell W ⟨B, x, none⟩ u R (by show R ≠ B; omega)).trans k.rs.blk⟩⟩; rw [block_setCell k.bp.blk (i := x) u, ← hb]
theorem Bp.cellsF {t : TypeId} {pk : Value} (k : Bp t W B a b c d e f g h n ob s rg pg pk) (x : Nat) : W.frozen? ⟨B, x, none⟩ = false := unfrozen_of_block k.blk x
end
theorem Mst.at_ {w W : World} {R M B i j : Nat} {v : Value} {l : List Int} {a b c d e f g h n : Int} {ob : Value} {s : Nat} {rg pg : Value} (k : Mst w R M B v l i W a b c d e f g h n ob s rg pg) (hij : i = j) : Mst w R M B v l j W a b c d e f g h n ob s rg pg := hij ▸ k
theorem bp_new0 (w : World) (a b c d e f g h n : Int) (ob rg pg pk : Value) (t : TypeId) : ∃ w1, w.alloc (.cells #[.int .i64 a, .int .i64 b, .int .i64 c, .int .i64 d, .int .i64 e, .int .i64 f, .int .i64 g, .int .i64 h, .int .i64 n, ob, .int .u64 0, rg, pg, pk] t) = w1 ∧
 Below w.heap.size w w1 ∧ w1.heap.size = w.heap.size + 1 ∧ Bp t w1 w.heap.size a b c d e f g h n ob 0 rg pg pk := bp_new w a b c d e f g h n ob 0 rg pg pk t
theorem op_c (M : Nat) (v : Value) (l : List Int) (i : Nat) (regs slots : Int) (w : World) (hM : Mk w M v l i) (hl : Bytes w v l) (hr : ∀ b ∈ l, 0 ≤ b ∧ b ≤ 255) (hne : 0 < l.length → ∀ x, v.ownBlock = some x → x ≠ M) (hg : 1 ≤ regs ∧ regs ≤ 4) (hs : 1 ≤ slots ∧ slots ≤ 4) (o : Oq) (j : Nat) (ho : opG (byteG l) regs slots i = (o, j)) :
 Calls Tryz.prog 46 #[.pointer (some ⟨M, 0, none⟩), .int .i64 regs, .int .i64 slots] w fun e w' => e = .returned (.agg #[.int .i64 o.kind, .int .i64 o.r, .int .i64 o.a, .int .i64 o.s]) ∧ Mk w' M v l j ∧ w.grownBy w' (some M) := by
 have h := op_any M v l i regs slots w hM hl hr hne hg hs; rw [ho] at h; exact h
structure PRt_ (t : TypeId) (R : Nat) (W Z : World) (cs : Array Value) : Prop where
 blk : Z.heap[R]? = some (.cells cs t)
 oth : ∀ x, x ≠ R → Z.heap[x]? = W.heap[x]?
 size : Z.heap.size = W.heap.size
 bel : Below R W Z
theorem PRt_.start {t : TypeId} {W : World} {R : Nat} {a b c d e f g h n : Int} {ob : Value} {s : Nat} {rg pg pk : Value} (k : Bp t W R a b c d e f g h n ob s rg pg pk) : PRt_ t R W W (planC a b c d e f g h n ob s rg pg pk) := ⟨k.blk, fun _ _ => rfl, rfl, Below.refl _ _⟩
theorem PRt_.step {t : TypeId} {W Z : World} {R : Nat} {cs : Array Value} (k : PRt_ t R W Z cs) (i : Nat) (v : Value) : PRt_ t R W (Z.setCell ⟨R, i, none⟩ v) (cs.setIfInBounds i v) :=
 ⟨by rw [block_setCell k.blk], fun x hx => (set_others Z R i v x hx).trans (k.oth x hx), by rw [set_sizePl]; exact k.size, k.bel.trans (set_below Z R i v)⟩
theorem plan_ret {t : TypeId} {W : World} {R : Nat} {a b c d e f g h n : Int} {ob : Value} {s : Nat} {rg pg pk : Value} (k : Bp t W R a b c d e f g h n ob s rg pg pk) (v0 v1 v2 v3 v4 v5 v6 v7 v8 v9 va vb vc vd : Value) : ∃ Z, ((((((((((((((W.setCell ⟨R, 0, none⟩ v0).setCell ⟨R, 1, none⟩ v1).setCell ⟨R, 2, none⟩ v2).setCell ⟨R, 3, none⟩ v3).setCell ⟨R, 4, none⟩ v4).setCell ⟨R, 5, none⟩ v5).setCell ⟨R, 6, none⟩ v6).setCell ⟨R, 7, none⟩ v7).setCell ⟨R, 8, none⟩ v8).setCell ⟨R, 9, none⟩ v9).setCell ⟨R, 10, none⟩ va).setCell ⟨R, 11, none⟩ vb).setCell ⟨R, 12, none⟩ vc).setCell ⟨R, 13, none⟩ vd) = Z ∧
 Z.heap[R]? = some (.cells #[v0, v1, v2, v3, v4, v5, v6, v7, v8, v9, va, vb, vc, vd] t) ∧ (∀ x, x ≠ R → Z.heap[x]? = W.heap[x]?) ∧ Z.heap.size = W.heap.size ∧ Below R W Z := by
 obtain ⟨Z0, e0, s0⟩ : ∃ Z, W.setCell ⟨R, 0, none⟩ v0 = Z ∧ PRt_ t R W Z #[v0, .int .i64 b, .int .i64 c, .int .i64 d, .int .i64 e, .int .i64 f, .int .i64 g, .int .i64 h, .int .i64 n, ob, .int .u64 (s : Int), rg, pg, pk] := ⟨_, rfl, (PRt_.start k).step 0 v0⟩; obtain ⟨Z1, e1, s1⟩ : ∃ Z, Z0.setCell ⟨R, 1, none⟩ v1 = Z ∧ PRt_ t R W Z #[v0, v1, .int .i64 c, .int .i64 d, .int .i64 e, .int .i64 f, .int .i64 g, .int .i64 h, .int .i64 n, ob, .int .u64 (s : Int), rg, pg, pk] := ⟨_, rfl, s0.step 1 v1⟩; obtain ⟨Z2, e2, s2⟩ : ∃ Z, Z1.setCell ⟨R, 2, none⟩ v2 = Z ∧ PRt_ t R W Z #[v0, v1, v2, .int .i64 d, .int .i64 e, .int .i64 f, .int .i64 g, .int .i64 h, .int .i64 n, ob, .int .u64 (s : Int), rg, pg, pk] := ⟨_, rfl, s1.step 2 v2⟩; obtain ⟨Z3, e3, s3⟩ : ∃ Z, Z2.setCell ⟨R, 3, none⟩ v3 = Z ∧ PRt_ t R W Z #[v0, v1, v2, v3, .int .i64 e, .int .i64 f, .int .i64 g, .int .i64 h, .int .i64 n, ob, .int .u64 (s : Int), rg, pg, pk] := ⟨_, rfl, s2.step 3 v3⟩; obtain ⟨Z4, e4, s4⟩ : ∃ Z, Z3.setCell ⟨R, 4, none⟩ v4 = Z ∧ PRt_ t R W Z #[v0, v1, v2, v3, v4, .int .i64 f, .int .i64 g, .int .i64 h, .int .i64 n, ob, .int .u64 (s : Int), rg, pg, pk] := ⟨_, rfl, s3.step 4 v4⟩; obtain ⟨Z5, e5, s5⟩ : ∃ Z, Z4.setCell ⟨R, 5, none⟩ v5 = Z ∧ PRt_ t R W Z #[v0, v1, v2, v3, v4, v5, .int .i64 g, .int .i64 h, .int .i64 n, ob, .int .u64 (s : Int), rg, pg, pk] := ⟨_, rfl, s4.step 5 v5⟩; obtain ⟨Z6, e6, s6⟩ : ∃ Z, Z5.setCell ⟨R, 6, none⟩ v6 = Z ∧ PRt_ t R W Z #[v0, v1, v2, v3, v4, v5, v6, .int .i64 h, .int .i64 n, ob, .int .u64 (s : Int), rg, pg, pk] := ⟨_, rfl, s5.step 6 v6⟩; obtain ⟨Z7, e7, s7⟩ : ∃ Z, Z6.setCell ⟨R, 7, none⟩ v7 = Z ∧ PRt_ t R W Z #[v0, v1, v2, v3, v4, v5, v6, v7, .int .i64 n, ob, .int .u64 (s : Int), rg, pg, pk] := ⟨_, rfl, s6.step 7 v7⟩; obtain ⟨Z8, e8, s8⟩ : ∃ Z, Z7.setCell ⟨R, 8, none⟩ v8 = Z ∧ PRt_ t R W Z #[v0, v1, v2, v3, v4, v5, v6, v7, v8, ob, .int .u64 (s : Int), rg, pg, pk] := ⟨_, rfl, s7.step 8 v8⟩; obtain ⟨Z9, e9, s9⟩ : ∃ Z, Z8.setCell ⟨R, 9, none⟩ v9 = Z ∧ PRt_ t R W Z #[v0, v1, v2, v3, v4, v5, v6, v7, v8, v9, .int .u64 (s : Int), rg, pg, pk] := ⟨_, rfl, s8.step 9 v9⟩; obtain ⟨Z10, e10, s10⟩ : ∃ Z, Z9.setCell ⟨R, 10, none⟩ va = Z ∧ PRt_ t R W Z #[v0, v1, v2, v3, v4, v5, v6, v7, v8, v9, va, rg, pg, pk] := ⟨_, rfl, s9.step 10 va⟩; obtain ⟨Z11, e11, s11⟩ : ∃ Z, Z10.setCell ⟨R, 11, none⟩ vb = Z ∧ PRt_ t R W Z #[v0, v1, v2, v3, v4, v5, v6, v7, v8, v9, va, vb, pg, pk] := ⟨_, rfl, s10.step 11 vb⟩; obtain ⟨Z12, e12, s12⟩ : ∃ Z, Z11.setCell ⟨R, 12, none⟩ vc = Z ∧ PRt_ t R W Z #[v0, v1, v2, v3, v4, v5, v6, v7, v8, v9, va, vb, vc, pk] := ⟨_, rfl, s11.step 12 vc⟩; obtain ⟨Z13, e13, s13⟩ : ∃ Z, Z12.setCell ⟨R, 13, none⟩ vd = Z ∧ PRt_ t R W Z #[v0, v1, v2, v3, v4, v5, v6, v7, v8, v9, va, vb, vc, vd] := ⟨_, rfl, s12.step 13 vd⟩; exact ⟨Z13, by rw [e0, e1, e2, e3, e4, e5, e6, e7, e8, e9, e10, e11, e12, e13], s13.blk, s13.oth, s13.size, s13.bel⟩
theorem objG_len (g : Nat → Int) (n : Int) (k i : Nat) : (objG g n k i).length = k := by simp [objG]
theorem Add_zero (o : Int) (w : World) (h0 : -9223372036854775808 ≤ o) (h1 : o ≤ 9223372036854775807) (s : Nat) (hs : addF 0 o = s) :
 Calls Tryz.prog 45 #[.int .u64 0, .int .i64 o] w fun e w' => e = .returned (.int .u64 (s : Nat)) ∧ w' = w := by
 subst hs; exact Add_any 0 o w (by decide) h0 h1
theorem bp_zero (w : World) (t : TypeId) : ∃ w1, w.alloc (.cells #[.int .i64 0, .int .i64 0, .int .i64 0, .int .i64 0, .int .i64 0, .int .i64 0, .int .i64 0, .int .i64 0, .int .i64 0, .slice none 0 0, .int .u64 0, .slice none 0 0, .slice none 0 0, .slice none 0 0] t) = w1 ∧
 Below w.heap.size w w1 ∧ w1.heap.size = w.heap.size + 1 ∧ Bp t w1 w.heap.size 0 0 0 0 0 0 0 0 0 (.slice none 0 0) 0 (.slice none 0 0) (.slice none 0 0) (.slice none 0 0) := bp_new w 0 0 0 0 0 0 0 0 0 (.slice none 0 0) 0 (.slice none 0 0) (.slice none 0 0) (.slice none 0 0) t
