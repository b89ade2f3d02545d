/- Layer heap: a heap is read; Parse. -/
import Derived.Test.YtofobjhlpgcdaaaDoorHeapSlots
import Derived.Deep.LoopGhost
import Derived.RegionDies
import Derived.Deep.RegionLaw
namespace Go.Proofs.YtofobjhlpgcdaaaDoor
open Go.RowKit Go.Shelf Go.Proofs

/-- the heap's variable in block H, the result's in block R -/
def Boxes (H R : Nat) (n : Int) (v : Value) (w : World) : Prop :=
  (w.cell? ⟨H, 0, none⟩ = some (.int .i64 n) ∧ w.cell? ⟨H, 1, none⟩ = some v ∧ w.frozen? ⟨H, 0, none⟩ = false ∧ w.frozen? ⟨H, 1, none⟩ = false) ∧
  (w.cell? ⟨R, 0, none⟩ = some (.int .i64 0) ∧ w.cell? ⟨R, 1, none⟩ = some (.slice none 0 0) ∧ w.frozen? ⟨R, 0, none⟩ = false ∧ w.frozen? ⟨R, 1, none⟩ = false)
theorem Boxes.grown {H R : Nat} {n : Int} {v : Value} {w w' : World} {row : Option Nat} (h : Boxes H R n v w) (hg : w.grownBy w' row) (h1 : row ≠ some H) (h2 : row ≠ some R) : Boxes H R n v w' :=
  ⟨⟨keepg hg h.1.1 h1, keepg hg h.1.2.1 h1, keepgf hg h.1.1 h.1.2.2.1 h1, keepgf hg h.1.2.1 h.1.2.2.2 h1⟩, ⟨keepg hg h.2.1 h2, keepg hg h.2.2.1 h2, keepgf hg h.2.1 h.2.2.2.1 h2, keepgf hg h.2.2.1 h.2.2.2.2 h2⟩⟩
theorem Boxes.below {H R : Nat} {n : Int} {v : Value} {w w' : World} (h : Boxes H R n v w) (hb : Below w.heap.size w w') : Boxes H R n v w' :=
  h.grown (row := none) (grown_of_below hb none) (by simp) (by simp)
theorem gset2 {a b : World} {g : Nat} {p : Addr} (h : a.grownBy b (some g)) (hp : a.heap.size ≤ p.block) (v : Value) : a.grownBy (b.setCell p v) (some g) :=
  ⟨h.os, h.tape, h.output, by simpa using h.size, fun i hi hg => (Below.heap_setCell _ _ _ _ (by omega)).trans (h.block i hi hg)⟩
theorem objsF_nil (N f : Nat) : objsF N f [] = some ([], []) := by cases f <;> rfl
theorem objsF_step {N f : Nat} {l l1 : B8} {r : List Int} (hl : l ≠ []) (h : slotsF N 0 l = some (r, l1)) : objsF N (f + 1) l = (objsF N f l1).map fun x => (r :: x.1, x.2) := by
  rw [objsF, if_neg hl, h]
theorem objsF_fail {N f : Nat} {l : B8} (hl : l ≠ []) (h : slotsF N 0 l = none) : objsF N (f + 1) l = none := by
  rw [objsF, if_neg hl, h]

set_option maxRecDepth 100000 in
set_option maxHeartbeats 4000000 in
theorem rheap_any (g : Nat) (l : B8) (w : World) (hl : l.length ≤ 140737488351232) (hE : EnvH w) (hR : RestAt g l w) (hg : NG g) :
    Calls Tryd.prog 27 #[.pointer (some ⟨g, 0, none⟩)] w fun e w' =>
      (match heapF l with | some p => ∃ v, e = .returned (hv p.1 v) ∧ OwnRows 53 3 w.heap.size w' v p.2 | none => Pan e) ∧ w.grownBy w' (some g) := by
  have HE := hide hE
  have HR := hide hR
  have hlt := hR.lt
  have HL := hide hl
  have HGG := hide hg
  have HNa := hide (fun w' => rnumber_any g l w' hl)
  clear hE hR hl hg
  obtain ⟨w1, e1, hB1, hlt1, -, k0, k1⟩ := box1 w (.int .i64 0) (.slice none 0 0) 24
  have hs1 : w1.heap.size = w.heap.size + 1 := by rw [← e1]; simp
  have k2 : ∀ j, w1.frozen? ⟨w.heap.size, j, none⟩ = false := fun j => by rw [← e1]; exact frozen_of_row _ _ j #[.int .i64 0, .slice none 0 0] _ (heap_alloc_new w _)
  have HE1 := hide e1
  have HEE := hide (HE.out.below hB1)
  have HRR := hide (HR.out.below hB1)
  have hgs : w.heap.size ≠ g := by omega
  clear e1
  rcases hn : numF l with _ | ⟨n, l1⟩
  · have hP : heapF l = none := by unfold heapF; rw [hn]
    rw [hP]
    rw [hn] at HNa
    clear hn hP
    go_enter Tryd.func27, Tryd.ntmps27
    go_wp2_with fail
    rw [HE1.out]
    (with_reducible refine (HNa.out _ HEE.out HRR.out).mono ?_)
    rintro e w2 ⟨⟨u, v, rfl⟩, hg2⟩
    go_wp2
    exact ⟨rfl, ⟨_, _, rfl⟩, (grown_of_below hB1 (some g)).trans hg2⟩
  · have hl1 : l1.length ≤ 140737488351232 := by have := congrArg List.length (numF_eq hn); rw [List.length_append] at this; have := HL.out; omega
    have hP : heapF l = if rightF n [] then (match objsF n.toNat 65 l1 with | none => none | some x => if rightF n x.1 then some (n, x.1) else none) else none := by
      unfold heapF; rw [hn]
      simp only
      split
      · cases objsF n.toNat 65 l1 <;> rfl
      · rfl
    rw [hn] at HNa
    obtain ⟨P, hPP⟩ : ∃ P, heapF l = P := ⟨_, rfl⟩
    rw [hPP] at hP ⊢
    have HP := hide hP
    clear hn hP hPP
    go_enter Tryd.func27, Tryd.ntmps27
    go_wp2_with fail
    rw [HE1.out]
    (with_reducible refine (HNa.out _ HEE.out HRR.out).mono ?_)
    rintro e w2 ⟨⟨rfl, hr2⟩, hg2⟩
    obtain ⟨w3, e3, hB3, hlt3, -, t0, t1⟩ := box1 w2 (.int .i64 n) (.slice none 0 0) 24
    have t2 : ∀ j, w3.frozen? ⟨w2.heap.size, j, none⟩ = false := fun j => by rw [← e3]; exact frozen_of_row _ _ j #[.int .i64 n, .slice none 0 0] _ (heap_alloc_new w2 _)
    have HE3 := hide e3
    have r0 := keepg hg2 k0 (fun e => hgs (by injection e with e; exact e.symm))
    have r1 := keepg hg2 k1 (fun e => hgs (by injection e with e; exact e.symm))
    have z0 := keepgf hg2 k0 (k2 0) (fun e => hgs (by injection e with e; exact e.symm))
    have z1 := keepgf hg2 k1 (k2 1) (fun e => hgs (by injection e with e; exact e.symm))
    have hs2 := hg2.size
    have HE2 := hide (HEE.out.grown hg2 HGG.out)
    have HG2 := hide ((grown_of_below hB1 (some g)).trans hg2)
    have HR2 := hide hr2
    clear e3 hg2 hr2 k0 k1 k2
    go_wp2_with fail
    rw [HE3.out]
    clear HE3
    (with_reducible refine (Right_any n _ [] _ Grid.nil_).mono ?_)
    rintro e w4 ⟨rfl, hb4⟩
    have hb24 := bcall hB3 hb4
    have hs4 := hb4.size
    have u0 := keepc hb4 t0
    have u1 := keepc hb4 t1
    have y0 := keepf hb4 t0 (t2 0)
    have y1 := keepf hb4 t1 (t2 1)
    have q0 := keepc hb24 r0
    have q1 := keepc hb24 r1
    have x0 := keepf hb24 r0 z0
    have x1 := keepf hb24 r1 z1
    have HG4 := hide (HG2.out.trans (grown_of_below hb24 (some g)))
    have HE4 := hide (HE2.out.below hb24)
    have HR4 := hide (HR2.out.below hb24)
    have hHw : w2.heap.size ≠ w.heap.size := by omega
    have hHg : w2.heap.size ≠ g := by omega
    clear t0 t1 t2 r0 r1 z0 z1
    by_cases hr : rightF n [] = true
    · have hrl := right_len hr
      obtain ⟨N, rfl⟩ : ∃ N : Nat, n = N := ⟨n.toNat, by omega⟩
      have hN4 : N ≤ 4 := by omega
      rw [hr]
      have hP := HP.out
      rw [if_pos hr, Int.toNat_natCast] at hP
      have HP2 := hide hP
      clear hP HP hr hrl
      go_wp2
      have HL1 := hide hl1
      have hHs : w2.heap.size < w4.heap.size := by omega
      have hws : w.heap.size < w4.heap.size := by omega
      have hgs4 : g < w4.heap.size := by omega
      go_loopg [] 65 (fun gk wr => ∃ (A : Option Addr) (c : Nat) (acc : Rws) (rest : B8), acc.length + gk = 65 ∧ c ≤ 9223372036854775807 ∧ acc.length ≤ c ∧
        wr.cell? ⟨w2.heap.size, 0, none⟩ = some (.int .i64 N) ∧ wr.cell? ⟨w2.heap.size, 1, none⟩ = some (.slice A acc.length c) ∧ wr.frozen? ⟨w2.heap.size, 0, none⟩ = false ∧ wr.frozen? ⟨w2.heap.size, 1, none⟩ = false ∧
        wr.cell? ⟨w.heap.size, 0, none⟩ = some (.int .i64 0) ∧ wr.cell? ⟨w.heap.size, 1, none⟩ = some (.slice none 0 0) ∧ wr.frozen? ⟨w.heap.size, 0, none⟩ = false ∧ wr.frozen? ⟨w.heap.size, 1, none⟩ = false ∧
        Hid (OwnRows 53 3 w4.heap.size wr (.slice A acc.length c) acc ∧ RestAt g rest wr ∧ w.grownBy wr (some g) ∧ rest.length ≤ l1.length ∧ w4.heap.size ≤ wr.heap.size ∧ objsF N 65 l1 = (objsF N gk rest).map fun x => (acc ++ x.1, x.2)))
      case atStart =>
        refine ⟨none, 0, [], l1, rfl, by omega, by simp, u0, u1, y0, y1, q0, q1, x0, x1, hide ⟨OwnRows.nil_, HR4.out, HG4.out, Nat.le_refl _, Nat.le_refl _, ?_⟩⟩
        cases objsF N 65 l1 <;> simp
      case round =>
        obtain ⟨A, c, acc, rest, hgk, hc63, hac, u0, u1, y0, y1, q0, q1, x0, x1, HH⟩ := hrel
        obtain ⟨hown, hra, hgw, hrl, hsr, hPP⟩ := HH.out
        have c0 := hra.cell
        obtain ⟨y, hy⟩ : ∃ y : ByteArray, (⟨rest.toArray⟩ : ByteArray) = y := ⟨_, rfl⟩
        rw [hy] at c0
        have hyl : y.toList = rest := by rw [← hy, ba_toList]
        have HO := hide hown
        have HRA := hide hra
        have HGW := hide hgw
        have HRL := hide hrl
        have HPP := hide hPP
        have HER := hide (HE.out.grown hgw HGG.out)
        have hal : acc.length ≤ 65 := by omega
        clear hown hra hgw hrl hPP HH hy
        by_cases hre : rest = [] ∨ gk = 0
        · have HP3 := hide (show P = if rightF N acc then some ((N : Int), acc) else none by
            have hPP := HPP.out
            rcases hre with h | h
            · rw [h, objsF_nil] at hPP
              rw [HP2.out, hPP]; simp
            · rw [h, objsF] at hPP
              rw [HP2.out, hPP]; simp)
          have hq : (y.toList == []) = true ∨ ((y.toList == []) = false ∧ gk = 0) := by
            rw [hyl]
            cases rest with
            | nil => exact .inl rfl
            | cons b r => exact .inr ⟨rfl, by rcases hre with h | h; cases h; exact h⟩
          clear hyl hre HPP HP2
          rcases hq with hq | ⟨hq, rfl⟩
          all_goals
            go_wp2_with fail
            (with_reducible refine (Right_any N _ acc _ HO.out.grid).mono ?_)
            rintro e w5 ⟨rfl, hb5⟩
            have v0 := keepc hb5 u0
            have v1 := keepc hb5 u1
            have r0 := keepc hb5 q0
            have r1 := keepc hb5 q1
            have z0 := keepf hb5 q0 x0
            have z1 := keepf hb5 q1 x1
            by_cases hra : rightF N acc = true
            · have hP4 : P = some ((N : Int), acc) := by rw [HP3.out, if_pos hra]
              rw [hra]
              subst hP4
              clear hra
              go_wp2
              refine bodyPost_ret (v := hv N (.slice A acc.length c)) (by simp [results, Tryd.results27, go_sem, r0, r1]) rfl ⟨⟨.slice A acc.length c, rfl, ?_⟩, ?_⟩
              · exact (((HO.out.below hb5).setCell_below (by simp; omega) _).setCell_below (by simp; omega) _).le (by omega)
              · exact gset2 (gset2 (HGW.out.trans (grown_of_below hb5 (some g))) (by simp) _) (by simp) _
            · have hra1 : rightF N acc = false := by simpa using hra
              have hP4 : P = none := by rw [HP3.out, if_neg hra]
              rw [hra1]
              subst hP4
              clear hra hra1
              go_wp2
              exact ⟨rfl, ⟨_, _, rfl⟩, HGW.out.trans (grown_of_below hb5 (some g))⟩
        · obtain ⟨f, rfl⟩ : ∃ f, gk = f + 1 := ⟨gk - 1, by omega⟩
          have hre1 : rest ≠ [] := fun h => hre (.inl h)
          have hq : (y.toList == []) = false := by
            rw [hyl]; cases rest with
            | nil => exact absurd rfl hre1
            | cons b r => rfl
          have hl64 : acc.length ≤ 64 := by omega
          have HSl := hide (fun w' => slots_any N g hN4 rest w' (Nat.le_trans HRL.out HL1.out))
          have HRE := hide hre1
          clear hyl hre hre1
          rcases hsl : slotsF N 0 rest with _ | ⟨r, l2⟩
          · have hPn : P = none := by
              have hPP := HPP.out
              rw [objsF_fail HRE.out hsl] at hPP
              rw [HP2.out, hPP]; rfl
            subst hPn
            rw [hsl] at HSl
            clear hsl HPP HP2
            go_wp2
            go_region_dies
            all_goals
              (with_reducible refine (HSl.out _ (HER.out.below ((Below.refl _ _).drew)) (HRA.out.below ((Below.refl _ _).drew)) HGG.out).mono ?_)
              rintro e w6 ⟨⟨u, v, rfl⟩, hg6⟩
              go_wp2
              exact ⟨rfl, ⟨_, _, rfl⟩, (HGW.out.trans (grown_of_below ((Below.refl _ _).drew) (some g))).trans hg6⟩
          · rw [hsl] at HSl
            have hPs : objsF N 65 l1 = (objsF N f l2).map fun x => ((acc ++ [r]) ++ x.1, x.2) := by
              rw [HPP.out, objsF_step HRE.out hsl]
              cases objsF N f l2 <;> simp
            have hsq := slotsF_eq N 0 hsl
            have hl2 : l2.length ≤ rest.length := by have := congrArg List.length hsq.1; rw [List.length_append] at this; omega
            have HPs := hide hPs
            have HL2 := hide (Nat.le_trans hl2 HRL.out)
            have HRE2 := hide HRE.out
            obtain ⟨i0, hi, hz0, hz1, hz2⟩ := info_parts infoRow
            obtain ⟨vs, hvs1, hvs2, hvs3⟩ := HO.out
            have HV2 := hide hvs2
            have HV3 := hide hvs3
            have HDR := hide (show Below wr.heap.size wr wr.drew from (Below.refl _ _).drew)
            have BX := hide (show Boxes w2.heap.size w.heap.size N (.slice A acc.length c) wr from ⟨⟨u0, u1, y0, y1⟩, ⟨q0, q1, x0, x1⟩⟩)
            have FX := hide (show ∀ w6, wr.grownBy w6 (some g) → Boxes w2.heap.size w.heap.size N (.slice A acc.length c) w6 from fun w6 hg => BX.out.grown hg (fun e => hHg (by injection e with e; exact e.symm)) (fun e => hgs (by injection e with e; exact e.symm)))
            have VB := hide (show ∀ b, (Value.slice A acc.length c).ownBlock = some b → w4.heap.size ≤ b from fun b hb => (hvs1.lt b hb).1)
            have FX2 := hide (show ∀ w6 o w7, Boxes w2.heap.size w.heap.size N (.slice A acc.length c) w6 → (w6.alloc o).grownBy w7 (Value.slice A acc.length c).ownBlock → Boxes w2.heap.size w.heap.size N (.slice A acc.length c) w7 from fun w6 o w7 h hg =>
              (h.below (bal _ _)).grown hg (fun e => by have := VB.out _ e; omega) (fun e => by have := VB.out _ e; omega))
            have HTOP := hide (show ∀ w6, wr.grownBy w6 (some g) → w6.ownsRow w4.heap.size 53 1 (.slice A acc.length c) acc.length vs from fun w6 hg => by
              have := hvs1.kept hg (.inr fun e => by have := VB.out g e; omega)
              rwa [HV2.out] at this)
            clear hsl HPP hPs hsq hl2 hvs1 hvs2 hvs3
            go_wp2
            go_region_law (first
              | (refine step_append_own_g rfl _ _ 22 rfl w4.heap.size 53 i0 (.slice none 0 0) 1 24 Tryd.underlying22 hi hz0 hz1 hz2 rfl (by decide) _ _ _ rfl ((HTOP.out _ hgw6).alloc _) ⟨_, 0, none⟩ 1 1 [.slice A6 r.length c6] rfl rfl (row_at _ _ _ (by simp)) (by simp [Value.oneCell']) (by simp only [maxLen]; omega) (by omega) (by simp; omega) ?_; intro v7 w7 hown7 hgrow7; obtain ⟨⟨d0, d1, d2, d3⟩, ⟨e0, e1, e2, e3⟩⟩ := FX2.out _ _ _ bx6.out hgrow7; obtain ⟨A7, c7, rfl, hc7, hm7⟩ := own_form hown7)
              | (go_simp; go_at_call 42; (with_reducible refine (HSl.out _ (HER.out.below HDR.out) (HRA.out.below HDR.out) HGG.out).mono ?_); rintro e w6 ⟨⟨v6, rfl, hown6, hr6⟩, hg6⟩; have hgw6 := (grown_of_below HDR.out (some g)).trans hg6; have hs6 := hgw6.size; have bx6 := hide (FX.out _ hgw6); obtain ⟨⟨a0, a1, a2, a3⟩, ⟨b0, b1, b2, b3⟩⟩ := bx6.out; have a1a : ∀ o, (w6.alloc o).cell? ⟨w2.heap.size, 1, none⟩ = some (.slice A acc.length c) := fun o => keepc (bal _ _) a1; obtain ⟨A6, c6, rfl, hc6, hm6⟩ := own_form hown6))
            all_goals
              unfold maxLen at hm7
              have hlen : (acc ++ [r]).length = acc.length + 1 := by simp
              have hwa : w6.heap.size < (w6.alloc (.cells #[.slice A6 r.length c6] 53)).heap.size := by simp
              have hU : OwnRows 53 3 w4.heap.size w7 (.slice A7 (acc.length + 1) c7) (acc ++ [r]) :=
                OwnRows.snoc (w := w6.alloc (.cells #[.slice A6 r.length c6] 53)) (v := .slice A acc.length c) (u := .slice A6 r.length c6) (vs := vs) (by decide) HV2.out (by rw [HV2.out]; exact (HTOP.out _ hgw6).alloc _)
                  (fun i u l hu hl => ((HV3.out i u l hu hl).kept hgw6 (.inr fun e => by have := ((HV3.out i u l hu hl).lt g e).1; omega)).alloc _) ((own_base hown6 (by show w4.heap.size ≤ wr.heap.size; exact hsr)).alloc _) (by rw [HV2.out]; exact hown7) hgrow7
              have hZ := hide (show OwnRows 53 3 w4.heap.size (w7.setCell ⟨w2.heap.size, 1, none⟩ (.slice A7 (acc.length + 1) c7)) (.slice A7 (acc ++ [r]).length c7) (acc ++ [r]) ∧ RestAt g l2 (w7.setCell ⟨w2.heap.size, 1, none⟩ (.slice A7 (acc.length + 1) c7)) ∧ w.grownBy (w7.setCell ⟨w2.heap.size, 1, none⟩ (.slice A7 (acc.length + 1) c7)) (some g) ∧ l2.length ≤ l1.length ∧ w4.heap.size ≤ (w7.setCell ⟨w2.heap.size, 1, none⟩ (.slice A7 (acc.length + 1) c7)).heap.size ∧ objsF N 65 l1 = (objsF N f l2).map fun x => ((acc ++ [r]) ++ x.1, x.2) from
                ⟨by rw [hlen]; exact hU.setCell_below (by simp; omega) _,
                 (Below.heap_setCell _ _ _ _ (by show g ≠ w2.heap.size; omega)).trans ((hgrow7.block g (by have := hr6.lt; omega) (fun e => by have := VB.out g e.symm; omega)).trans (hr6.below (bal _ _))),
                 gset2 (gown ((HGW.out.trans hgw6).trans (grown_of_below (bal _ _) (some g))) hgrow7 (fun b hb => by have := VB.out b hb; omega)) (by show w.heap.size ≤ w2.heap.size; omega) _,
                 HL2.out, by have := hgrow7.size; simp; omega, HPs.out⟩)
              clear hU hown6 hown7 hgrow7 hg6 hgw6 hr6 bx6 a1a a0 a1 a2 a3 b0 b1 b2 b3 u0 u1 y0 y1 q0 q1 x0 x1 c0
              have hwH : w.heap.size ≠ w2.heap.size := fun e => hHw e.symm
            all_goals
              go_wp2_with fail
              go_roundg f
              case rel =>
                exact ⟨A7, c7, acc ++ [r], l2, by rw [hlen]; omega, by omega, by rw [hlen]; exact hc7, by simp [go_sem, d0], by simp [go_sem, d1], by simp [go_sem, d2], by simp [go_sem, d3], by simp [go_sem, e0], by simp [go_sem, e1], by simp [go_sem, e2], by simp [go_sem, e3], hZ⟩
              case measure => omega
    · have hr1 : rightF n [] = false := by simpa using hr
      have hP := HP.out
      rw [if_neg hr] at hP
      subst hP
      rw [hr1]
      clear hr hr1
      go_wp2
      exact ⟨rfl, ⟨_, _, rfl⟩, HG4.out⟩
end Go.Proofs.YtofobjhlpgcdaaaDoor
