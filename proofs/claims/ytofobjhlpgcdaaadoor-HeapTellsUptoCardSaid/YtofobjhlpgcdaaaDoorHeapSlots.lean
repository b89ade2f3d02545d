/- Layer heap: an object's slots are read; a heap is. -/
import Derived.Test.YtofobjhlpgcdaaaDoorHeapPass
namespace Go.Proofs.YtofobjhlpgcdaaaDoor
open Go.RowKit Go.Shelf Go.Proofs

theorem gown {a b c : World} {g : Nat} {row : Option Nat} (h : a.grownBy b (some g)) (k : b.grownBy c row) (hr : ∀ r, row = some r → a.heap.size ≤ r) : a.grownBy c (some g) :=
  ⟨k.os.trans h.os, k.tape.trans h.tape, k.output.trans h.output, Nat.le_trans h.size k.size, fun i hi hg => (k.block i (Nat.lt_of_lt_of_le hi h.size) (fun e => by have := hr i e.symm; omega)).trans (h.block i hi hg)⟩
def NG (g : Nat) : Prop := g ≠ 0 ∧ g ≠ 1 ∧ g ≠ 2
theorem EnvH.ng {w : World} {g : Nat} (h : EnvH w) (hg : w.heap.size ≤ g) : NG g := by
  obtain ⟨h1, ⟨te, pe, h2⟩, ⟨tr, pr, h3⟩⟩ := h
  have b2 := World.block_lt_of_cell? _ _ h2
  have b3 := World.block_lt_of_cell? _ _ h3
  have b1 : 0 < w.heap.size := by
    unfold Lib.TabIs World.var? at h1
    rw [show Tryd.prog.globalNamed "internal/strconv.uint64pow10" = some 0 by kernel_rfl] at h1
    simp only [Option.bind_some] at h1
    rcases Nat.lt_or_ge 0 w.heap.size with h' | h'
    · exact h'
    · rw [Array.getElem?_eq_none h'] at h1; cases h1
  simp only at b2 b3
  unfold NG
  refine ⟨fun e => ?_, fun e => ?_, fun e => ?_⟩ <;> omega
theorem EnvH.grown {w w' : World} {g : Nat} (h : EnvH w) (hg : w.grownBy w' (some g)) (hn : NG g) : EnvH w' := by
  obtain ⟨n1, n2, n3⟩ := hn
  obtain ⟨h1, ⟨te, pe, h2⟩, ⟨tr, pr, h3⟩⟩ := h
  refine ⟨?_, ⟨te, pe, keepg hg h2 (fun e => n2 (by injection e))⟩, ⟨tr, pr, keepg hg h3 (fun e => n3 (by injection e))⟩⟩
  unfold Lib.TabIs World.var? at *
  rw [show Tryd.prog.globalNamed "internal/strconv.uint64pow10" = some 0 by kernel_rfl] at h1 ⊢
  simp only [Option.bind_some] at h1 ⊢
  have hlt : 0 < w.heap.size := by
    rcases Nat.lt_or_ge 0 w.heap.size with h' | h'
    · exact h'
    · rw [Array.getElem?_eq_none h'] at h1; cases h1
  rw [hg.block _ hlt (fun e => n1 (by injection e with e; exact e.symm))]
  exact h1
theorem slotsF_step {k s : Nat} {l l1 l2 : B8} {v : Int} (hp : passF (aheadF s) l = some l1) (hn : numF l1 = some (v, l2)) : slotsF (k + 1) s l = (slotsF k (s + 1) l2).map fun x => (v :: x.1, x.2) := by
  rw [slotsF, hp]
  simp only
  rw [hn]
theorem slotsF_pass {k s : Nat} {l : B8} (hp : passF (aheadF s) l = none) : slotsF (k + 1) s l = none := by rw [slotsF, hp]
theorem slotsF_num {k s : Nat} {l l1 : B8} (hp : passF (aheadF s) l = some l1) (hn : numF l1 = none) : slotsF (k + 1) s l = none := by
  rw [slotsF, hp]
  simp only
  rw [hn]

set_option maxRecDepth 100000 in
set_option maxHeartbeats 4000000 in
theorem slots_any (N g : Nat) (hN : N ≤ 4) (l : B8) (w : World) (hl : l.length ≤ 140737488351232) (hE : EnvH w) (hR : RestAt g l w) (hg : NG g) :
    Calls Tryd.prog 42 #[.pointer (some ⟨g, 0, none⟩), .int .i64 N] w fun e w' =>
      (match slotsF N 0 l with | some p => ∃ v, e = .returned v ∧ w'.ownsRow w.heap.size 3 1 v p.1.length (p.1.flatMap ic) ∧ RestAt g p.2 w' | none => Pan e) ∧ w.grownBy w' (some g) := by
  obtain ⟨P, hP⟩ : ∃ P, slotsF N 0 l = P := ⟨_, rfl⟩
  rw [hP]
  have HP := hide hP
  have HE := hide hE
  have HR := hide hR
  have hlt := hR.lt
  have HL := hide hl
  have HGG := hide hg
  clear hP hE hR hl hg
  obtain ⟨i0, hi, hz0, hz1, hz2⟩ := info_parts infoInt
  go_enter Tryd.func42, Tryd.ntmps42
  go_wp2
  go_loopw [5, 8] (fun v i wr => ∃ (k : Nat) (acc : List Int) (rest : B8), k ≤ N ∧ i = .int .i64 k ∧ wr.ownsRow w.heap.size 3 1 v k (acc.flatMap ic) ∧ Hid (RestAt g rest wr ∧ w.grownBy wr (some g) ∧ acc.length = k ∧ rest.length ≤ l.length ∧ P = (slotsF (N - k) k rest).map fun x => (acc ++ x.1, x.2))) (fun _ i _ => N - (Go.RowKit.intOf i).toNat)
  case atStart =>
    refine ⟨0, [], l, Nat.zero_le _, rfl, World.ownsRow_nil _ _ _ _, hide ⟨HR.out, World.grownBy.refl w _, rfl, Nat.le_refl _, ?_⟩⟩
    rw [← HP.out, Nat.sub_zero]
    simp
  case round =>
    obtain ⟨k, acc, rest, hk, rfl, hown, HH⟩ := hrel
    by_cases hlk : k < N
    · obtain ⟨hra, hgw, hal, hrl, hPP⟩ := HH.out
      clear HH
      have hEr := HE.out.grown hgw HGG.out
      have hrl2 : rest.length ≤ 140737488351232 := Nat.le_trans hrl HL.out
      obtain ⟨A, cp, rfl, hcp, hcm⟩ := own_form hown
      rw [show N - k = (N - (k + 1)) + 1 by omega] at hPP
      have hs0 := hgw.size
      have HA := hide hal
      have HPa := hide (fun w' => pass_any (aheadF k) g rest w' hrl2)
      have HER := hide hEr
      have HRA := hide hra
      have HGW := hide hgw
      have HRL := hide hrl
      rcases hp : passF (aheadF k) rest with _ | l1
      · have hPn : P = none := by rw [hPP, slotsF_pass hp]; rfl
        rw [hp] at HPa
        subst hPn
        clear hp hPP hra hgw hEr hrl hal hrl2
        go_wp2_with fail
        (with_reducible refine (ahead_any k _).mono ?_)
        rintro e w1 ⟨rfl, rfl⟩
        go_wp2_with fail
        (with_reducible refine (HPa.out _ HER.out HRA.out).mono ?_)
        rintro e w2 ⟨⟨u, v, rfl⟩, hg2⟩
        go_wp2
        exact ⟨rfl, ⟨_, _, rfl⟩, HGW.out.trans hg2⟩
      · rw [hp] at HPa
        have hl1 : l1.length ≤ 140737488351232 := by have := congrArg List.length (passF_eq hp); rw [List.length_cons] at this; omega
        have HL1 := hide (show l1.length ≤ rest.length by have := congrArg List.length (passF_eq hp); rw [List.length_cons] at this; omega)
        rcases hn : numF l1 with _ | ⟨x, l2⟩
        · have hPn : P = none := by rw [hPP, slotsF_num hp hn]; rfl
          have HNa := hide (fun w' => rnumber_any g l1 w' hl1)
          rw [hn] at HNa
          subst hPn
          clear hp hPP hra hgw hEr hrl hal hrl2 hl1 hn
          go_wp2_with fail
          (with_reducible refine (ahead_any k _).mono ?_)
          rintro e w1 ⟨rfl, rfl⟩
          go_wp2_with fail
          (with_reducible refine (HPa.out _ HER.out HRA.out).mono ?_)
          rintro e w2 ⟨⟨rfl, hr2⟩, hg2⟩
          have hE2 := HER.out.grown hg2 HGG.out
          go_wp2_with fail
          (with_reducible refine (HNa.out _ hE2 hr2).mono ?_)
          rintro e w3 ⟨⟨u, v, rfl⟩, hg3⟩
          go_wp2
          exact ⟨rfl, ⟨_, _, rfl⟩, (HGW.out.trans hg2).trans hg3⟩
        · have hPs : P = (slotsF (N - (k + 1)) (k + 1) l2).map fun y => ((acc ++ [x]) ++ y.1, y.2) := by
            rw [hPP, slotsF_step hp hn]
            cases slotsF (N - (k + 1)) (k + 1) l2 <;> simp
          have HL2 := hide (show l2.length ≤ l1.length by have := congrArg List.length (numF_eq hn); rw [List.length_append] at this; omega)
          have HNa := hide (fun w' => rnumber_any g l1 w' hl1)
          rw [hn] at HNa
          have HPs := hide hPs
          clear hp hPs hPP hra hgw hEr hrl hal hrl2 hl1 hn
          go_wp2_with fail
          (with_reducible refine (ahead_any k _).mono ?_)
          rintro e w1 ⟨rfl, rfl⟩
          go_wp2_with fail
          (with_reducible refine (HPa.out _ HER.out HRA.out).mono ?_)
          rintro e w2 ⟨⟨rfl, hr2⟩, hg2⟩
          have hE2 := HER.out.grown hg2 HGG.out
          have own2 := hown.kept hg2 (.inr fun e => by have := (hown.lt g e).1; omega)
          go_wp2_with fail
          (with_reducible refine (HNa.out _ hE2 hr2).mono ?_)
          rintro e w3 ⟨⟨rfl, hr3⟩, hg3⟩
          have own3 := own2.kept hg3 (.inr fun e => by have := (hown.lt g e).1; omega)
          have hs2 := hg2.size
          have hs3 := hg3.size
          have HG3 := hide ((HGW.out.trans hg2).trans hg3)
          have HR3 := hide hr3
          have HO3 := hide own3
          clear hown own2 own3 hg2 hg3 hr2 hr3 hE2
          go_wp2_with (at_builtin; refine wpList_append_own _ rfl _ _ 53 rfl w.heap.size 3 i0 (.int .i64 0) 1 8 Tryd.underlying53 hi hz0 hz1 hz2 rfl (by decide) _ _ _ rfl (HO3.out.alloc _) ⟨_, 0, none⟩ 1 1 [.int .i64 x] rfl rfl (row_at _ _ _ (by simp)) (by simp [Value.oneCell']) (by simp only [maxLen]; omega) (by omega) (by simp; omega) ?_; intro v' w4 hown' hgrow _)
          have HG4 := hide hgrow
          have HO4 := hide hown'
          clear hgrow hown'
          go_roundw
          case rel =>
            refine ⟨k + 1, acc ++ [x], l2, by omega, by go_num, by rw [List.flatMap_append]; exact HO4.out, hide ⟨?_, ?_, by rw [List.length_append, HA.out]; rfl, Nat.le_trans HL2.out (Nat.le_trans HL1.out HRL.out), HPs.out⟩⟩
            · exact (HG4.out.block g (by simp; have := HR3.out.lt; omega) (fun e => by have := (HO3.out.lt g e.symm).1; omega)).trans (HR3.out.below (bal _ _))
            · exact gown (HG3.out.trans (grown_of_below (bal _ _) (some g))) HG4.out (fun r hr => (HO3.out.lt r hr).1)
          case measure => simp [Go.RowKit.intOf]; omega
    · obtain ⟨hra, hgw, hal, hrl, hPP⟩ := HH.out
      have hkk : k = N := by omega
      have hPs : P = some (acc, rest) := by rw [hPP, hkk, Nat.sub_self]; simp [slotsF]
      subst hPs
      have HO := hide hown
      clear hPP
      go_wp2
      go_ret
      exact ⟨⟨_, rfl, by first | exact HO.out | (rw [hal]; exact HO.out) | (have h9 := HO.out; rw [hkk] at h9; exact h9), hra⟩, hgw⟩
end Go.Proofs.YtofobjhlpgcdaaaDoor
