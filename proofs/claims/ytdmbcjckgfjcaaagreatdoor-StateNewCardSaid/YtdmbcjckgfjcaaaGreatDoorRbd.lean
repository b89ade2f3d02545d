/- Layer bag: tally: how often each number is in all of the bags. -/
import Derived.Test.YtdmbcjckgfjcaaaGreatDoorRar
import Derived.Test.YtdmbcjckgfjcaaaGreatDoorRaf
import Derived.Test.YtdmbcjckgfjcaaaGreatDoorRao
namespace Go.Proofs.YtdmbcjckgfjcaaaGreatDoor
open Go.RowKit Go.Maps
theorem zeroI (u : World) : (zeroValue 3).run Tryz.prog u = .ok (.int .i64 0) u := by kernel_rfl
/-- the map in block B counts the list L -/
def TalL (w : World) (B : Nat) (L : List Int) : Prop := Tal Tryz.prog 3 w B L.length (fun o => L.count o)
theorem talL_snoc {w : World} {B : Nat} {L : List Int} {x : Int} (h : Tal Tryz.prog 3 w B (L.length + 1) (updI (fun o => L.count o) x (L.count x + 1))) : TalL w B (L ++ [x]) := by
  unfold TalL
  rw [List.length_append]
  refine Tal.same h fun o => ?_
  unfold updI
  rw [List.count_append, List.count_singleton]
  by_cases e : o = x
  · subst e; simp
  · have : (x == o) = false := by simp; omega
    rw [if_neg e]; simp [this]
set_option maxHeartbeats 1000000 in
theorem tally_any (v : Value) (ls : List (List Int)) (w : World) (hl : Grid w v ls) (hk : AllK ls.flatten) (hbig : ls.flatten.length ≤ 40000000000000) :
    Calls Tryz.prog 98 #[v] w fun e w' => ∃ B, e = .returned (.map (some B)) ∧ TalL w' B ls.flatten ∧ w.heap.size ≤ B ∧ Below w.heap.size w w' := by
  have hmm := @run_makeMap Tryz.prog
  obtain ⟨A, c, rfl, h1, h2⟩ := hl.form
  unfold maxLen at h2
  have HL := hide hl
  have HK := hide hk
  have hB0 : Below w.heap.size w (w.alloc (.map #[] 0)) := (Below.refl _ _).alloc (Nat.le_refl _) _
  have hT0 := hide (show TalL (w.alloc (.map #[] 0)) w.heap.size [] from tal_new w)
  clear hl hk
  go_enter Tryz.func98, Tryz.ntmps98
  go_wp2
  go_loopw [11] (fun i wr => ∃ k : Nat, k ≤ ls.length ∧ i = .int .i64 k ∧ Below w.heap.size w wr ∧ Hid (TalL wr w.heap.size (ls.take k).flatten)) (fun i _ => ls.length - (Go.RowKit.intOf i).toNat)
  case atStart => exact ⟨0, Nat.zero_le _, rfl, hB0, hT0⟩
  case round =>
    obtain ⟨k, hkl, rfl, hb, HT⟩ := hrel
    by_cases hlt : k < ls.length
    · obtain ⟨b, off, u, rfl, hbl, hc, hu⟩ := grid_at HL.out hlt
      have hfl : (ls.take (k + 1)).flatten = (ls.take k).flatten ++ ls[k] := by rw [List.take_succ_eq_append_getElem hlt, List.flatten_append]; simp
      have hsub : ∀ x ∈ ls[k], Kw x := fun x hx => HK.out x (List.mem_flatten.2 ⟨_, List.getElem_mem hlt, hx⟩)
      have hlen : (ls.take (k + 1)).flatten.length ≤ 40000000000000 := by
        have h3 : ls.flatten = (ls.take (k + 1)).flatten ++ (ls.drop (k + 1)).flatten := by rw [← List.flatten_append, List.take_append_drop]
        rw [h3, List.length_append] at hbig; omega
      rw [hfl, List.length_append] at hlen
      generalize ls[k] = l at *
      generalize (ls.take k).flatten = L at *
      have HF := hide hfl
      have HS := hide hsub
      have HU := hide hu
      have hc := (hb.cell (p := ⟨b, off + k, none⟩) hbl).trans hc
      obtain ⟨A', c', rfl, h1', h2', -⟩ := hu
      unfold maxLen at h2'
      clear hfl hsub
      have hwB := hb.size
      go_wp2
      go_loopw [17] (fun i ws => ∃ j : Nat, j ≤ l.length ∧ i = .int .i64 j ∧ Below w.heap.size w ws ∧ Hid (TalL ws w.heap.size (L ++ l.take j))) (fun i _ => l.length - (Go.RowKit.intOf i).toNat)
      case atStart => exact ⟨0, Nat.zero_le _, rfl, hb, by simpa using HT⟩
      case round =>
        obtain ⟨j, hj, rfl, hbs, HTs⟩ := hrel
        by_cases hjl : j < l.length
        · obtain ⟨b2, o2, rfl, -, c2⟩ := ints_at (HU.out.below hbs) hjl
          have hx := HS.out _ (List.getElem_mem hjl)
          have hsn : L ++ l.take (j + 1) = (L ++ l.take j) ++ [l[j]] := by rw [List.take_succ_eq_append_getElem hjl, List.append_assoc]
          have HN := hide hsn
          have hcl : (L ++ l.take j).count l[j] ≤ (L ++ l.take j).length := List.count_le_length
          have hll : (L ++ l.take j).length = L.length + j := by rw [List.length_append, List.length_take]; omega
          clear hsn
          generalize l[j] = x at *
          generalize L ++ l.take j = M at *
          go_wp2_with (first
            | (at_lookup; refine wpList_tal_look (t := 3) rfl _ _ rfl Tryz.underlying3 Tryz.underlying96 zeroI rfl x rfl hx HTs.out ?_)
            | (at_mapUpdate; refine wpList_tal_store (t := 3) rfl _ _ _ rfl Tryz.underlying3 Tryz.underlying96 rfl x rfl hx (M.count x + 1) _ rfl (by omega) (by omega) (by unfold maxLen; omega) HTs.out ?_; intro w4 hT4 hT4' hg4))
          go_roundw
          case rel => exact ⟨j + 1, by omega, by go_num, hbs.grown hg4 (by have := hbs.size; omega) (fun g hg => by injection hg with hg; omega), by rw [HN.out]; exact hide (talL_snoc hT4)⟩
          case measure => simp [Go.RowKit.intOf]; omega
        · have hjj : j = l.length := by omega
          subst hjj
          rw [List.take_of_length_le (Nat.le_refl _), ← HF.out] at HTs
          go_wp2
          go_roundw
          case rel => exact ⟨k + 1, by omega, by go_num, hbs, HTs⟩
          case measure => simp [Go.RowKit.intOf]; omega
    · have hkk : k = ls.length := by omega
      subst hkk
      rw [List.take_of_length_le (Nat.le_refl _)] at HT
      go_wp2
      go_ret
      exact ⟨_, rfl, HT.out, Nat.le_refl _, hb⟩
end Go.Proofs.YtdmbcjckgfjcaaaGreatDoor
