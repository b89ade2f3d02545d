/- Layer plan: the program's Bins, Writes, Greys, Live. Written by tools/genplanr5.py. -/
import Derived.OneCell
import Derived.Deep.LoopGhost
import Derived.Deep.RegionHeldLaw
import Derived.Deep.RegionLaw
import Derived.Deep.Cut
import Derived.Test.YtdmbcjckgfjcaaaGreatDoorRaw
import Derived.Test.YtdmbcjckgfjcaaaGreatDoorRbj
import Derived.Test.YtdmbcjckgfjcaaaGreatDoorRbq
namespace Go.Proofs.YtdmbcjckgfjcaaaGreatDoor
open Go.RowKit
set_option maxRecDepth 100000 in
set_option maxHeartbeats 2000000 in
theorem pBins_any (a b c d e f g h n : Int) (ob : Value) (s : Nat) (rg pg pk : Value) (w : World) :
    Calls Tryz.prog 32 #[planV a b c d e f g h n ob s rg pg pk] w fun x w' => x = .returned (.int .i64 (wrap64 (wrap64 (f + a) + b))) ∧ Below w.heap.size w w' := by
  unfold planV
  go_enter Tryz.func32, Tryz.ntmps32
  go_wp2
  go_ret
  exact ⟨by rfl, (Below.refl _ _).alloc (Nat.le_refl _) _⟩
set_option maxRecDepth 100000 in
set_option maxHeartbeats 2000000 in
theorem pGreys_any (a b c d e f g h n : Int) (ob : Value) (s : Nat) (rg pg pk : Value) (ls : Rws) (w : World) (hs : s < 18446744073709551616) (hg : Grid w rg ls) (hr : Rng ls) :
    Calls Tryz.prog 30 #[planV a b c d e f g h n ob s rg pg pk] w fun x w' => x = .returned (.int .u64 (grF s ls ls.length : Nat)) ∧ Below w.heap.size w w' := by
  have HG := hide hg
  have HR := hide hr
  have HS := hide hs
  obtain ⟨A, m, rfl, hm1, hm2⟩ := hg.form
  unfold maxLen at hm2
  clear hg hr hs
  obtain ⟨w1, e1, hb1, hs1, X⟩ := bp_new w a b c d e f g h n ob s (.slice A ls.length m) pg pk 30
  have HX := hide X
  have HE := hide e1
  have HB1 := hide hb1
  have HG1 := hide (HG.out.below hb1)
  obtain ⟨x0, x1, x2, x3, x4, x5⟩ := X.all2
  clear e1 X x0 x1 x4 x5 hb1 hs1
  unfold planV
  go_enter Tryz.func30, Tryz.ntmps30
  go_wp2_with fail
  rw [HE.out]
  go_wp2_with fail
  go_loopw [3, 11] (fun nv iv wr => ∃ i : Nat, i ≤ ls.length ∧ iv = .int .i64 i ∧ nv = .int .u64 ((grF s ls i : Nat) : Int) ∧ Below w1.heap.size w1 wr) (fun _ iv _ => ls.length - (Go.RowKit.intOf iv).toNat)
  case atStart => exact ⟨0, Nat.zero_le _, rfl, rfl, Below.refl _ _⟩
  case round =>
    obtain ⟨i, hi, rfl, rfl, hb⟩ := hrel
    have x2 := keepcHp hb x2
    have x3 := keepcHp hb x3
    by_cases hlt : i < ls.length
    · obtain ⟨gb, goff, uu, rfl, -, hgc, hgi⟩ := grid_at (HG1.out.below hb) hlt
      have HT := hide (grey_take (s := s) hlt)
      have hrl := HR.out ls[i] (List.getElem_mem hlt)
      have hgl := grF_lt HS.out ls i
      generalize ls[i] = l at *
      have HO := hide (Of_anySt _ l wr hgi hrl)
      have hol := ofF_lt l
      obtain ⟨O, hO⟩ : ∃ O, ofF l = O := ⟨_, rfl⟩
      obtain ⟨G, hG⟩ : ∃ G, grF s ls i = G := ⟨_, rfl⟩
      rw [hO] at HO HT hol
      rw [hG] at HT hgl ⊢
      have hor := bits_or_u64_nat G O hgl hol
      clear hgi hrl hO hG
      go_wp2_with fail
      (with_reducible refine HO.out.mono ?_)
      rintro e w2 ⟨rfl, hw2⟩
      obtain rfl := hw2.symm
      have hb3 := hb
      go_wp2
      go_roundw
      case rel => exact ⟨i + 1, by omega, by go_num, by rw [HT.out], hb3⟩
      case measure => simp [Go.RowKit.intOf]; omega
    · obtain rfl : i = ls.length := by omega
      go_wp2
      go_ret
      exact ⟨rfl, bcall HB1.out hb⟩
end Go.Proofs.YtdmbcjckgfjcaaaGreatDoor
