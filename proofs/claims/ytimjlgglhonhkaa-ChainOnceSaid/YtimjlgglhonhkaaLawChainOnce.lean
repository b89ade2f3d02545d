/- ChainOnce: for any schedule by bytes: at each step each node is in one list, or somebody has it: once. No condition. -/
import Derived.Test.YtimjlgglhonhkaaChainEx
import Derived.Test.YtimjlgglhonhkaaChainLawP
import Derived.Deep.Cut
import Derived.Deep.QuietTactic
import Derived.BigQuiet
import Derived.Test.YtimjlgglhonhkaaChainNodes
import Derived.Test.YtimjlgglhonhkaaChainBag
namespace Go.Proofs.Ytimjlgglhonhkaa.ch.lawChainOnce
open Go.RowKit Go.WideShapes Go.ChangeShapes Go.ChangeAt Go.Proofs Go.Proofs.Ytimjlgglhonhkaa

theorem from_len (m : List Int) (nx : Int) : ∀ (k : Nat) (x : Int), (listFrom m nx k x).length ≤ k
  | 0, _ => by simp [listFrom]
  | k + 1, x => by
    rw [listFrom]
    split
    · simp
    · rw [List.length_cons]; have := from_len m nx k (s64 (loadF m (s64 (nx + x)))); omega
theorem list50 (m : List Int) (hd nx : Int) : (listF m hd nx 50).length ≤ 50 := by
  unfold listF
  have := from_len m nx (min (max (50 : Int) 0) 1000).toNat (nodeF (loadF m hd))
  have e : (min (max (50 : Int) 0) 1000).toNat = 50 := by decide
  rw [e] at this ⊢
  exact this
theorem nodes_K {l : List Int} (h : sameB l [1, 2, 3, 4, 5, 6, 7, 8] = true) : AllK l := fun x hx => by
  have h1 := same_iff.1 h x
  have h2 := List.count_pos_iff.2 hx
  rw [h1] at h2
  have h3 := List.count_pos_iff.1 h2
  simp only [List.mem_cons, List.not_mem_nil, or_false] at h3
  unfold Kw
  omega
theorem eight_K : AllK [1, 2, 3, 4, 5, 6, 7, 8] := fun x hx => by
  simp only [List.mem_cons, List.not_mem_nil, or_false] at hx
  unfold Kw
  omega
set_option maxRecDepth 100000 in
set_option maxHeartbeats 8000000 in
theorem walk (v : Value) (lb : List Int) (w : World) (h : Bytes w v lb) (hlb : ∀ p ∈ lb, 0 ≤ p ∧ p ≤ 255) : Calls Try.prog 5 #[v] w fun e w' => e = .returned (.bool true) ∧ Below w.heap.size w w' := by
  have hB : Below w.heap.size w w := Below.refl _ _
  obtain ⟨Ab, cb, rfl, hcb1, hcb2, -⟩ := id h
  unfold maxLen at hcb2
  have GB := hide h
  have HLB := hide hlb
  clear h hlb
  go_enter Try.func5, Try.ntmps5
  go_wp2_with fail
  (with_reducible refine (examples_any _).mono ?_)
  rintro e w0_ ⟨rfl, hb0_⟩
  replace hB := bcall hB hb0_
  have hs0_ := hb0_.size
  go_wp2_with fail
  (with_reducible refine (start_any _).mono ?_)
  rintro e w1_ ⟨A, c, g, gh, ct, cg, rfl, ⟨hc1, hc2⟩, ⟨ht1, ht2⟩, ⟨hh1, hh2⟩, hC, hT, hH, hb1_, hne, hgg, hlg, hlh⟩
  replace hB := bcall hB hb1_
  have hs1_ := hb1_.size
  obtain ⟨w3, e3⟩ : ∃ w3, w1_.alloc (.cells #[.slice A 10 c, .slice (some ⟨g, 0, none⟩) 5 ct, .slice (some ⟨gh, 0, none⟩) 5 cg, .int .i64 0] 64) = w3 := ⟨_, rfl⟩
  have HE3 := hide e3
  have hb3 : Below w1_.heap.size w1_ w3 := by rw [← e3]; exact bal _ _
  have HW := hide (start_wat hC hT hH hne hgg e3)
  have HST := hide (show SpAt w3 w1_.heap.size g gh ct cg 0 startCw (.slice A 10 c) w3 from ⟨HW.out, Fr.refl, start_good⟩)
  replace hB := bcall hB hb3
  have hfB : w.heap.size ≤ w1_.heap.size := by omega
  have hfg : w.heap.size ≤ g := by omega
  have hfh : w.heap.size ≤ gh := by omega
  have hf3 : w.heap.size ≤ w3.heap.size := hB.size
  clear e3 hC hT hH hne hb3 hb0_ hb1_ hlg hlh
  go_upto_region 5 with (fail)
  rw [HE3.out]
  go_wp2
  go_loopw [5] (fun iv wr => ∃ (X : Nat) (d : Cw) (vM : Value), X ≤ 400 ∧ iv = .int .i64 X ∧ Hid (SpAt w3 w1_.heap.size g gh ct cg X d vM wr)) (fun iv _ => 400 - (Go.RowKit.intOf iv).toNat)
  case atStart => exact ⟨0, startCw, _, Nat.zero_le _, rfl, HST⟩
  case round =>
    obtain ⟨X, d, vM, hX, rfl, HS⟩ := hrel
    have hBr : Below w.heap.size w wr := Fr.below hB HS.out.fr hf3 hfB hfg hfh
    have GBr := hide (GB.out.below hBr)
    by_cases hlt : X < lb.length
    · by_cases hm : X < 400
      · obtain ⟨bg, bo, rfl, d0⟩ := bytes_at GBr.out hlt
        have hy := HLB.out _ (List.getElem_mem hlt)
        obtain ⟨y, hyy⟩ : ∃ y, lb[X] = y := ⟨_, rfl⟩
        rw [hyy] at d0 hy
        clear hyy
        have hmi : (X : Int) < 400 := by omega
        obtain ⟨d', hd'⟩ : ∃ d', cstepW y.toNat d = d' := ⟨_, rfl⟩
        have HG := hide (show CGood (X + 1) d' by rw [← hd']; exact chain_good HS.out.good (by omega) _)
        have HDD := hide hd'
        clear hd'
        go_wp2_with fail
        (with_reducible refine (wstep_good w1_.heap.size g gh ct cg d vM _ HS.out.at_ X HS.out.good (by omega) y hy d' HDD.out).mono ?_)
        rintro e w5 ⟨vM', rfl, hW5, hF5⟩
        have HS5 := hide (show SpAt w3 w1_.heap.size g gh ct cg (X + 1) d' vM' w5 from ⟨hW5, HS.out.fr.trans hF5, HG.out⟩)
        clear hW5 hF5 d0
        obtain ⟨l0, hl0⟩ : ∃ l0, listF d'.m 0 1 50 = l0 := ⟨_, rfl⟩
        obtain ⟨l1, hl1⟩ : ∃ l1, listF d'.m 1 1 50 = l1 := ⟨_, rfl⟩
        have h0_ : l0.length ≤ 50 := by rw [← hl0]; exact list50 _ _ _
        have h1_ : l1.length ≤ 50 := by rw [← hl1]; exact list50 _ _ _
        have HSM := hide (show sameB (hasF d'.has ++ l0 ++ l1) [1, 2, 3, 4, 5, 6, 7, 8] = true by rw [← hl0, ← hl1]; exact good_nodes HG.out)
        have hlen : (hasF d'.has ++ l0 ++ l1).length ≤ 105 := by have := hasF_len d'.has; rw [HS5.out.at_.ha5] at this; rw [List.length_append, List.length_append]; omega
        have HLN := hide hlen
        have HL0 := hide hl0
        have HL1 := hide hl1
        clear hl0 hl1 hlen
        go_wp2_with fail
        (with_reducible refine (nodes_any w1_.heap.size g gh ct cg d' vM' _ HS5.out.at_ l0 l1 HL0.out HL1.out h0_ h1_).mono ?_)
        rintro e w6 ⟨A6, n6, c6, rfl, hn6, J6, hb6⟩
        obtain ⟨w7, e7, hb7, J7⟩ : ∃ w1, w6.alloc (.cells #[.int .i64 1, .int .i64 2, .int .i64 3, .int .i64 4, .int .i64 5, .int .i64 6, .int .i64 7, .int .i64 8] 3) = w1 ∧ Below w6.heap.size w6 w1 ∧ Ints w1 (.slice (some ⟨w6.heap.size, 0, none⟩) 8 8) [1, 2, 3, 4, 5, 6, 7, 8] := lit_ints [1, 2, 3, 4, 5, 6, 7, 8] 8 rfl (by decide)
        have HE7 := hide e7
        have HJ6 := hide (J6.below hb7)
        have HJ7 := hide J7
        have hb57 := bcall hb6 hb7
        clear e7 J6 J7 hn6 hb6 hb7
        go_wp2_with fail
        rw [HE7.out]
        (with_reducible refine (bSame_any _ _ (hasF d'.has ++ l0 ++ l1) [1, 2, 3, 4, 5, 6, 7, 8] _ HJ6.out HJ7.out (nodes_K HSM.out) eight_K (by have := HLN.out; omega) (by decide)).mono ?_)
        rintro e w8 ⟨rfl, hb8⟩
        rw [HSM.out]
        have hb58 := bcall hb57 hb8
        have HS8 := hide (show SpAt w3 w1_.heap.size g gh ct cg (X + 1) d' vM' w8 from ⟨HS5.out.at_.below hb58, HS5.out.fr.trans (Fr.of_below hb58), HG.out⟩)
        clear hb57 hb8 hb58
        go_wp2
        go_roundw
        case rel => exact ⟨X + 1, d', _, by omega, by go_num, HS8⟩
        case measure => simp [Go.RowKit.intOf]; omega
      · have hm' : ¬ (X : Int) < 400 := by omega
        go_wp2
        go_ret
        exact ⟨rfl, hBr⟩
    · have hlt' : ¬ (X : Int) < (lb.length : Int) := by omega
      go_wp2
      go_ret
      exact ⟨rfl, hBr⟩

set_option maxRecDepth 100000 in
theorem lifted (os : Os) (started : os.Started) (H : Type) (enc : TypeId × Value → H) :
    ReturnsInHanded {} Try.checked os 5 .any (Rows.chainOnceSpec.pre6 enc Try.prog Try.f5 Rows.chainOnceRow.domain false) (Rows.chainOnceSpec.post enc Try.prog Try.f5 false true false false) := by
  refine returnsInHanded_of_change_sized (C := Try.checked) ownL started (by kernel_rfl) Try.func5
    (ChangeSpec.witness6 (enc := enc) (C := Try.checked) false ⟨#[], #[.slice none 0 0], []⟩ 8 (by kernel_rfl) (by kernel_rfl) (by kernel_rfl) (by kernel_rfl)) ?_
  intro W base args ds gs before hval hW _ hsz0 _
  have hW' := hW
  obtain ⟨p, q, hA0, hV, rfl, hfz, hnd⟩ := hW
  have hA : DataW.TrodAll enc Try.prog W 0 (fun _ => true) true Try.f5.params.toList args.toList ds p := hA0
  rw [Try.params5] at hA hval
  obtain ⟨v0, vs0, d0, ds0, p0, q0, hargs, rfl, rfl, h0, r0⟩ := trodAll_cons hA
  obtain ⟨rfl, rfl, rfl⟩ := trodAll_nil r0
  obtain rfl : args = #[v0] := by cases args; simp_all
  obtain ⟨rfl, rfl⟩ := trodVars_none hV
  obtain ⟨l0, hl0, hq0, hd0⟩ := open_bytes (hval 0 61 v0 rfl rfl) h0
  have hsz : (DataW.weightsEach Try.prog [61] ([d0] : List (DataW H))).all (· ≤ reachBytes) = true := hsz0
  have e0 : l0.length * 1 ≤ 140737488351232 := slice_reach hsz 0 rfl rfl Try.underlying61 (by kernel_rfl) hd0
  refine (walk v0 l0 W hl0 hq0).mono fun e W' ⟨he, hg⟩ => ?_
  subst he
  exact ⟨_, rfl, law_post laidOutL (by kernel_rfl) rfl Try.underlying4 rfl ⟨rfl, rfl, rfl⟩ hW' hg⟩

/-- THE STATEMENT -/
theorem proved : Rows.ChainOnceSaid :=
  OpenClaim.holds_of_wide 5 Try.f5 rfl rfl rfl rfl rfl rfl rfl ⟨rfl, rfl, rfl, rfl, rfl⟩ rfl rfl rfl rfl rfl (by kernel_rfl) Try.func5 (by kernel_rfl)
    (of_decide_eq_true (by kernel_rfl)) (by unfold Func.isWrapper; first | (rw [if_pos (by decide +kernel)]; kernel_rfl) | (rw [if_neg (by decide +kernel)]; exact ⟨rfl, rfl⟩))
    (fun os started H enc _ => lifted os started H enc)
end Go.Proofs.Ytimjlgglhonhkaa.ch.lawChainOnce
