/- Layer reach: From, Via, Dist. -/
import Derived.Test.YtohfpcnekfpdkaaDoorReachN
import Derived.Test.YtohfpcnekfpdkaaDoorHeapCopy
namespace Go.Proofs.YtohfpcnekfpdkaaDoor
open Go.RowKit Go.Shelf

theorem dst_ne (ls : Rws) (opn r : Nat) (x : Int) : dstF ls opn r x ≠ -1 ↔ hasF (levF ls opn r 64) x = true := by
  unfold dstF
  rcases hf : (List.range 65).find? fun k => hasF (levF ls opn r k) x with _ | k
  · simp only [ne_eq, not_true_eq_false, false_iff]
    intro h
    exact List.find?_eq_none.1 hf 64 (by simp) h
  · have h1 := List.find?_some hf
    have h2 := List.mem_range.1 (List.mem_of_find?_eq_some hf)
    simp only [ne_eq]
    exact ⟨fun _ => lev_mono _ _ _ _ h1 64 (by omega), fun _ => by omega⟩
theorem far_len (ls : Rws) (opn r : Nat) : (farF ls opn r).length = 64 := by simp [farF]
theorem farA_far (ls : Rws) (opn r : Nat) (x : Int) (hx : 1 ≤ x ∧ x ≤ 64) : farA (farF ls opn r) x = dstF ls opn r x := by
  obtain ⟨i, rfl⟩ : ∃ i : Nat, x = (i : Int) + 1 := ⟨(x - 1).toNat, by omega⟩
  unfold farA farF
  rw [List.getD_eq_getElem?_getD, show ((i : Int) + 1 - 1).toNat = i by omega, List.getElem?_map, List.getElem?_range (by omega)]; rfl
theorem metS_far (ls : Rws) (opn : Nat) {r : Nat} (hr : r < 18446744073709551616) : metS (farF ls opn r) 64 = levF ls opn r 64 := by
  refine has_ext (metS_lt _ _) (lev_lt _ _ hr _) fun x => ?_
  rw [has_metS _ _ 64 (Nat.le_refl _)]
  constructor
  · rintro ⟨a, b, c⟩
    rw [farA_far _ _ _ _ ⟨a, by omega⟩] at c
    exact (dst_ne ..).1 c
  · intro h
    have hx := has_rng h
    exact ⟨hx.1, by omega, by rw [farA_far _ _ _ _ hx]; exact (dst_ne ..).2 h⟩
theorem dist_far (ls : Rws) (r : Nat) : distF ls r = (farF ls allN r).take (min ls.length 64) := by
  unfold distF farF
  rw [← List.map_take, List.take_range]
  congr 2
  omega
theorem every_walk (n : Int) (u : Value) (ls : Rws) (r : Nat) (w : World) (hr : r < 18446744073709551616) (hG : Grid w u ls) (hE : EnvT w) :
    Calls Tryd.prog 55 #[hv n u, .int .u64 r, .func (.func 56) #[] #[]] w fun e w' => e = .returned (.agg (fa (farF ls allN r))) ∧ Below w.heap.size w w' :=
  walk_any 56 #[] allN n u ls r w hr hG hE (enters_of Tryd.func56 (by kernel_rfl) rfl)
    (fun o w' h1 h2 _ => by rw [has_all o ⟨h1, h2⟩]; exact every_any o w')
set_option maxRecDepth 100000 in
set_option maxHeartbeats 1000000 in
theorem From_any (n : Int) (u : Value) (ls : Rws) (r : Nat) (w : World) (hr : r < 18446744073709551616) (hG : Grid w u ls) (hE : EnvT w) :
    Calls Tryd.prog 31 #[hv n u, .int .u64 r] w fun e w' => e = .returned (.int .u64 (fromF ls r : Nat)) ∧ Below w.heap.size w w' := by
  have HG := hide hG
  have HE := hide hE
  obtain ⟨F, hF⟩ : ∃ F, farF ls allN r = F := ⟨_, rfl⟩
  have hFl : F.length = 64 := by rw [← hF]; exact far_len _ _ _
  have hm := metS_far ls allN hr
  rw [hF] at hm
  have HM := hide hm
  have HF := hide hF
  clear hG hE hm hF
  go_enter Tryd.func31, Tryd.ntmps31
  go_wp2_with fail
  (with_reducible refine (every_walk n u ls r _ hr (HG.out.alloc _) (HE.out.alloc _)).mono ?_)
  rintro e w1 ⟨rfl, hb1⟩
  rw [HF.out]
  go_wp2_with fail
  (with_reducible refine (metset_any F hFl _).mono ?_)
  rintro e w2 ⟨rfl, hb2⟩
  rw [HM.out]
  go_wp2
  go_ret
  exact ⟨rfl, bcall (bcall (bal _ _) hb1) hb2⟩
set_option maxRecDepth 100000 in
set_option maxHeartbeats 1000000 in
theorem Via_any (n : Int) (u : Value) (ls : Rws) (r o : Nat) (w : World) (hr : r < 18446744073709551616) (ho : o < 18446744073709551616) (hG : Grid w u ls) (hE : EnvT w) :
    Calls Tryd.prog 33 #[hv n u, .int .u64 r, .int .u64 o] w fun e w' => e = .returned (.int .u64 (viaF ls r o : Nat)) ∧ Below w.heap.size w w' := by
  have HG := hide hG
  have HE := hide hE
  obtain ⟨F, hF⟩ : ∃ F, farF ls (r ||| o) r = F := ⟨_, rfl⟩
  have hFl : F.length = 64 := by rw [← hF]; exact far_len _ _ _
  have hm := metS_far ls (r ||| o) hr
  rw [hF] at hm
  have HM := hide hm
  have HF := hide hF
  obtain ⟨w1, e1, hb1, -, -, x0, x1⟩ := box1 w (.int .i64 n) u 24
  have hs1 : w1.heap.size = w.heap.size + 1 := by rw [← e1]; simp
  obtain ⟨w2, e2, b0, b1, hb2, hs2⟩ := two_new w1 #[.int .u64 r] #[.int .u64 o] 53 53
  rw [hs1] at b0 b1
  have c0 := cell_of_one b0
  have c1 := cell_of_one b1
  have x0 := keepc hb2 x0
  have x1 := keepc hb2 x1
  have hb := bcall hb1 hb2
  have H1 := hide e1
  have H2 := hide e2
  have HW := hide (walk_any 63 #[.pointer (some ⟨w.heap.size + 1, 0, none⟩), .pointer (some ⟨w.heap.size + 1 + 1, 0, none⟩)] (r ||| o) n u ls r w2 hr (HG.out.below hb) (HE.out.below hb) (enters_of Tryd.func63 (by kernel_rfl) rfl)
    (fun x w' h1 h2 hw => Via1_any x r o _ _ w' hr ho (by omega) (by omega) (keepc hw c0) (keepc hw c1)))
  clear hG hE hm hF e1 e2 b0 b1
  have hmf : ∀ (fn : Fn) (first cap : Array Value) (w : World), (Instr.makeFunc fn first cap).run Tryd.prog w = .ok (.func fn first cap) w := fun _ _ _ _ => rfl
  go_enter Tryd.func33, Tryd.ntmps33
  go_wp2_with fail
  rw [H1.out, H2.out]
  (with_reducible refine HW.out.mono ?_)
  rintro e w3 ⟨rfl, hb3⟩
  rw [HF.out]
  go_wp2_with fail
  (with_reducible refine (metset_any F hFl _).mono ?_)
  rintro e w4 ⟨rfl, hb4⟩
  rw [HM.out]
  go_wp2
  go_ret
  exact ⟨rfl, bcall (bcall hb hb3) hb4⟩
theorem far_ints {w : World} {b : Nat} {far : List Int} (h : FarAt w b far) (m : Nat) (hm : m ≤ far.length) (hc : far.length ≤ 64) : Ints w (.slice (some ⟨b, 0, none⟩) m 64) (far.take m) := by
  have hl : (far.take m).length = m := by rw [List.length_take]; omega
  refine ⟨_, 64, by rw [hl], by omega, by simp [maxLen], fun _ => ⟨b, 0, rfl, lt_of_block h, fun i p hp j x hx => ?_⟩⟩
  have hj : j = 0 := by have := (List.getElem?_eq_some_iff.1 hx).1; simpa [ic] using this
  subst hj
  rw [List.getElem?_take] at hp
  split at hp
  · rename_i him
    have hi := (List.getElem?_eq_some_iff.1 hp).1
    have := far_cell h i hi
    rw [List.getElem?_eq_getElem hi] at hp
    injection hp with hp
    simp only [ic, List.getElem?_cons_zero] at hx
    injection hx with hx
    rw [← hx, ← hp, show 0 + i * 1 + 0 = i by omega]; exact this
  · cases hp
theorem far_slice (b m : Nat) (hm : m ≤ 64) (w : World) : (Instr.sliceAt 96 (.pointer (some ⟨b, 0, none⟩)) none (some (.int .i64 m)) none).run Tryd.prog w = .ok (.slice (some ⟨b, 0, none⟩) m 64) w := by
  simp [Instr.sliceAt, Instr.sureAddr, run_underlying Tryd.underlying96, Instr.sliceBounds, Tryd.sizeOf3, Addr.add]
  rw [run_sliceBound _ _ _ _ _ (by omega) (by omega)]
  simp
set_option maxRecDepth 100000 in
set_option maxHeartbeats 2000000 in
theorem Dist_any (n : Int) (u : Value) (ls : Rws) (r : Nat) (w : World) (hr : r < 18446744073709551616) (hG : Grid w u ls) (hE : EnvT w) :
    Calls Tryd.prog 29 #[hv n u, .int .u64 r] w fun e w' => ∃ v, e = .returned v ∧ w'.ownsRow w.heap.size 3 1 v (distF ls r).length ((distF ls r).flatMap ic) ∧ Below w.heap.size w w' := by
  have HG := hide hG
  have HE := hide hE
  obtain ⟨F, hF⟩ : ∃ F, farF ls allN r = F := ⟨_, rfl⟩
  have hFl : F.length = 64 := by rw [← hF]; exact far_len _ _ _
  have hd := dist_far ls r
  rw [hF] at hd
  have HD := hide hd
  have HF := hide hF
  obtain ⟨w1, e1, hb1, -, -, x0, x1⟩ := box1 w (.int .i64 n) u 24
  have hs1 : w1.heap.size = w.heap.size + 1 := by rw [← e1]; simp
  have H1 := hide e1
  have X0 := hide x0
  have X1 := hide x1
  clear hG hE hd hF e1 x0 x1
  go_enter Tryd.func29, Tryd.ntmps29
  go_wp2_with fail
  rw [H1.out]
  (with_reducible refine (every_walk n u ls r _ hr (HG.out.below hb1) (HE.out.below hb1)).mono ?_)
  rintro e w2 ⟨rfl, hb2⟩
  rw [HF.out]
  obtain ⟨w3, e3, hF3, hb3, hS3⟩ := new_row w2 #[.int .i64 0, .int .i64 0, .int .i64 0, .int .i64 0, .int .i64 0, .int .i64 0, .int .i64 0, .int .i64 0, .int .i64 0, .int .i64 0, .int .i64 0, .int .i64 0, .int .i64 0, .int .i64 0, .int .i64 0, .int .i64 0, .int .i64 0, .int .i64 0, .int .i64 0, .int .i64 0, .int .i64 0, .int .i64 0, .int .i64 0, .int .i64 0, .int .i64 0, .int .i64 0, .int .i64 0, .int .i64 0, .int .i64 0, .int .i64 0, .int .i64 0, .int .i64 0, .int .i64 0, .int .i64 0, .int .i64 0, .int .i64 0, .int .i64 0, .int .i64 0, .int .i64 0, .int .i64 0, .int .i64 0, .int .i64 0, .int .i64 0, .int .i64 0, .int .i64 0, .int .i64 0, .int .i64 0, .int .i64 0, .int .i64 0, .int .i64 0, .int .i64 0, .int .i64 0, .int .i64 0, .int .i64 0, .int .i64 0, .int .i64 0, .int .i64 0, .int .i64 0, .int .i64 0, .int .i64 0, .int .i64 0, .int .i64 0, .int .i64 0, .int .i64 0] (fa F) 96
  have HE3 := hide e3
  have HF3 := hide hF3
  have hb13 := bcall hb2 hb3
  have x0 := keepc hb13 X0.out
  have x1 := keepc hb13 X1.out
  clear e3 hF3
  go_wp2_with (refine wpList_store_row rfl 96 (.tmp 5) (.tmp 8) rfl w2.heap.size rfl (fa F) rfl #[.int .i64 0, .int .i64 0, .int .i64 0, .int .i64 0, .int .i64 0, .int .i64 0, .int .i64 0, .int .i64 0, .int .i64 0, .int .i64 0, .int .i64 0, .int .i64 0, .int .i64 0, .int .i64 0, .int .i64 0, .int .i64 0, .int .i64 0, .int .i64 0, .int .i64 0, .int .i64 0, .int .i64 0, .int .i64 0, .int .i64 0, .int .i64 0, .int .i64 0, .int .i64 0, .int .i64 0, .int .i64 0, .int .i64 0, .int .i64 0, .int .i64 0, .int .i64 0, .int .i64 0, .int .i64 0, .int .i64 0, .int .i64 0, .int .i64 0, .int .i64 0, .int .i64 0, .int .i64 0, .int .i64 0, .int .i64 0, .int .i64 0, .int .i64 0, .int .i64 0, .int .i64 0, .int .i64 0, .int .i64 0, .int .i64 0, .int .i64 0, .int .i64 0, .int .i64 0, .int .i64 0, .int .i64 0, .int .i64 0, .int .i64 0, .int .i64 0, .int .i64 0, .int .i64 0, .int .i64 0, .int .i64 0, .int .i64 0, .int .i64 0, .int .i64 0] 96 (heap_alloc_new w2 _) (met_info' _ hFl) (by rw [fa_size, hFl]; rfl) (fa_one _) ?_; rw [HE3.out])
  (with_reducible refine (count_any n u ls _ (HG.out.below (bcall hb1 hb13))).mono ?_)
  rintro e w4 ⟨rfl, hb4⟩
  obtain ⟨m, hm⟩ : ∃ m : Nat, min (ls.length : Int) 64 = (m : Int) := ⟨(min (ls.length : Int) 64).toNat, by omega⟩
  rw [hm]
  have hm64 : m ≤ 64 := by omega
  have hmm : min ls.length 64 = m := by omega
  have HMm := hide hmm
  have hF4 : FarAt w4 w2.heap.size F := (hb4.block _ (lt_of_block HF3.out)).trans HF3.out
  have HI := hide (far_ints hF4 m (by omega) (by omega))
  have hsl := far_slice w2.heap.size m hm64
  clear hF4 hm hmm
  go_wp2_with fail
  have hl : (F.take m).length = m := by rw [List.length_take]; omega
  (with_reducible refine (Clone_ints _ (F.take m) _ HI.out (by rw [hl]; omega)).mono ?_)
  rintro e w5 ⟨v', rfl, hown, hb5⟩
  rw [hl] at hown
  obtain ⟨A', c', rfl, -, -⟩ := own_form hown
  go_wp2
  go_ret
  have hb := bcall (bcall (bcall hb1 hb13) hb4) hb5
  refine ⟨_, rfl, ?_, hb⟩
  rw [HD.out, HMm.out, hl]
  exact own_base hown (by have := (bcall (bcall hb1 hb13) hb4).size; omega)
end Go.Proofs.YtohfpcnekfpdkaaDoor
