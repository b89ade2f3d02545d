/- Layer bag: normed: the counted numbers, rising, each as often as it is counted. -/
import Derived.Test.YtdmbcjckgfjcaaaGreatDoorRas
import Derived.Test.YtdmbcjckgfjcaaaGreatDoorRbd
namespace Go.Proofs.YtdmbcjckgfjcaaaGreatDoor
open Go.RowKit Go.Maps Go.Sort Go.Shelf Go.Proofs
theorem infoIBg : (Tryz.prog.info? 3).map (fun i => (i.zero, i.size, i.bytes)) = some (some (.int .i64 0), 1, 8) := by kernel_rfl
theorem sortsA (m : Nat) : AnyZI.SortsIn Tryz.prog Tryz.sortedA_ren Fence.wide m :=
  ⟨fun blk off cap ss W hH hblk hsz => callsIn_wide.2 (AnyM.slices_Sort_int Tryz.sortA blk off cap ss W hH hblk hsz),
   fun p cap W => callsIn_wide.2 (AnyM.slices_Sort_int_none Tryz.sortA p cap W)⟩
theorem Keys_any (mb : Option Nat) (W : World) : Calls Tryz.prog 141 #[.map mb] W fun e w' => e = .returned (.func (.func 166) #[] #[.pointer (some ⟨W.heap.size, 0, none⟩)]) ∧ w' = W.alloc (.cells #[.map mb] 96) :=
  (callsIn_wide (n := 5)).1 (AnyZI.keys_in Tryz.keysA Fence.wide 5 trivial rfl mb W)
set_option maxHeartbeats 1000000 in
theorem Sorted_raw (b nn : Nat) (D0 : DataW Unit) (R : Value → Option (DataW Unit × List MemPlace)) (w : World) (hown : w.ownsMap Tryz.prog 3 R b nn D0) (hmax : Maps.size D0 ≤ maxLen) (hbytes : Maps.size D0 * 8 ≤ 140737488355328) :
    Calls Tryz.prog 140 #[.func (.func 166) #[] #[.pointer (some ⟨w.heap.size, 0, none⟩)]] (w.alloc (.cells #[.map (some b)] 96)) fun e w' => ∃ (v : Value) (ss : List Int), e = .returned v ∧ ss.Perm (intKeys D0) ∧
      w'.ownsRow (w.alloc (.cells #[.map (some b)] 96)).heap.size 3 1 v ss.length ((ss.mergeSort (fun x y => decide (x ≤ y))).map encZ) ∧ (v = .slice none 0 0 ↔ ss = []) ∧ Below (w.alloc (.cells #[.map (some b)] 96)).heap.size (w.alloc (.cells #[.map (some b)] 96)) w' := by
  refine (callsIn_wide (n := 5)).1 ?_
  have hbl := hown.lt
  have hseq : SeqGives Fence.wide 2 Tryz.prog 166 #[.pointer (some ⟨w.heap.size, 0, none⟩)] encZ (fun ss => ss.Perm (intKeys D0)) (Maps.size D0) (w.alloc (.cells #[.map (some b)] 96)) :=
    AnyZI.keys_gives (ρ := Tryz.keysA_ren) { Tryz.keysA with } Fence.wide _ trivial rfl (by omega) w.heap.size b nn D0 _ (by simp) (by simp) (by
      obtain ⟨es, clock, hb, Ft, hs, hD⟩ := hown
      exact ⟨es, clock, (Below.heap_alloc _ _ b hbl).trans hb, Ft, hs, hD⟩)
  exact AnyZI.sorted_in Tryz.sortedA Fence.wide 5 trivial trivial trivial trivial rfl (by omega) (sortsA _) (enters_of Tryz.func165 (by kernel_rfl) rfl) 166 #[.pointer (some ⟨w.heap.size, 0, none⟩)] trivial (enters_of Tryz.func166 (by kernel_rfl) rfl) _ _ hmax hbytes _ hseq
/-- the keys of a map of counts, sorted -/
theorem Sorted_any (B n : Nat) (c : Int → Nat) (w : World) (h : Tal Tryz.prog 3 w B n c) (hn : n ≤ 17592186044416) :
    Calls Tryz.prog 140 #[.func (.func 166) #[] #[.pointer (some ⟨w.heap.size, 0, none⟩)]] (w.alloc (.cells #[.map (some B)] 96)) fun e w' => ∃ (v : Value) (ks : List Int), e = .returned v ∧
      w'.ownsRow w.heap.size 3 1 v ks.length (ks.flatMap ic) ∧ Rises ks ∧ ks.Nodup ∧ AllK ks ∧ (∀ o, Kw o → 0 < c o → o ∈ ks) ∧ Below w.heap.size w w' := by
  obtain ⟨D, hown, -, h2⟩ := h
  have hsz := hown.size_le
  obtain ⟨k1, k2, k3⟩ := ownsMap_keysI hown Tryz.underlying3
  refine (Sorted_raw B n D _ w hown (by unfold maxLen; omega) (by omega)).mono ?_
  rintro e w' ⟨v, ss, rfl, hp, ho, -, hb⟩
  refine ⟨v, ss.mergeSort (fun x y => decide (x ≤ y)), rfl, ?_, sort_rises ss, sort_nodup (hp.nodup_iff.2 k1), fun x hx => k2 x (hp.mem_iff.1 (sort_mem.1 hx)), fun o ho h0 => sort_mem.2 (hp.mem_iff.2 (k3 o (h2 o ho h0))), bcall1 (Below.refl _ _) hb⟩
  rw [List.length_mergeSort, ← ic_map]
  exact own_base ho (by simp)
set_option maxHeartbeats 2000000 in
theorem normed_any (B n : Nat) (c : Int → Nat) (b : List Int) (w : World) (h : Tal Tryz.prog 3 w B n c) (hn : n ≤ 17592186044416) (hc : ∀ o, c o = b.count o) (hk : AllK b) (hb : b.length ≤ 17592186044416) :
    Calls Tryz.prog 97 #[.map (some B)] w fun e w' => ∃ v, e = .returned v ∧ w'.ownsRow w.heap.size 3 1 v (normB b).length ((normB b).flatMap ic) ∧ Below w.heap.size w w' := by
  obtain ⟨i0, hi, hz0, hz1, hz2⟩ := info_parts infoIBg
  have hS := hide (Sorted_any B n c w h hn)
  have HT := hide h
  have HC := hide hc
  have HKb := hide hk
  clear h hc hk
  go_enter Tryz.func97, Tryz.ntmps97
  go_wp2_with fail
  refine (Keys_any _ _).mono ?_
  rintro e w1 ⟨rfl, rfl⟩
  go_wp2_with fail
  refine hS.out.mono ?_
  rintro e w2 ⟨v2, ks, rfl, ho, hr, hnd, hkk, hm, hb2⟩
  have hsp : spread c ks = normB b := spread_norm hr hnd HC.out fun o ho => hm o (HKb.out o ho) (by rw [HC.out]; exact List.count_pos_iff.2 ho)
  have hle : (spread c ks).length ≤ 17592186044416 := by rw [hsp, norm_len]; exact hb
  have HR := hide (Sl.of_own ic_len ho)
  obtain ⟨A, cp, rfl, hcp, hcm⟩ := own_form ho
  unfold maxLen at hcm
  have HT2 := hide (HT.out.below hb2)
  have HSP := hide hsp
  have HKK := hide hkk
  have hs2 := hb2.size
  clear hsp hkk hm hr hnd ho hS HT
  go_wp2
  go_loopw [3, 10] (fun v i wr => ∃ k : Nat, k ≤ ks.length ∧ i = .int .i64 k ∧ wr.ownsRow w2.heap.size 3 1 v (spread c (ks.take k)).length ((spread c (ks.take k)).flatMap ic) ∧ Below w2.heap.size w2 wr) (fun _ i _ => ks.length - (Go.RowKit.intOf i).toNat)
  case atStart => exact ⟨0, Nat.zero_le _, rfl, World.ownsRow_nil _ _ _ _, Below.refl _ _⟩
  case round =>
    obtain ⟨k, hkl, rfl, hown, hbw⟩ := hrel
    by_cases hlt : k < ks.length
    · obtain ⟨b1, o1, rfl, -, c1⟩ := ints_at (HR.out.below hbw) hlt
      have hx := HKK.out _ (List.getElem_mem hlt)
      have hst := spread_take c ks k hlt
      have hsl := spread_le c ks (k + 1)
      rw [hst, List.length_append, List.length_replicate] at hsl
      have HST := hide hst
      clear hst
      generalize ks[k] = x at *
      generalize spread c (ks.take k) = L at *
      obtain ⟨m, hm⟩ : ∃ m, c x = m := ⟨_, rfl⟩
      have HM := hide hm
      rw [hm] at hsl HST
      clear hm
      obtain ⟨A3, c3, rfl, hA3, hA4⟩ := own_form hown
      go_wp2_with (at_lookup; refine wpList_tal_look (t := 3) rfl _ _ rfl Tryz.underlying3 Tryz.underlying96 zeroI rfl x rfl hx (HT2.out.below hbw) ?_; rw [HM.out])
      go_loopw [3, 17] (fun v i ws => ∃ j : Nat, j ≤ m ∧ i = .int .i64 j ∧ ws.ownsRow w2.heap.size 3 1 v (L.length + j) ((L ++ List.replicate j x).flatMap ic) ∧ Below w2.heap.size w2 ws) (fun _ i _ => m - (Go.RowKit.intOf i).toNat)
      case atStart => exact ⟨0, Nat.zero_le _, rfl, by simpa using hown, hbw⟩
      case round =>
        obtain ⟨j, hj, rfl, hown2, hbs⟩ := hrel
        obtain ⟨A4, c4, rfl, hA5, hA6⟩ := own_form hown2
        have hsz := hbs.size
        by_cases hjl : j < m
        · go_wp2_with (at_builtin; refine wpList_append_own _ rfl _ _ 47 rfl w2.heap.size 3 i0 (.int .i64 0) 1 8 Tryz.underlying47 hi hz0 hz1 hz2 rfl (by decide) _ _ _ rfl (hown2.alloc _) ⟨_, 0, none⟩ 1 1 [.int .i64 x] rfl rfl (row_at _ _ _ (by simp)) (by simp [Value.oneCell']) (by simp only [maxLen]; omega) (by omega) (by simp; omega) ?_; intro v' w3 hown' hgrow _)
          go_roundw
          case rel => exact ⟨j + 1, by omega, by go_num, by rw [List.replicate_succ', ← List.append_assoc, List.flatMap_append, ← Nat.add_assoc]; exact hown', (hbs.alloc (by omega) _).grown hgrow (by simp; omega) (own_ge hown2)⟩
          case measure => simp [Go.RowKit.intOf]; omega
        · have hjm : j = m := by omega
          subst hjm
          have hlen : (spread c (ks.take (k + 1))).length = L.length + j := by rw [HST.out, List.length_append, List.length_replicate]
          go_wp2
          go_roundw
          case rel => exact ⟨k + 1, by omega, by go_num, by rw [hlen, HST.out]; exact hown2, hbs⟩
          case measure => simp [Go.RowKit.intOf]; omega
    · have hkk : k = ks.length := by omega
      subst hkk
      rw [List.take_of_length_le (Nat.le_refl _), HSP.out] at hown
      go_wp2
      go_ret
      exact ⟨_, rfl, own_base hown (by omega), hb2.trans (hbw.mono (by omega))⟩
end Go.Proofs.YtdmbcjckgfjcaaaGreatDoor
