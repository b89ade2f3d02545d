import Derived.Test.YtimjlgglhonhkaaTal
import Derived.Test.YtimjlgglhonhkaaGrid
import Derived.Test.YtimjlgglhonhkaaBagN
import Derived.Test.YtimjlgglhonhkaaLays
import Derived.Test.YtimjlgglhonhkaaCore2
import Derived.Test.YtimjlgglhonhkaaMemMap
import Derived.Test.YtimjlgglhonhkaaQuietB
import Derived.Lib.SliceRun
import Derived.Deep.QuietTactic
import Derived.BigQuiet
/- Layer bag: tally: how often each number is in all of the bags. -/
namespace Go.Proofs.Ytimjlgglhonhkaa
open Go.RowKit Go.Maps

theorem zeroI (u : World) : (zeroValue 3).run Try.prog u = .ok (.int .i64 0) u := by kernel_rfl
/-- the map in block B counts the list L -/
def TalL (w : World) (B : Nat) (L : List Int) : Prop := Tal Try.prog 3 w B L.length (fun o => L.count o)
theorem TalL.below {w w' : World} {B : Nat} {L : List Int} (h : TalL w B L) (hb : Below w.heap.size w w') : TalL w' B L := Tal.below h hb
theorem talL_snoc {w : World} {B : Nat} {L : List Int} {x : Int} (h : Tal Try.prog 3 w B (L.length + 1) (updI (fun o => L.count o) x (L.count x + 1))) : TalL w B (L ++ [x]) := by
  unfold TalL
  rw [List.length_append]
  refine Tal.same h fun o => ?_
  unfold updI
  rw [List.count_append, List.count_singleton]
  by_cases e : o = x
  · subst e; simp
  · have : (x == o) = false := by simp; omega
    rw [if_neg e]; simp [this]

set_option maxHeartbeats 1000000 in
theorem tally_any (v : Value) (ls : List (List Int)) (w : World) (hl : Grid w v ls) (hk : AllK ls.flatten) (hbig : ls.flatten.length ≤ 40000000000000) :
    Calls Try.prog 91 #[v] w fun e w' => ∃ B, e = .returned (.map (some B)) ∧ TalL w' B ls.flatten ∧ w.heap.size ≤ B ∧ Below w.heap.size w w' := by
  have hmm := @run_makeMap Try.prog
  obtain ⟨A, c, rfl, h1, h2⟩ := hl.form
  unfold maxLen at h2
  have HL := hide hl
  have HK := hide hk
  have hB0 : Below w.heap.size w (w.alloc (.map #[] 0)) := (Below.refl _ _).alloc (Nat.le_refl _) _
  have hT0 := hide (show TalL (w.alloc (.map #[] 0)) w.heap.size [] from tal_new w)
  clear hl hk
  go_enter Try.func91, Try.ntmps91
  go_wp2
  go_loopw [11] (fun i wr => ∃ k : Nat, k ≤ ls.length ∧ i = .int .i64 k ∧ Below w.heap.size w wr ∧ Hid (TalL wr w.heap.size (ls.take k).flatten)) (fun i _ => ls.length - (Go.RowKit.intOf i).toNat)
  case atStart => exact ⟨0, Nat.zero_le _, rfl, hB0, hT0⟩
  case round =>
    obtain ⟨k, hkl, rfl, hb, HT⟩ := hrel
    by_cases hlt : k < ls.length
    · obtain ⟨b, off, u, rfl, hbl, hc, hu⟩ := grid_at HL.out hlt
      have hfl : (ls.take (k + 1)).flatten = (ls.take k).flatten ++ ls[k] := by rw [List.take_succ_eq_append_getElem hlt, List.flatten_append]; simp
      have hsub : ∀ x ∈ ls[k], Kw x := fun x hx => HK.out x (List.mem_flatten.2 ⟨_, List.getElem_mem hlt, hx⟩)
      have hlen : (ls.take (k + 1)).flatten.length ≤ 40000000000000 := by
        have h3 : ls.flatten = (ls.take (k + 1)).flatten ++ (ls.drop (k + 1)).flatten := by rw [← List.flatten_append, List.take_append_drop]
        rw [h3, List.length_append] at hbig; omega
      rw [hfl, List.length_append] at hlen
      generalize ls[k] = l at *
      generalize (ls.take k).flatten = L at *
      have HF := hide hfl
      have HS := hide hsub
      have HU := hide hu
      have hc := (hb.cell (p := ⟨b, off + k, none⟩) hbl).trans hc
      obtain ⟨A', c', rfl, h1', h2', -⟩ := hu
      unfold maxLen at h2'
      clear hfl hsub
      have hwB := hb.size
      go_wp2
      go_loopw [17] (fun i ws => ∃ j : Nat, j ≤ l.length ∧ i = .int .i64 j ∧ Below w.heap.size w ws ∧ Hid (TalL ws w.heap.size (L ++ l.take j))) (fun i _ => l.length - (Go.RowKit.intOf i).toNat)
      case atStart => exact ⟨0, Nat.zero_le _, rfl, hb, by simpa using HT⟩
      case round =>
        obtain ⟨j, hj, rfl, hbs, HTs⟩ := hrel
        by_cases hjl : j < l.length
        · obtain ⟨b2, o2, rfl, -, c2⟩ := ints_at (HU.out.below hbs) hjl
          have hx := HS.out _ (List.getElem_mem hjl)
          have hsn : L ++ l.take (j + 1) = (L ++ l.take j) ++ [l[j]] := by rw [List.take_succ_eq_append_getElem hjl, List.append_assoc]
          have HN := hide hsn
          have hcl : (L ++ l.take j).count l[j] ≤ (L ++ l.take j).length := List.count_le_length
          have hll : (L ++ l.take j).length = L.length + j := by rw [List.length_append, List.length_take]; omega
          clear hsn
          generalize l[j] = x at *
          generalize L ++ l.take j = M at *
          go_wp2_with (first
            | (at_lookup; refine wpList_tal_look (t := 3) rfl _ _ rfl Try.underlying3 Try.underlying120 zeroI rfl x rfl hx HTs.out ?_)
            | (at_mapUpdate; refine wpList_tal_store (t := 3) rfl _ _ _ rfl Try.underlying3 Try.underlying120 rfl x rfl hx (M.count x + 1) _ rfl (by omega) (by omega) (by unfold maxLen; omega) HTs.out ?_; intro w4 hT4 hT4' hg4))
          go_roundw
          case rel => exact ⟨j + 1, by omega, by go_num, hbs.grown hg4 (by have := hbs.size; omega) (fun g hg => by injection hg with hg; omega), by rw [HN.out]; exact hide (talL_snoc hT4)⟩
          case measure => simp [Go.RowKit.intOf]; omega
        · have hjj : j = l.length := by omega
          subst hjj
          rw [List.take_of_length_le (Nat.le_refl _), ← HF.out] at HTs
          go_wp2
          go_roundw
          case rel => exact ⟨k + 1, by omega, by go_num, hbs, HTs⟩
          case measure => simp [Go.RowKit.intOf]; omega
    · have hkk : k = ls.length := by omega
      subst hkk
      rw [List.take_of_length_le (Nat.le_refl _)] at HT
      go_wp2
      go_ret
      exact ⟨_, rfl, HT.out, Nat.le_refl _, hb⟩
end Go.Proofs.Ytimjlgglhonhkaa
/- Layer bag: normed: the counted numbers, rising, each as often as it is counted. -/
namespace Go.Proofs.Ytimjlgglhonhkaa
open Go.RowKit Go.Maps Go.Sort Go.Shelf Go.Proofs

theorem infoI : (Try.prog.info? 3).map (fun i => (i.zero, i.size, i.bytes)) = some (some (.int .i64 0), 1, 8) := by kernel_rfl
theorem sortsA (m : Nat) : AnyZI.SortsIn Try.prog Try.sortedA_ren Fence.wide m :=
  ⟨fun blk off cap ss W hH hblk hsz => callsIn_wide.2 (AnyM.slices_Sort_int Try.sortA blk off cap ss W hH hblk hsz),
   fun p cap W => callsIn_wide.2 (AnyM.slices_Sort_int_none Try.sortA p cap W)⟩
theorem Keys_any (mb : Option Nat) (W : World) : Calls Try.prog 103 #[.map mb] W fun e w' => e = .returned (.func (.func 108) #[] #[.pointer (some ⟨W.heap.size, 0, none⟩)]) ∧ w' = W.alloc (.cells #[.map mb] 120) :=
  (callsIn_wide (n := 5)).1 (AnyZI.keys_in Try.keysA Fence.wide 5 trivial rfl mb W)
set_option maxHeartbeats 1000000 in
theorem Sorted_raw (b nn : Nat) (D0 : DataW Unit) (R : Value → Option (DataW Unit × List MemPlace)) (w : World) (hown : w.ownsMap Try.prog 3 R b nn D0) (hmax : Maps.size D0 ≤ maxLen) (hbytes : Maps.size D0 * 8 ≤ 140737488355328) :
    Calls Try.prog 102 #[.func (.func 108) #[] #[.pointer (some ⟨w.heap.size, 0, none⟩)]] (w.alloc (.cells #[.map (some b)] 120)) fun e w' => ∃ (v : Value) (ss : List Int), e = .returned v ∧ ss.Perm (intKeys D0) ∧
      w'.ownsRow (w.alloc (.cells #[.map (some b)] 120)).heap.size 3 1 v ss.length ((ss.mergeSort (fun x y => decide (x ≤ y))).map encZ) ∧ (v = .slice none 0 0 ↔ ss = []) ∧ Below (w.alloc (.cells #[.map (some b)] 120)).heap.size (w.alloc (.cells #[.map (some b)] 120)) w' := by
  refine (callsIn_wide (n := 5)).1 ?_
  have hbl := hown.lt
  have hseq : SeqGives Fence.wide 2 Try.prog 108 #[.pointer (some ⟨w.heap.size, 0, none⟩)] encZ (fun ss => ss.Perm (intKeys D0)) (Maps.size D0) (w.alloc (.cells #[.map (some b)] 120)) :=
    AnyZI.keys_gives (ρ := Try.keysA_ren) { Try.keysA with } Fence.wide _ trivial rfl (by omega) w.heap.size b nn D0 _ (by simp) (by simp) (by
      obtain ⟨es, clock, hb, Ft, hs, hD⟩ := hown
      exact ⟨es, clock, (Below.heap_alloc _ _ b hbl).trans hb, Ft, hs, hD⟩)
  exact AnyZI.sorted_in Try.sortedA Fence.wide 5 trivial trivial trivial trivial rfl (by omega) (sortsA _) (enters_of Try.func107 (by kernel_rfl) rfl) 108 #[.pointer (some ⟨w.heap.size, 0, none⟩)] trivial (enters_of Try.func108 (by kernel_rfl) rfl) _ _ hmax hbytes _ hseq
/-- the keys of a map of counts, sorted -/
theorem Sorted_any (B n : Nat) (c : Int → Nat) (w : World) (h : Tal Try.prog 3 w B n c) (hn : n ≤ 17592186044416) :
    Calls Try.prog 102 #[.func (.func 108) #[] #[.pointer (some ⟨w.heap.size, 0, none⟩)]] (w.alloc (.cells #[.map (some B)] 120)) fun e w' => ∃ (v : Value) (ks : List Int), e = .returned v ∧
      w'.ownsRow w.heap.size 3 1 v ks.length (ks.flatMap ic) ∧ Rises ks ∧ ks.Nodup ∧ AllK ks ∧ (∀ o, Kw o → 0 < c o → o ∈ ks) ∧ Below w.heap.size w w' := by
  obtain ⟨D, hown, -, h2⟩ := h
  have hsz := hown.size_le
  obtain ⟨k1, k2, k3⟩ := ownsMap_keysI hown Try.underlying3
  refine (Sorted_raw B n D _ w hown (by unfold maxLen; omega) (by omega)).mono ?_
  rintro e w' ⟨v, ss, rfl, hp, ho, -, hb⟩
  refine ⟨v, ss.mergeSort (fun x y => decide (x ≤ y)), rfl, ?_, sort_rises ss, sort_nodup (hp.nodup_iff.2 k1), fun x hx => k2 x (hp.mem_iff.1 (sort_mem.1 hx)), fun o ho h0 => sort_mem.2 (hp.mem_iff.2 (k3 o (h2 o ho h0))), bcall1 (Below.refl _ _) hb⟩
  rw [List.length_mergeSort, ← ic_map]
  exact own_base ho (by simp)

set_option maxHeartbeats 2000000 in
theorem normed_any (B n : Nat) (c : Int → Nat) (b : List Int) (w : World) (h : Tal Try.prog 3 w B n c) (hn : n ≤ 17592186044416) (hc : ∀ o, c o = b.count o) (hk : AllK b) (hb : b.length ≤ 17592186044416) :
    Calls Try.prog 90 #[.map (some B)] w fun e w' => ∃ v, e = .returned v ∧ w'.ownsRow w.heap.size 3 1 v (normB b).length ((normB b).flatMap ic) ∧ Below w.heap.size w w' := by
  obtain ⟨i0, hi, hz0, hz1, hz2⟩ := info_parts infoI
  have hS := hide (Sorted_any B n c w h hn)
  have HT := hide h
  have HC := hide hc
  have HKb := hide hk
  clear h hc hk
  go_enter Try.func90, Try.ntmps90
  go_wp2_with fail
  refine (Keys_any _ _).mono ?_
  rintro e w1 ⟨rfl, rfl⟩
  go_wp2_with fail
  refine hS.out.mono ?_
  rintro e w2 ⟨v2, ks, rfl, ho, hr, hnd, hkk, hm, hb2⟩
  have hsp : spread c ks = normB b := spread_norm hr hnd HC.out fun o ho => hm o (HKb.out o ho) (by rw [HC.out]; exact List.count_pos_iff.2 ho)
  have hle : (spread c ks).length ≤ 17592186044416 := by rw [hsp, norm_len]; exact hb
  have HR := hide (Sl.of_own ic_len ho)
  obtain ⟨A, cp, rfl, hcp, hcm⟩ := own_form ho
  unfold maxLen at hcm
  have HT2 := hide (HT.out.below hb2)
  have HSP := hide hsp
  have HKK := hide hkk
  have hs2 := hb2.size
  clear hsp hkk hm hr hnd ho hS HT
  go_wp2
  go_loopw [3, 10] (fun v i wr => ∃ k : Nat, k ≤ ks.length ∧ i = .int .i64 k ∧ wr.ownsRow w2.heap.size 3 1 v (spread c (ks.take k)).length ((spread c (ks.take k)).flatMap ic) ∧ Below w2.heap.size w2 wr) (fun _ i _ => ks.length - (Go.RowKit.intOf i).toNat)
  case atStart => exact ⟨0, Nat.zero_le _, rfl, World.ownsRow_nil _ _ _ _, Below.refl _ _⟩
  case round =>
    obtain ⟨k, hkl, rfl, hown, hbw⟩ := hrel
    by_cases hlt : k < ks.length
    · obtain ⟨b1, o1, rfl, -, c1⟩ := ints_at (HR.out.below hbw) hlt
      have hx := HKK.out _ (List.getElem_mem hlt)
      have hst := spread_take c ks k hlt
      have hsl := spread_le c ks (k + 1)
      rw [hst, List.length_append, List.length_replicate] at hsl
      have HST := hide hst
      clear hst
      generalize ks[k] = x at *
      generalize spread c (ks.take k) = L at *
      obtain ⟨m, hm⟩ : ∃ m, c x = m := ⟨_, rfl⟩
      have HM := hide hm
      rw [hm] at hsl HST
      clear hm
      obtain ⟨A3, c3, rfl, hA3, hA4⟩ := own_form hown
      go_wp2_with (at_lookup; refine wpList_tal_look (t := 3) rfl _ _ rfl Try.underlying3 Try.underlying120 zeroI rfl x rfl hx (HT2.out.below hbw) ?_; rw [HM.out])
      go_loopw [3, 17] (fun v i ws => ∃ j : Nat, j ≤ m ∧ i = .int .i64 j ∧ ws.ownsRow w2.heap.size 3 1 v (L.length + j) ((L ++ List.replicate j x).flatMap ic) ∧ Below w2.heap.size w2 ws) (fun _ i _ => m - (Go.RowKit.intOf i).toNat)
      case atStart => exact ⟨0, Nat.zero_le _, rfl, by simpa using hown, hbw⟩
      case round =>
        obtain ⟨j, hj, rfl, hown2, hbs⟩ := hrel
        obtain ⟨A4, c4, rfl, hA5, hA6⟩ := own_form hown2
        have hsz := hbs.size
        by_cases hjl : j < m
        · go_wp2_with (at_builtin; refine wpList_append_own _ rfl _ _ 34 rfl w2.heap.size 3 i0 (.int .i64 0) 1 8 Try.underlying34 hi hz0 hz1 hz2 rfl (by decide) _ _ _ rfl (hown2.alloc _) ⟨_, 0, none⟩ 1 1 [.int .i64 x] rfl rfl (row_at _ _ _ (by simp)) (by simp [Value.oneCell']) (by simp only [maxLen]; omega) (by omega) (by simp; omega) ?_; intro v' w3 hown' hgrow _)
          go_roundw
          case rel => exact ⟨j + 1, by omega, by go_num, by rw [List.replicate_succ', ← List.append_assoc, List.flatMap_append, ← Nat.add_assoc]; exact hown', (hbs.alloc (by omega) _).grown hgrow (by simp; omega) (own_ge hown2)⟩
          case measure => simp [Go.RowKit.intOf]; omega
        · have hjm : j = m := by omega
          subst hjm
          have hlen : (spread c (ks.take (k + 1))).length = L.length + j := by rw [HST.out, List.length_append, List.length_replicate]
          go_wp2
          go_roundw
          case rel => exact ⟨k + 1, by omega, by go_num, by rw [hlen, HST.out]; exact hown2, hbs⟩
          case measure => simp [Go.RowKit.intOf]; omega
    · have hkk : k = ks.length := by omega
      subst hkk
      rw [List.take_of_length_le (Nat.le_refl _), HSP.out] at hown
      go_wp2
      go_ret
      exact ⟨_, rfl, own_base hown (by omega), hb2.trans (hbw.mono (by omega))⟩
end Go.Proofs.Ytimjlgglhonhkaa
/- Layer bag: Norm, Count, Sum, Add, Less, Same. -/
namespace Go.Proofs.Ytimjlgglhonhkaa
open Go.RowKit Go.Maps

theorem grid_one {w : World} {v : Value} {l : List Int} (h : Ints w v l) : Grid (w.alloc (.cells #[v] 68)) (.slice (some ⟨w.heap.size, 0, none⟩) 1 1) [l] :=
  ⟨[v], Sl.of_own one_len (own_new w w.heap.size [v] 68 1 1 (Nat.le_refl _) rfl (by decide)), rfl, fun i u l' hu hl => by
    rcases i with _ | i
    · simp at hu hl; subst hu; subst hl; exact h.alloc _
    · simp at hu⟩
theorem grid_two {w : World} {v u : Value} {a b : List Int} (h : Ints w v a) (h' : Ints w u b) : Grid (w.alloc (.cells #[v, u] 68)) (.slice (some ⟨w.heap.size, 0, none⟩) 2 2) [a, b] :=
  ⟨[v, u], Sl.of_own one_len (own_new w w.heap.size [v, u] 68 1 2 (Nat.le_refl _) rfl (by decide)), rfl, fun i x l' hu hl => by
    rcases i with _ | _ | i
    · simp at hu hl; subst hu; subst hl; exact h.alloc _
    · simp at hu hl; subst hu; subst hl; exact h'.alloc _
    · simp at hu⟩
theorem sl_form {w : World} {v : Value} {l : List Int} (h : Ints w v l) : ∃ A c, v = .slice A l.length c ∧ l.length ≤ c ∧ c ≤ 2 ^ 63 - 1 := by
  obtain ⟨A, c, rfl, h1, h2, -⟩ := h
  exact ⟨A, c, rfl, h1, by unfold maxLen at h2; omega⟩
/-- tally of one bag -/
theorem tally_one {v : Value} {l : List Int} {w : World} (h : Ints w v l) (hk : AllK l) (hb : l.length ≤ 40000000000000) :
    Calls Try.prog 91 #[.slice (some ⟨w.heap.size, 0, none⟩) 1 1] (w.alloc (.cells #[v] 68)) fun e w' => ∃ B, e = .returned (.map (some B)) ∧ TalL w' B l ∧ w.heap.size ≤ B ∧ Below w.heap.size w w' := by
  refine (tally_any _ [l] _ (grid_one h) (by simpa using hk) (by simpa using hb)).mono ?_
  rintro e w' ⟨B, rfl, h1, h2, h3⟩
  simp only [List.flatten_cons, List.flatten_nil, List.append_nil] at h1
  exact ⟨B, rfl, h1, by simp at h2; omega, bcall1 (Below.refl _ _) h3⟩
theorem tally_two {v u : Value} {a b : List Int} {w : World} (h : Ints w v a) (h' : Ints w u b) (hk : AllK a) (hk' : AllK b) (hb : a.length + b.length ≤ 40000000000000) :
    Calls Try.prog 91 #[.slice (some ⟨w.heap.size, 0, none⟩) 2 2] (w.alloc (.cells #[v, u] 68)) fun e w' => ∃ B, e = .returned (.map (some B)) ∧ TalL w' B (a ++ b) ∧ w.heap.size ≤ B ∧ Below w.heap.size w w' := by
  refine (tally_any _ [a, b] _ (grid_two h h') (fun x hx => by simp at hx; rcases hx with hx | hx; exact hk x hx; exact hk' x hx) (by simpa using hb)).mono ?_
  rintro e w' ⟨B, rfl, h1, h2, h3⟩
  simp only [List.flatten_cons, List.flatten_nil, List.append_nil] at h1
  exact ⟨B, rfl, h1, by simp at h2; omega, bcall1 (Below.refl _ _) h3⟩

theorem bNorm_any (v : Value) (b : List Int) (w : World) (h : Ints w v b) (hk : AllK b) (hb : b.length ≤ 17592186044416) :
    Calls Try.prog 63 #[v] w fun e w' => ∃ v', e = .returned v' ∧ w'.ownsRow w.heap.size 3 1 v' (normB b).length ((normB b).flatMap ic) ∧ Below w.heap.size w w' := by
  obtain ⟨A, c, rfl, h1, h2⟩ := sl_form h
  have hT := hide (tally_one h hk (by omega))
  have HK := hide hk
  clear h hk
  go_enter Try.func63, Try.ntmps63
  go_wp2_with fail
  refine hT.out.mono ?_
  rintro e w1 ⟨B, rfl, hT1, hB, hb1⟩
  go_wp2_with fail
  refine (normed_any B b.length _ b w1 hT1 hb (fun _ => rfl) HK.out hb).mono ?_
  rintro e w2 ⟨v2, rfl, ho, hb2⟩
  go_wp2
  go_ret
  exact ⟨_, rfl, own_base ho hb1.size, bcall hb1 hb2⟩

theorem add_mem {b : List Int} {o n x : Int} (h : x ∈ addB b o n) : x = o ∨ x ∈ b := by
  have h1 := List.count_pos_iff.2 h
  rw [add_count] at h1
  by_cases e : x = o
  · exact .inl e
  · rw [if_neg e] at h1
    exact .inr (List.count_pos_iff.1 h1)
theorem add_allK {b : List Int} {o n : Int} (hk : AllK b) (ho : Kw o) : AllK (addB b o n) := fun x hx => by
  rcases add_mem hx with rfl | hx
  · exact ho
  · exact hk x hx
theorem norm_allK {b : List Int} (hk : AllK b) : AllK (normB b) := fun x hx => hk x (List.count_pos_iff.1 (by rw [← norm_count]; exact List.count_pos_iff.2 hx))
theorem add_len_le (b : List Int) (o n : Int) : (addB b o n).length ≤ b.length + min n.toNat 1000 := by
  unfold addB
  rw [norm_len, List.length_append, List.length_replicate]
  have := del_le o (-n).toNat b
  omega


theorem take_count_le (b : List Int) (k : Nat) (o : Int) : (b.take k).count o ≤ b.count o := (List.take_sublist k b).count_le o
theorem take_count_succ {b : List Int} {k : Nat} (h : k < b.length) (o : Int) : (b.take (k + 1)).count o = (b.take k).count o + if b[k] = o then 1 else 0 := by
  rw [List.take_succ_eq_append_getElem h, List.count_append, List.count_singleton]
  by_cases e : b[k] = o <;> simp [e]
/-- what Less tells -/
def lessL (a b : List Int) : List Int := (lessB a b).getD []
end Go.Proofs.Ytimjlgglhonhkaa
/- Layer bag: slices.Equal on bags, Same. -/
namespace Go.Proofs.Ytimjlgglhonhkaa
open Go.RowKit

theorem own_ints {base : Nat} {w : World} {v : Value} {l : List Int} (h : w.ownsRow base 3 1 v l.length (l.flatMap ic)) : Ints w v l := Sl.of_own ic_len h
set_option maxHeartbeats 2000000 in
theorem Equal_ints (va vb : Value) (a b : List Int) (w : World) (ha : Ints w va a) (hb : Ints w vb b) :
    Calls Try.prog 62 #[va, vb] w fun e w' => e = .returned (.bool (decide (a = b))) ∧ Below w.heap.size w w' := by
  obtain ⟨A, c, rfl, h1, h2⟩ := sl_form ha
  obtain ⟨B, d, rfl, h3, h4⟩ := sl_form hb
  have HA := hide ha
  have HB := hide hb
  clear ha hb
  by_cases hn : a.length = b.length
  · have q : (((a.length : Int)) != ((b.length : Int))) = false := by rw [bne_eq_false_iff_eq]; omega
    have HN := hide hn
    clear hn
    go_enter Try.func62, Try.ntmps62
    go_wp2
    go_loopw [13] (fun i wr => ∃ k : Nat, k ≤ a.length ∧ i = .int .i64 k ∧ Below w.heap.size w wr ∧ Hid (a.take k = b.take k)) (fun i _ => a.length - (Go.RowKit.intOf i).toNat)
    case atStart => exact ⟨0, Nat.zero_le _, rfl, Below.refl _ _, hide (by simp)⟩
    case round =>
      obtain ⟨k, hk, rfl, hbw, HE⟩ := hrel
      by_cases hlt : k < a.length
      · have hlb : k < b.length := by have := HN.out; omega
        obtain ⟨b1, o1, rfl, -, c0⟩ := ints_at (HA.out.below hbw) hlt
        obtain ⟨b2, o2, rfl, -, c2⟩ := ints_at (HB.out.below hbw) hlb
        by_cases he : a[k] = b[k]
        · have e1 : (a[k] != b[k]) = false := by rw [bne_eq_false_iff_eq]; exact he
          have HE' := hide (show a.take (k + 1) = b.take (k + 1) by rw [List.take_succ_eq_append_getElem hlt, List.take_succ_eq_append_getElem hlb, HE.out, he])
          clear he
          generalize a[k] = x at *
          generalize b[k] = y at *
          go_wp2
          go_quiet (fail)
          go_wp2
          go_roundw
          case rel => exact ⟨k + 1, by omega, by go_num, bdrewN hbw _, HE'⟩
          case measure => simp [Go.RowKit.intOf]; omega
        · have e1 : (a[k] != b[k]) = true := by rw [bne_iff_ne]; exact he
          have HF := hide (show decide (a = b) = false by
            simp only [decide_eq_false_iff_not]
            intro h
            apply he
            simp [h])
          clear he
          generalize a[k] = x at *
          generalize b[k] = y at *
          go_wp2
          go_quiet (fail)
          go_wp2
          go_ret
          exact ⟨ret_bool HF.out.symm, bdrewN hbw _⟩
      · have HF := hide (show a = b by
          have h := HE.out
          have := HN.out
          rwa [List.take_of_length_le (by omega), List.take_of_length_le (by omega)] at h)
        go_wp2
        go_ret
        exact ⟨ret_bool (by rw [HF.out]; simp), hbw⟩
  · have q : (((a.length : Int)) != ((b.length : Int))) = true := by rw [bne_iff_ne]; omega
    have HN := hide (show decide (a = b) = false by simp; intro e; exact hn (by rw [e]))
    clear hn
    go_enter Try.func62, Try.ntmps62
    go_wp2
    go_ret
    exact ⟨ret_bool HN.out.symm, Below.refl _ _⟩
theorem bSame_any (va vb : Value) (a b : List Int) (w : World) (ha : Ints w va a) (hb : Ints w vb b) (hka : AllK a) (hkb : AllK b) (hla : a.length ≤ 17592186044416) (hlb : b.length ≤ 17592186044416) :
    Calls Try.prog 39 #[va, vb] w fun e w' => e = .returned (.bool (sameB a b)) ∧ Below w.heap.size w w' := by
  have HA := hide ha
  have HB := hide hb
  obtain ⟨A, c, rfl, h1, h2⟩ := sl_form ha
  obtain ⟨B, d, rfl, h3, h4⟩ := sl_form hb
  clear ha hb
  go_enter Try.func39, Try.ntmps39
  go_wp2_with fail
  refine (bNorm_any _ a _ HA.out hka hla).mono ?_
  rintro e w1 ⟨v1, rfl, ho1, hb1⟩
  have H1 := hide (own_ints ho1)
  have HB := hide (HB.out.below hb1)
  clear ho1
  go_wp2_with fail
  refine (bNorm_any _ b _ HB.out hkb hlb).mono ?_
  rintro e w2 ⟨v2, rfl, ho2, hb2⟩
  have H2 := hide (own_ints ho2)
  have H1 := hide (H1.out.below hb2)
  clear ho2
  go_wp2_with fail
  refine (Equal_ints _ _ _ _ _ H1.out H2.out).mono ?_
  rintro e w3 ⟨rfl, hb3⟩
  go_wp2
  go_ret
  exact ⟨rfl, bcall (bcall hb1 hb2) hb3⟩
end Go.Proofs.Ytimjlgglhonhkaa
