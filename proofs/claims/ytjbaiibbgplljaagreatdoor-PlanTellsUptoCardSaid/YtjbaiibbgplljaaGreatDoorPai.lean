import Derived.Test.YtjbaiibbgplljaaGreatDoorPac
import Derived.Test.YtjbaiibbgplljaaGreatDoorPag
set_option maxRecDepth 100000
set_option maxHeartbeats 40000000
namespace Go.Proofs.YtjbaiibbgplljaaGreatDoor
open Go.RowKit
theorem cut_cutG (c : UInt8) : ∀ (l cur : List UInt8), cutG c cur l = match cut c l with | [] => [cur] | p :: r => (cur ++ p) :: r
 | [], cur => by simp [cutG, cut]
 | b :: l, cur => by
   rw [cutG, cut]; split
   · rename_i h
     have ih := cut_cutG c l []; rw [ih]; cases hc : cut c l with
     | nil => exact absurd hc (cut_ne _ _)
     | cons p r => simp
   · rw [cut_cutG c l (cur ++ [b])]
     cases hc : cut c l with
     | nil => exact absurd hc (cut_ne _ _)
     | cons p r => simp
theorem cutG_cut (c : UInt8) (l : List UInt8) : cutG c [] l = cut c l := by
 rw [cut_cutG]; cases hc : cut c l with
 | nil => exact absurd hc (cut_ne _ _)
 | cons p r => simp
theorem rCut_semi (t : ByteArray) (w : World) (ht : t.size ≤ 1048576) :
 Calls Tryz.prog 26 #[.string t, .int .u8 59] w fun e w' => ∃ v, e = .returned v ∧ w'.ownsRow w.heap.size 9 1 v (cutG 59 [] t.data.toList).length ((cutG 59 [] t.data.toList).flatMap tcRf) ∧ Below w.heap.size w w' := rCut_any t 59 w ht
theorem infoOpCd : (Tryz.prog.info? 81).map (fun i => (i.zero, i.size, i.bytes)) = some (some (.agg #[.int .i64 0, .int .i64 0, .int .i64 0, .int .i64 0]), 4, 32) := by kernel_rfl
theorem cOps_snoc {ps : List (List UInt8)} {i : Nat} (h : i < ps.length) {acc : List Oq} (ha : cOps (ps.take i) = some acc) : cOps (ps.take (i + 1)) = match cOne ps[i] with | some q => some (acc ++ [q]) | none => none := by
 rw [List.take_succ_eq_append_getElem h]; generalize ps[i] = p; generalize ps.take i = L at ha; induction L generalizing acc with
 | nil =>
   simp only [cOps, Option.some.injEq] at ha; subst ha; simp only [List.nil_append, cOps]; cases cOne p <;> simp
 | cons x L ih =>
   rw [cOps] at ha; rw [List.cons_append, cOps]; cases hx : cOne x with
   | none => rw [hx] at ha; cases ha
   | some y =>
     cases hL : cOps L with
     | none => rw [hx, hL] at ha; cases ha
     | some z =>
       rw [hx, hL] at ha; simp only [Option.some.injEq] at ha; subst ha; rw [ih hL]; cases cOne p <;> simp
theorem cOps_none {ps : List (List UInt8)} {i : Nat} (h : i < ps.length) (hn : cOne ps[i] = none) : cOps ps = none := by
 cases hc : cOps ps with
 | none => rfl
 | some l =>
   exfalso
   obtain ⟨h1, h2⟩ := cOps_some hc; have hl : l.length = ps.length := by rw [← h1, List.length_map]
   have e : ps[i] = cText (l[i]'(by omega)) := by simp only [← h1, List.getElem_map]
   rw [e, one_text (h2 _ (List.getElem_mem _))] at hn; cases hn
theorem cOps_len {ps : List (List UInt8)} {l : List Oq} (h : cOps ps = some l) : l.length = ps.length := by rw [← (cOps_some h).1, List.length_map]
theorem rcParse_own (s : ByteArray) (w : World) (hs : s.size ≤ 1048576) : Calls Tryz.prog 78 #[.string s] w fun e w' => ∃ v, e = .returned (.tuple #[v, .int .i64 (cParse s.data.toList).2]) ∧ w'.ownsRow w.heap.size 81 4 v (cParse s.data.toList).1.length ((cParse s.data.toList).1.flatMap oq) ∧ Below w.heap.size w w' := by
 obtain ⟨i0, hi, hz0, hz1, hz2⟩ := info_parts infoOpCd; by_cases hd : s.data.toList = [45]
 · have EF := hide (show cParse s.data.toList = ([], 0) by unfold cParse; rw [if_pos hd])
   have q1 : (s.toList == [45]) = true := by rw [beq_iff_eq, ByteArray.toList_eq]; exact hd
   clear hd; go_enter Tryz.func78, Tryz.ntmps78
   go_wp2; go_ret2
   exact ⟨.slice none 0 0, by rw [EF.out]; rfl, by rw [EF.out]; exact World.ownsRow_nil _ _ _ _, Below.refl _ _⟩
 · obtain ⟨ps, hps⟩ : ∃ ps, cut 59 s.data.toList = ps := ⟨_, rfl⟩
   have EF := hide (show cParse s.data.toList = (match cOps ps with | none => ([], 2) | some l => if 64 < l.length then ([], 3) else (l, 0)) by unfold cParse; rw [if_neg hd, hps]; cases cOps ps <;> rfl); have q1 : (s.toList == [45]) = false := by rw [beq_eq_false_iff_ne, ByteArray.toList_eq]; exact hd
   have hpl : ps.length ≤ 1048577 := by rw [← hps, ← cutG_cut]; have := cutG_len 59 s.data.toList []; have e : s.data.toList.length = s.size := (by rw [Array.length_toList]; rfl); omega
   have HC := hide ((cutG_cut 59 s.data.toList).trans hps); clear hd hps; go_enter Tryz.func78, Tryz.ntmps78
   go_wp2_with fail
   (with_reducible refine (rCut_semi s _ hs).mono ?_); rintro e w1 ⟨v1, rfl, ho, hb1⟩; rw [HC.out] at ho; obtain ⟨A, m, rfl, hm1, hm2⟩ := own_form ho; unfold maxLen at hm2; have HP := hide (show Pcs w1 (.slice A ps.length m) ps from Sl.of_own tc_len ho); clear ho; go_wp2; go_loopw [5, 6] (fun sv iv wr => ∃ (i : Nat) (acc : List Oq), i ≤ ps.length ∧ iv = .int .i64 i ∧ acc.length = i ∧ wr.ownsRow w1.heap.size 81 4 sv i (acc.flatMap oq) ∧ Below w1.heap.size w1 wr ∧ Hid (cOps (ps.take i) = some acc)) (fun _ iv _ => ps.length - (intOf iv).toNat)
   case atStart => exact ⟨0, [], Nat.zero_le _, rfl, rfl, World.ownsRow_nil _ _ _ _, Below.refl _ _, hide rfl⟩
   case round =>
    obtain ⟨i, acc, hi1, rfl, hal, hown, hb, HK⟩ := hrel; obtain ⟨A5, m5, rfl, h51, h52⟩ := own_form hown; unfold maxLen at h52; by_cases hlt : i < ps.length
    · obtain ⟨A9, c9, e9, h91, h92, h93⟩ := HP.out.below hb
      injection e9 with e91 e92 e93; subst e91; obtain ⟨g, off, rfl, hg, hc9⟩ := h93 (by omega); have d0 : wr.cell? ⟨g, off + i, none⟩ = some (.string ⟨ps[i].toArray⟩) := by have := hc9 i ps[i] (List.getElem?_eq_getElem hlt) 0 _ rfl; simpa using this
      clear hc9 h91 h92 e92 e93; obtain ⟨p, hp⟩ : ∃ p, ps[i] = p := ⟨_, rfl⟩; have hsn := cOps_snoc hlt HK.out; rw [hp] at hsn d0; have HO := hide hown; clear hown; go_wp2_with fail
      (with_reducible refine (rcOne_any ⟨p.toArray⟩ _).mono ?_); rintro e w2 ⟨rfl, hb2⟩; have hb2b := bcall hb hb2; rw [show (⟨p.toArray⟩ : ByteArray).data.toList = p by simp]; cases hone : cOne p with
      | none =>
        have HF := hide (show cParse s.data.toList = ([], 2) by rw [EF.out, cOps_none hlt (by rw [hp]; exact hone)]); clear hone hp hsn; unfold oneV; dsimp only [qv]; go_wp2; go_ret2
        exact ⟨.slice none 0 0, by rw [HF.out]; rfl, by rw [HF.out]; exact World.ownsRow_nil _ _ _ _, (bcall hb1 hb2b).alloc (by have := hb1.size; have := hb2b.size; omega) _⟩
      | some q =>
        obtain ⟨k, r, a, t⟩ := q; rw [hone] at hsn; simp only at hsn
        have HN := hide hsn; clear hone hp hsn; unfold oneV; dsimp only [qv]; obtain ⟨w3, e3, hb3, hs3, X⟩ := b4_new w2 (.int .i64 k) (.int .i64 r) (.int .i64 a) (.int .i64 t) 81; have HE3 := hide e3; have hB3 := bcall hb2b hb3; have HO3 := hide (own_below (own_below HO.out hb2) hb3); obtain ⟨X0, X1, X2, X3⟩ := X.all; have hs1 := hb.size; have hs2 := hb2.size; have HS3 := hide hs3; clear e3 hb3 X hs3; go_upto_region 9 with (fail)
        rw [HE3.out]; go_wp2_with (at_builtin; refine wpList_append_own _ rfl _ _ 79 rfl w1.heap.size 81 i0 (.agg #[.int .i64 0, .int .i64 0, .int .i64 0, .int .i64 0]) 4 32 Tryz.underlying79 hi hz0 hz1 hz2 rfl (by decide) _ _ _ rfl (own_below HO3.out (cbal _ _)) ⟨_, 0, none⟩ 1 1 [.int .i64 k, .int .i64 r, .int .i64 a, .int .i64 t] rfl rfl (row_at _ _ _ (by simp)) (by simp [Value.oneCell']) (by simp only [maxLen]; omega) (by omega) (by have := HS3.out; simp; omega) ?_; intro v' w4 hown' hgrow _)
        go_roundw
        case rel => exact ⟨i + 1, acc ++ [⟨k, r, a, t⟩], by omega, by go_num, by simp [hal], by rw [List.flatMap_append]; exact hown', (hB3.alloc (by have := HS3.out; omega) _).grown hgrow (by have := HS3.out; simp; omega) (own_ge HO3.out), HN⟩
        case measure => simp [intOf]; omega
    · have hil : i = ps.length := by omega
      subst hil; have hk : cOps ps = some acc := by have h := HK.out; rwa [List.take_of_length_le (by omega)] at h
      by_cases h64 : 64 < acc.length
      · have HF := hide (show cParse s.data.toList = ([], 3) by rw [EF.out, hk]; simp only; rw [if_pos h64])
        have h64i : (64 : Int) < (ps.length : Int) := by omega
        go_wp2; go_ret2
        exact ⟨.slice none 0 0, by rw [HF.out]; rfl, by rw [HF.out]; exact World.ownsRow_nil _ _ _ _, bcall hb1 hb⟩
      · have HF := hide (show cParse s.data.toList = (acc, 0) by rw [EF.out, hk]; simp only; rw [if_neg h64])
        have h64i : ¬ (64 : Int) < (ps.length : Int) := by omega
        have HI := hide (show wr.ownsRow w.heap.size 81 4 (.slice A5 ps.length m5) acc.length (acc.flatMap oq) from own_base (by rw [hal]; exact hown) hb1.size); go_wp2; go_ret2
        exact ⟨.slice A5 ps.length m5, by rw [HF.out]; rfl, by rw [HF.out]; exact HI.out, bcall hb1 hb⟩
