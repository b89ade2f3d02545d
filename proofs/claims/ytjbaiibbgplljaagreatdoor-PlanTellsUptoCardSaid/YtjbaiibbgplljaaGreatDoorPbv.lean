import Derived.Test.YtjbaiibbgplljaaGreatDoorPbk
import Derived.Test.YtjbaiibbgplljaaGreatDoorPbt
import Derived.Test.YtjbaiibbgplljaaGreatDoorPbb
import Derived.Test.YtjbaiibbgplljaaGreatDoorPam
set_option maxRecDepth 100000
set_option maxHeartbeats 40000000
namespace Go.Proofs.YtjbaiibbgplljaaGreatDoor
open Go.Proofs.Tryz
open Go.RowKit Go.Joins Go.Shelf Go.Proofs
theorem rCut_nl (q : B8) (w : World) (ht : q.length ≤ 1048576) :
 Calls prog 26 #[.string ⟨q.toArray⟩, .int .u8 10] w fun e w' => ∃ v, e = .returned v ∧ w'.ownsRow w.heap.size 9 1 v (cutG 10 [] q).length ((cutG 10 [] q).flatMap tcRf) ∧ Below w.heap.size w w' := rCut_any ⟨q.toArray⟩ 10 w ht
section
variable (S : B8) (w : World)
theorem rpAfter_eng (hs : S.length ≤ 140737488351232) : Calls prog 27 #[.string ⟨S.toArray⟩, .string ⟨#[101, 110, 103, 105, 110, 101]⟩] w fun e w' => e = .returned (afterV (afterF engW S)) ∧ w' = w := rpAfter_any S engW w hs (by decide)
theorem rpAfter_heap (hs : S.length ≤ 140737488351232) : Calls prog 27 #[.string ⟨S.toArray⟩, .string ⟨#[104, 101, 97, 112]⟩] w fun e w' => e = .returned (afterV (afterF heapW S)) ∧ w' = w := rpAfter_any S heapW w hs (by decide)
theorem rpAfter_roots (hs : S.length ≤ 140737488351232) : Calls prog 27 #[.string ⟨S.toArray⟩, .string ⟨#[114, 111, 111, 116, 115]⟩] w fun e w' => e = .returned (afterV (afterF rootsW S)) ∧ w' = w := rpAfter_any S rootsW w hs (by decide)
theorem rpAfter_pick (hs : S.length ≤ 140737488351232) : Calls prog 27 #[.string ⟨S.toArray⟩, .string ⟨#[112, 105, 99, 107, 115]⟩] w fun e w' => e = .returned (afterV (afterF pickW S)) ∧ w' = w := rpAfter_any S pickW w hs (by decide)
end
theorem roots_s (s : B8) (w : World) (hs : s.length ≤ 1048576) (R : Nat) (k : Int) (h : parseFSt s = (R, k)) :
 Calls prog 30 #[.string ⟨s.toArray⟩] w fun e w' => e = .returned (.tuple #[.int .u64 (R : Int), .int .i64 k]) ∧ Below w.heap.size w w' := by
 have h0 : (⟨s.toArray⟩ : ByteArray).size = s.length := rfl; have := rParse_anySt ⟨s.toArray⟩ w (by rw [h0]; omega); rw [show (⟨s.toArray⟩ : ByteArray).data.toList = s by simp, ← parse_same, h] at this; exact this
theorem out_err {S : B8} {L : List B8} {k : Int} (hp : pParse S = outQ (linesP L)) (h : linesP L = .error k) : pParse S = (zeroQ, k) := by rw [hp, h]; rfl
theorem rng_rightPl {n : Int} {ls : Rws} (h : rightF n ls = true) : Rng ls := fun l hl o ho => by
 have h1 := (right_rows h l hl).2 o ho; have h2 := right_len h; omega
theorem last_get {L : List B8} (h : 0 < L.length) : L.getLast? = some (L[L.length - 1]'(by omega)) := by rw [List.getLast?_eq_getElem?, List.getElem?_eq_getElem (by omega)]
theorem plan_one (a b c d e f g h n : Int) (s N0 N1 N2 N3 c0 c1 c2 c3 : Nat) (A0 A1 A2 A3 : Option Addr) : (planC a b c d e f g h n (.slice A0 N0 c0) s (.slice A1 N1 c1) (.slice A2 N2 c2) (.slice A3 N3 c3)).all (·.oneCell') = true := by simp [Value.oneCell']
theorem plan_one0 : (planC 0 0 0 0 0 0 0 0 0 (.slice none 0 0) 0 (.slice none 0 0) (.slice none 0 0) (.slice none 0 0)).all (·.oneCell') = true := plan_one 0 0 0 0 0 0 0 0 0 0 0 0 0 0 0 0 0 0 none none none none
theorem planInfoR : (prog.info? 40).map (·.size) = some 14 := by kernel_rfl
theorem rpParse_res {tmps : Array Value} {W : World} (b : Nat) (k : Int) (cs : Array Value) {t : TypeId} {fr : Nat × Nat} (hs : tmps.getD 2 undef = .pointer (some ⟨b, 0, none⟩)) (h3 : tmps.getD 3 undef = .int .i64 k) (hg : W.heap[b]? = some (.cells cs t fr)) (hz : cs.size = 14) :
 (results Tryz.f6 tmps).run prog W = .ok (.tuple #[.agg cs, .int .i64 k]) W := by
 have hl := run_loadVar_row (P := prog) W b t 40 cs fr _ hg underlying40 rfl (by rw [hz]; exact planInfoR); rw [Array.getD_eq_getD_getElem?] at hs h3; simp [results, results6, hs, h3, asAddr, hl]
theorem Bp.setHeap {t : TypeId} {w : World} {B : Nat} {a b c d e f g h n : Int} {ob : Value} {s : Nat} {rg pg pk : Value} (k : Bp t w B a b c d e f g h n ob s rg pg pk) (m : Int) (v : Value) (R : Nat) : Bp t (((w.setCell ⟨B, 8, none⟩ (.int .i64 m)).setCell ⟨B, 9, none⟩ v).setCell ⟨B, 10, none⟩ (.int .u64 (R : Int))) B a b c d e f g h m v R rg pg pk := by
 have h1 := block_setCell k.blk (i := 8) (.int .i64 m); have h2 := block_setCell h1 (i := 9) v; exact ⟨by rw [block_setCell h2]; rfl⟩
theorem stores3 {t : TypeId} {w Wb : World} {B : Nat} {a b c d e f g h n : Int} {ob : Value} {s : Nat} {rg pg pk : Value} (k : Bp t w B a b c d e f g h n ob s rg pg pk) (hb : Below B Wb w) (m : Int) (v : Value) (R : Nat) {ls : Rws} (ho : OwnR (B + 1) w v ls) :
 ∃ W0, ((w.setCell ⟨B, 8, none⟩ (.int .i64 m)).setCell ⟨B, 9, none⟩ v).setCell ⟨B, 10, none⟩ (.int .u64 (R : Int)) = W0 ∧ Bp t W0 B a b c d e f g h m v R rg pg pk ∧ Below B Wb W0 ∧ OwnR (B + 1) W0 v ls :=
 ⟨_, rfl, k.setHeap m v R, ((hb.setCell (p := ⟨B, 8, none⟩) (Nat.le_refl _) _).setCell (p := ⟨B, 9, none⟩) (Nat.le_refl _) _).setCell (p := ⟨B, 10, none⟩) (Nat.le_refl _) _,
  ((ho.setCell_below (a := ⟨B, 8, none⟩) (Nat.lt_succ_self _) _).setCell_below (a := ⟨B, 9, none⟩) (Nat.lt_succ_self _) _).setCell_below (a := ⟨B, 10, none⟩) (Nat.lt_succ_self _) _⟩
theorem Bp.set13 {t : TypeId} {w : World} {B : Nat} {a b c d e f g h n : Int} {ob : Value} {s : Nat} {rg pg pk : Value} (k : Bp t w B a b c d e f g h n ob s rg pg pk) (v : Value) : Bp t (w.setCell ⟨B, 13, none⟩ v) B a b c d e f g h n ob s rg pg v := ⟨by rw [block_setCell k.blk]; rfl⟩
theorem dv_start {B : Nat} {Wb W : World} (hB : B < W.heap.size) (hb : Below B Wb W) : Dv B Wb W W (.slice none 0 0) (.slice none 0 0) [] [] [] [] :=
 ⟨hB, hb, Nat.le_refl _, fun _ _ _ => rfl, World.ownsRow_nil _ _ _ _, ⟨rfl, by simp⟩, World.ownsRow_nil _ _ _ _, ⟨rfl, by simp⟩⟩
theorem store13 {t u : TypeId} {w Wb W0 : World} {B b k nn : Nat} {a b' c d e f g h n : Int} {ob : Value} {s : Nat} {rg pg pk v : Value} {vr vp xs : List Value} {lr : Rws} {lp : List (List Oq)} (kb : Bp t w B a b' c d e f g h n ob s rg pg pk) (hd : Dv B Wb W0 w rg pg vr vp lr lp) (ho : w.ownsRow b u k v nn xs) (hB : B < b) :
 ∃ X, w.setCell ⟨B, 13, none⟩ v = X ∧ Dv B Wb W0 X rg pg vr vp lr lp ∧ Bp t X B a b' c d e f g h n ob s rg pg v ∧ X.ownsRow b u k v nn xs ∧ X.heap.size = w.heap.size :=
 ⟨_, rfl, hd.set 13 v, kb.set13 v, ownsRow_setCell_below ho hB v, set_sizePl _ _ _⟩
section
variable {B R : Nat} {Wb W0 X Z : World} {rg pg : Value} {vr vp : List Value} {lr : Rws} {lp : List (List Oq)}
theorem Dv.kb (h : Dv B Wb W0 X rg pg vr vp lr lp) : KB B W0 X := ⟨h.sz, fun k hB hk => h.kp k hk (by omega)⟩
theorem Dv.grids (h : Dv B Wb W0 X rg pg vr vp lr lp) (hk : KB R X Z) (hR : R < W0.heap.size) : Grid Z rg lr ∧ GridO Z pg lp :=
 ⟨⟨vr, Sl.of_own (enc := one) (size := 1) one_len (by rw [flat_one]; exact own_kb h.rg hk hR), h.rr.1, fun i u l hu hl => Sl.of_own ic_len (own_kb (h.rr.2 i u l hu hl) hk hR)⟩,
   ⟨vp, Sl.of_own (enc := one) (size := 1) one_len (by rw [flat_one]; exact own_kb h.pg hk hR), h.rp.1, fun i u l hu hl => Sl.of_own oq_len (own_kb (h.rp.2 i u l hu hl) hk hR)⟩⟩
end
theorem kb_row (R : Nat) (X : World) (cs : Array Value) : KB R X (X.setRow R cs) := ⟨by simp, fun k hk _ => setRow_other X R k cs (by omega)⟩
theorem out_right {S : B8} {L : List B8} {q : Pq} (hp : pParse S = outQ (linesP L)) (h : linesP L = .ok q) : pParse S = if pRight q = true then (q, 0) else (zeroQ, 1) := by rw [hp, h]; rfl
theorem out_1 {S : B8} {L : List B8} {q : Pq} (hp : pParse S = outQ (linesP L)) (h : linesP L = .ok q) (hr : pRight q = false) : pParse S = (zeroQ, 1) := by rw [out_right hp h, if_neg (by rw [hr]; exact Bool.noConfusion)]
theorem out_0 {S : B8} {L : List B8} {q : Pq} (hp : pParse S = outQ (linesP L)) (h : linesP L = .ok q) (hr : pRight q = true) : pParse S = (q, 0) := by rw [out_right hp h, if_pos hr]
theorem st0 {ops : Array Oper} {rest : List Oper} {op : Oper} {a : Act} {w : World} {Q : Exit → Act → World → Prop} (y : Operand) {b : Nat} (hr : Bp 40 w b 0 0 0 0 0 0 0 0 0 (.slice none 0 0) 0 (.slice none 0 0) (.slice none 0 0) (.slice none 0 0)) (h : wpList prog ops Q rest (a.put op.dst undef) (w.setRow b zeroC)) (hgd : op.guard = none := by rfl)
 (ho : op.op = .store 40 (.tmp 2) y := by rfl) (hx : a.eval (.tmp 2) = .pointer (some ⟨b, 0, none⟩) := by rfl) (hy : a.eval y = .agg zeroC := by rfl) : wpList prog ops Q (op :: rest) a w :=
 wpList_store_row hgd 40 (.tmp 2) y ho b hx zeroC hy _ _ hr.blk planInfoR rfl plan_one0 h
theorem err_ret {S : B8} {w W Z : World} {k : Int} (hp : pParse S = (zeroQ, k)) (hb : Below w.heap.size w W) (hz : Below w.heap.size W Z) : ParseQ S w (.returned (.tuple #[planV 0 0 0 0 0 0 0 0 0 (.slice none 0 0) 0 (.slice none 0 0) (.slice none 0 0) (.slice none 0 0), .int .i64 k])) Z := parseQ_err hp (hb.trans hz)
theorem err_post {S : B8} {w W : World} {k : Int} {a : Act} (hr : Bp 40 W w.heap.size 0 0 0 0 0 0 0 0 0 (.slice none 0 0) 0 (.slice none 0 0) (.slice none 0 0) (.slice none 0 0)) (hp : pParse S = (zeroQ, k)) (hb : Below w.heap.size w W) (h2 : a.tmps.getD 2 undef = .pointer (some ⟨w.heap.size, 0, none⟩) := by rfl) (h3 : a.tmps.getD 3 undef = .int .i64 k := by rfl) (h4 : a.defers = [] := by rfl) :
 bodyPost prog Tryz.f6 (ParseQ S w) .ret a (W.setRow w.heap.size zeroC) :=
 bodyPost_ret (v := .tuple #[planV 0 0 0 0 0 0 0 0 0 (.slice none 0 0) 0 (.slice none 0 0) (.slice none 0 0) (.slice none 0 0), .int .i64 k]) (rpParse_res w.heap.size k zeroC h2 h3 (setRow_heap W w.heap.size _ _ _ _ hr.blk) rfl) h4 (err_ret hp hb (below_setRow (Below.refl _ _) (Nat.le_refl _) _))
theorem rpParse_any (S : B8) (w : World) (hS : S.length ≤ 1048576) : Calls prog 6 #[.string ⟨S.toArray⟩] w (ParseQ S w) := by
 obtain ⟨L, hL⟩ : ∃ L, cut 10 S = L := ⟨_, rfl⟩; have HPP := hide (show pParse S = outQ (linesP L) by rw [pParse_out, hL]); have hLn : L ≠ [] := by rw [← hL]; exact cut_ne 10 S
 have HLC := hide ((cutG_cut 10 S).trans hL); have HLS := hide (show ∀ p ∈ L, p.length ≤ 1048576 by
  intro p hp; rw [← HLC.out] at hp; have := cutG_size 10 S [] p hp; simp at this; omega)
 have hLl : L.length ≤ 1048577 := by rw [← HLC.out]; have := cutG_len 10 S []; omega
 clear hL; obtain ⟨w1, e1, hb1, hs1, X1⟩ := bp_zero w 40; have HE1 := hide e1; have HRZ := hide X1; have HBW := hide hb1; have hRs : w.heap.size < w1.heap.size := by omega
 clear e1 X1 hb1 hs1; go_enter func6, ntmps6
 go_wp2_with fail
 rw [HE1.out]; (with_reducible refine (rCut_nl S _ hS).mono ?_); rintro x w2 ⟨v, rfl, hown, hb⟩; rw [HLC.out] at hown; have HC := hide (show Pcs w2 v L from Sl.of_own tc_len hown); obtain ⟨A2, c2, rfl, hc1, hc2⟩ := own_form hown; unfold maxLen at hc2; clear hown; have HRZ := hide (HRZ.out.below hb); have HBW := hide (bcall HBW.out hb); have hRs : w.heap.size < w2.heap.size := by have := hb.size; omega
 clear hb HE1; obtain ⟨l0, rx, rfl⟩ : ∃ a b, L = a :: b := List.exists_cons_of_ne_nil hLn; clear hLn; have hl0 := HLS.out l0 (by simp); obtain ⟨b0, o0, rfl, -, p0⟩ := pcs_at HC.out (k := 0) (by simp); simp only [List.getElem_cons_zero, Nat.add_zero] at p0; obtain ⟨o, ho⟩ : ∃ o, afterF engW l0 = o := ⟨_, rfl⟩; have HAF := hide ho; go_wp2_with fail
 (with_reducible refine (rpAfter_eng l0 _ (by omega)).mono ?_); rintro x w3 ⟨rfl, hw3⟩; obtain rfl := hw3.symm; rw [HAF.out]; cases o with
 | none =>
   as_aux_lemma =>
    clear ho; dsimp only [afterV]; go_wp2_with fail
    (with_reducible refine (rpList_32 [] _ (by simp)).mono ?_); rintro x w4 ⟨v4, l, bb, -, rfl, hown4, hb⟩; obtain ⟨A4, c4, rfl, -, -⟩ := own_form hown4; have HRZ := hide (HRZ.out.below hb); have HBW := hide (bcall HBW.out hb); clear hown4 hb; have HERR := hide (out_err HPP.out (linesP_2 (engP_none HAF.out))); go_wp2_with (refine st0 (.tmp 63) HRZ.out ?_)
    exact err_post HRZ.out HERR.out HBW.out
 | some S1 =>
   have hS1 := after_len ho; clear ho; dsimp only [afterV]; go_wp2_with fail
   (with_reducible refine (rpList_32 S1 _ (by omega)).mono ?_); rintro x w4 ⟨v4, l, bb, hl, rfl, hown4, hb⟩; obtain ⟨A4, c4, rfl, hc41, hc42⟩ := own_form hown4; unfold maxLen at hc42; have HRZ := hide (HRZ.out.below hb); have HBW := hide (bcall HBW.out hb); have HC := hide (HC.out.below hb); have p0 := keepcHp hb p0; have hRs : w.heap.size < w4.heap.size := by have := hb.size; omega
   have HN := hide (show Ints w4 (.slice A4 l.length c4) l from Sl.of_own ic_len hown4); clear hown4 hb; rcases hl with ⟨hl, rfl⟩ | ⟨hl, rfl, rfl⟩
   rotate_left
   · as_aux_lemma =>
      have HERR := hide (out_err HPP.out (linesP_2 (engP_list HAF.out hl))); go_wp2_with (refine st0 (.tmp 63) HRZ.out ?_)
      exact err_post HRZ.out HERR.out HBW.out
   by_cases h8 : l.length = 8
   rotate_left
   · as_aux_lemma =>
      have q1 : ((l.length : Int) != 8) = true := by rw [bne_iff_ne]; omega
      have HERR := hide (out_err HPP.out (linesP_2 (engP_len HAF.out hl h8))); go_wp2_with (refine st0 (.tmp 63) HRZ.out ?_)
      exact err_post HRZ.out HERR.out HBW.out
   obtain ⟨x0, x1, x2, x3, x4, x5, x6, x7, rfl⟩ := eight h8; clear h8; have hmil := (list_back hl).2.1; have hx1 := hmil x1 (by simp); obtain ⟨N, rfl⟩ : ∃ N : Nat, x1 = (N : Int) := ⟨x1.toNat, by have := hx1.1; omega⟩; have hN : N ≤ 1000000 := by have := hx1.2; omega
   have HENG := hide (engP_some HAF.out hl); clear hmil hx1 hl HAF; simp only [List.length_cons, List.length_nil, Nat.zero_add, Nat.reduceAdd] at *; obtain ⟨gb, go, rfl, hgb, n0⟩ := ints_at HN.out (k := 0) (by simp); obtain ⟨gb1, go1, en1, -, n1⟩ := ints_at HN.out (k := 1) (by simp); injection en1 with en1; injection en1 with en1 en1b; subst en1 en1b; obtain ⟨gb2, go2, en2, -, n2⟩ := ints_at HN.out (k := 2) (by simp); injection en2 with en2; injection en2 with en2 en2b; subst en2 en2b; obtain ⟨gb3, go3, en3, -, n3⟩ := ints_at HN.out (k := 3) (by simp); injection en3 with en3; injection en3 with en3 en3b; subst en3 en3b; obtain ⟨gb4, go4, en4, -, n4⟩ := ints_at HN.out (k := 4) (by simp); injection en4 with en4; injection en4 with en4 en4b; subst en4 en4b; obtain ⟨gb5, go5, en5, -, n5⟩ := ints_at HN.out (k := 5) (by simp); injection en5 with en5; injection en5 with en5 en5b; subst en5 en5b; obtain ⟨gb6, go6, en6, -, n6⟩ := ints_at HN.out (k := 6) (by simp); injection en6 with en6; injection en6 with en6 en6b; subst en6 en6b; obtain ⟨gb7, go7, en7, -, n7⟩ := ints_at HN.out (k := 7) (by simp); injection en7 with en7; injection en7 with en7 en7b; subst en7 en7b; simp only [List.getElem_cons_zero, List.getElem_cons_succ, Nat.add_zero] at n0 n1 n2 n3 n4 n5 n6 n7; by_cases hlen : ((l0 :: rx).length : Int) = (N : Int) + 5
   rotate_left
   · as_aux_lemma =>
      have q1 : (((rx.length + 1 : Nat) : Int) != (N : Int) + 5) = true := by rw [bne_iff_ne]; simpa using hlen
      have q2 : ((rx.length : Int) + 1 != (N : Int) + 5) = true := by rw [bne_iff_ne]; simpa using hlen
      have HERR := hide (out_err HPP.out (linesP_len HENG.out fun z => hlen z.1)); go_wp2_with (refine st0 (.tmp 63) HRZ.out ?_)
      exact err_post HRZ.out HERR.out HBW.out
   have hlr : rx.length = N + 4 := by simp at hlen; omega
   have HLEN := hide hlen; have q1 : (((rx.length + 1 : Nat) : Int) != (N : Int) + 5) = false := by rw [bne_eq_false_iff_eq]; omega
   have q2 : ((rx.length : Int) + 1 != (N : Int) + 5) = false := by rw [bne_eq_false_iff_eq]; omega
   clear hlen; obtain ⟨bl, ol, el, -, pl⟩ := pcs_at HC.out (k := N + 4) (by simp; omega); injection el with el; injection el with el el2; subst el el2; have HLAST := hide (show (l0 :: rx).getLast? = some ((l0 :: rx)[N + 4]'(by simp; omega)) by rw [last_get (by simp)]; congr 1; simp [hlr]); generalize hlast : (l0 :: rx)[N + 4]'(by simp; omega) = last at *; by_cases hle : last = []
   rotate_left
   · as_aux_lemma =>
      have q3 : last.isEmpty = false := by cases last with | nil => exact absurd rfl hle | cons x y => rfl
      have HERR := hide (out_err HPP.out (linesP_len HENG.out fun z => hle (Option.some.inj (HLAST.out.symm.trans z.2)))); go_wp2_with (refine st0 (.tmp 63) HRZ.out ?_)
      exact err_post HRZ.out HERR.out HBW.out
   subst hle; have HLL := hide HLAST.out; clear HLAST hlast; go_wp2; clear q1 q2 pl; have HC4 := HC; have HN1 := hide n1; have HRZ4 := HRZ; have HBW4 := HBW; obtain ⟨w5, e5, hb5, hs5, X5⟩ := bp_new0 w4.drew x0 (N : Int) x2 x3 x4 x5 x6 x7 0 (.slice none 0 0) (.slice none 0 0) (.slice none 0 0) (.slice none 0 0) 40; have HE5 := hide e5; clear e5; refine wp_region_held_drew (S := fun w' => w'.cell? ⟨gb, go, none⟩ = some (.int .i64 x0) ∧ w'.cell? ⟨gb, go + 1, none⟩ = some (.int .i64 (N : Int)) ∧ w'.cell? ⟨gb, go + 2, none⟩ = some (.int .i64 x2) ∧ w'.cell? ⟨gb, go + 3, none⟩ = some (.int .i64 x3) ∧ w'.cell? ⟨gb, go + 4, none⟩ = some (.int .i64 x4) ∧ w'.cell? ⟨gb, go + 5, none⟩ = some (.int .i64 x5) ∧ w'.cell? ⟨gb, go + 6, none⟩ = some (.int .i64 x6) ∧ w'.cell? ⟨gb, go + 7, none⟩ = some (.int .i64 x7)) (by kernel_rfl) ?_ (fun hHeld => ?_)
   · exact (by first | (with_reducible exact ⟨n0, n1, n2, n3, n4, n5, n6, n7⟩) | exact ⟨n0, n1, n2, n3, n4, n5, n6, n7⟩ | exact ⟨keepcHp (belowD (balHp _ _)) n0, keepcHp (belowD (balHp _ _)) n1, keepcHp (belowD (balHp _ _)) n2, keepcHp (belowD (balHp _ _)) n3, keepcHp (belowD (balHp _ _)) n4, keepcHp (belowD (balHp _ _)) n5, keepcHp (belowD (balHp _ _)) n6, keepcHp (belowD (balHp _ _)) n7⟩)
   refine tk 0 ?_; refine tk 1 ?_; refine tk 2 ?_; refine tk 3 ?_; refine tk 4 ?_; refine tk 5 ?_; refine tk 6 ?_; refine tk 7 ?_; refine tk 8 ?_; refine tk 9 ?_; refine tk 10 ?_; refine tk 11 ?_; refine tk 12 ?_; refine tk 13 ?_; refine tk 14 ?_; refine tk 15 ?_; refine tk 16 ?_; refine tk 17 ?_; refine tk 18 ?_; refine tk 19 ?_; refine tk 20 ?_; refine tk 21 ?_; refine tk 22 ?_; refine tk 23 ?_; refine tk 24 ?_; refine r1 25 (fun K hK => ?_); go_simp; (try go_simp); refine go_ hK (by first | (with_reducible exact ⟨n0, n1, n2, n3, n4, n5, n6, n7⟩) | exact ⟨n0, n1, n2, n3, n4, n5, n6, n7⟩ | exact ⟨keepcHp (belowD (balHp _ _)) n0, keepcHp (belowD (balHp _ _)) n1, keepcHp (belowD (balHp _ _)) n2, keepcHp (belowD (balHp _ _)) n3, keepcHp (belowD (balHp _ _)) n4, keepcHp (belowD (balHp _ _)) n5, keepcHp (belowD (balHp _ _)) n6, keepcHp (belowD (balHp _ _)) n7⟩) (fun hHeld => ?_); clear hK; refine r1 26 (fun K hK => ?_); go_simp; (try go_simp); refine go_ hK (by first | (with_reducible exact ⟨n0, n1, n2, n3, n4, n5, n6, n7⟩) | exact ⟨n0, n1, n2, n3, n4, n5, n6, n7⟩ | exact ⟨keepcHp (belowD (balHp _ _)) n0, keepcHp (belowD (balHp _ _)) n1, keepcHp (belowD (balHp _ _)) n2, keepcHp (belowD (balHp _ _)) n3, keepcHp (belowD (balHp _ _)) n4, keepcHp (belowD (balHp _ _)) n5, keepcHp (belowD (balHp _ _)) n6, keepcHp (belowD (balHp _ _)) n7⟩) (fun hHeld => ?_); clear hK; refine wpAnyH_done (by kernel_rfl) ?_ _; rw [show (w4.alloc (.cells #[.int .i64 x0, .int .i64 (N : Int), .int .i64 x2, .int .i64 x3, .int .i64 x4, .int .i64 x5, .int .i64 x6, .int .i64 x7, .int .i64 0, .slice none 0 0, .int .u64 0, .slice none 0 0, .slice none 0 0, .slice none 0 0] 40)).drew = w5 from HE5.out]; have hsz4 : w4.drew.heap.size = w4.heap.size := rfl; have hbw5 : Below w4.heap.size w4 w5 := (belowD (Below.refl _ w4)).trans hb5; rw [hsz4] at X5 hs5; have HB5 := hide X5; have HRZ := hide (HRZ.out.below hbw5); have HBW := hide (bcall HBW.out hbw5); have HC := hide (HC.out.below hbw5); have HB45 := hide hbw5; have n1 := keepcHp hbw5 n1; obtain ⟨B, hB⟩ : ∃ B, w4.heap.size = B := ⟨_, rfl⟩; rw [hB] at hs5 HB5 HB45 hRs ⊢; have HBB := hide hB; clear hB; clear hb5 X5 hbw5 HE5 n0 n2 n3 n4 n5 n6 n7 HN hsz4 p0 hl0; obtain ⟨l1, l2, r, rfl⟩ := four_lines (r := rx) (by omega); have hlr : r.length = N + 2 := by simp at hlr; omega
   have hl1 := HLS.out l1 (by simp); have hl2 := HLS.out l2 (by simp); obtain ⟨bb1, oo1, el, -, p1⟩ := pcs_at HC.out (k := 1) (by simp); injection el with el; injection el with el el2; subst el el2; obtain ⟨bb2, oo2, el, -, p2⟩ := pcs_at HC.out (k := 2) (by simp); injection el with el; injection el with el el2; subst el el2; simp only [List.getElem_cons_zero, List.getElem_cons_succ] at p1 p2; have HFIN := hide (linesP_fin HENG.out (r := l1 :: l2 :: r) (by simp) ⟨by simp; omega, (List.getLast?_cons_cons).symm.trans HLL.out⟩); obtain ⟨o1, ho1⟩ : ∃ o, afterF heapW l1 = o := ⟨_, rfl⟩; have HA1 := hide ho1; clear ho1; go_wp2_with fail
   (with_reducible refine (rpAfter_heap l1 _ (by omega)).mono ?_); rintro x w6 ⟨rfl, hw6⟩; obtain rfl := hw6.symm; rw [HA1.out]; cases o1 with
   | none =>
     as_aux_lemma =>
      dsimp only [afterV]; have hsz : (⟨#[]⟩ : ByteArray).size ≤ 1048576 := by decide
      go_wp2_with fail
      (with_reducible refine (rParse_own ⟨#[]⟩ _ hsz).mono ?_); rintro x w6 ⟨m, ls, k, v6, hr, rfl, hown6, hb6⟩; obtain ⟨A6, c6, rfl, hc61, hc62⟩ := hown6.form; unfold maxLen at hc62; obtain ⟨w7, e7, hb7, hlt7, -, y0, y1⟩ := box1Hp w6 (.int .i64 m) (.slice A6 ls.length c6) 36; have HE7 := hide e7; clear e7; have hb67 := bcall hb6 hb7; go_upto_region 9 with (fail)
      rw [HE7.out]; have HRZ := hide (HRZ.out.below hb67); have HBW := hide (bcall HBW.out hb67); have HERR := hide (out_err HPP.out (HFIN.out.trans (by rw [restP_1 (by rw [HA1.out]; rfl)]; rfl))); go_wp2_with (refine st0 (.tmp 107) HRZ.out ?_)
      exact err_post HRZ.out HERR.out HBW.out
   | some S2 =>
     have hS2 := after_len HA1.out; dsimp only [afterV]; have hsz : (⟨S2.toArray⟩ : ByteArray).size ≤ 1048576 := by show S2.length ≤ _; omega
     go_wp2_with fail
     (with_reducible refine (rParse_own ⟨S2.toArray⟩ _ hsz).mono ?_); rintro x w6 ⟨m, ls, k, v6, hr, rfl, hown6, hb6⟩; obtain ⟨A6, c6, rfl, hc61, hc62⟩ := hown6.form; unfold maxLen at hc62; obtain ⟨w7, e7, hb7, hlt7, -, y0, y1⟩ := box1Hp w6 (.int .i64 m) (.slice A6 ls.length c6) 36; have HE7 := hide e7; clear e7; have hb67 := bcall hb6 hb7; go_upto_region 9 with (fail)
     rw [HE7.out]; have HRZ := hide (HRZ.out.below hb67); have HBW := hide (bcall HBW.out hb67); rcases hr with ⟨hh, rfl⟩ | ⟨hh, rfl, rfl, rfl⟩
     rotate_left
     · as_aux_lemma =>
        have HERR := hide (out_err HPP.out (HFIN.out.trans (by rw [restP_1 (by rw [HA1.out]; exact hh)]; rfl))); go_wp2_with (refine st0 (.tmp 107) HRZ.out ?_)
        exact err_post HRZ.out HERR.out HBW.out
     have HH := hide (show (afterF heapW l1).bind heapF = some (m, ls) by rw [HA1.out]; exact hh); have HRN := hide (rng_rightPl (heapF_text hh).1); clear hh HA1; have HB7 := hide (HB5.out.below hb67); have HB47 := hide (HB45.out.trans (hb67.mono (by omega))); have HO7 := hide (hown6.below hb7); have hs7 : w5.heap.size ≤ w6.heap.size := hb6.size; have HC7 := hide (HC.out.below hb67); have p2 := keepcHp hb67 p2; have HY := hide (And.intro y0 y1); have HL7 := hide hlt7; clear y0 y1 hlt7 hb6 hb7 hb67 hown6 HC HB5 HB45 HE7 hsz p1 hS2 hl1; obtain ⟨o2, ho2⟩ : ∃ o, afterF rootsW l2 = o := ⟨_, rfl⟩; have HA2 := hide ho2; clear ho2; go_wp2_with fail
     (with_reducible refine (rpAfter_roots l2 _ (by omega)).mono ?_); rintro x w8 ⟨rfl, hw8⟩; obtain rfl := hw8.symm; rw [HA2.out]; cases o2 with
     | none =>
       as_aux_lemma =>
        dsimp only [afterV]; obtain ⟨R, kk, hrk⟩ : ∃ R kk, parseFSt [] = (R, kk) := ⟨_, _, rfl⟩; have HRK := hide hrk; clear hrk; go_wp2_with fail
        (with_reducible refine (roots_s [] _ (by simp) R kk HRK.out).mono ?_); rintro x w8 ⟨rfl, hb8⟩; have HRZ := hide (HRZ.out.below hb8); have HBW := hide (bcall HBW.out hb8); have HERR := hide (out_err HPP.out (HFIN.out.trans (by rw [restP_2 HA2.out]; rfl))); go_wp2_with (refine st0 (.tmp 126) HRZ.out ?_)
        exact err_post HRZ.out HERR.out HBW.out
     | some S3 =>
       have hS3 := after_len HA2.out; dsimp only [afterV]; obtain ⟨R, kk, hrk⟩ : ∃ R kk, parseFSt S3 = (R, kk) := ⟨_, _, rfl⟩; have HRK := hide hrk; clear hrk; go_wp2_with fail
       (with_reducible refine (roots_s S3 _ (by omega) R kk HRK.out).mono ?_); rintro x w8 ⟨rfl, hb8⟩; have HRZ := hide (HRZ.out.below hb8); have HBW := hide (bcall HBW.out hb8); by_cases hkk : kk = 0
       rotate_left
       · as_aux_lemma =>
          have q1 : (kk != 0) = true := by rw [bne_iff_ne]; exact hkk
          have HERR := hide (out_err HPP.out (HFIN.out.trans (by rw [restP_2p HA2.out (by rw [HRK.out]; exact hkk)]; rfl))); go_wp2_with (refine st0 (.tmp 126) HRZ.out ?_)
          exact err_post HRZ.out HERR.out HBW.out
       subst hkk; have HRT := hide (show restP (Int.toNat (N : Int)) (l0 :: l1 :: l2 :: r) = tailQ N r m ls R by rw [restP_tail HH.out HA2.out (by rw [HRK.out]), HRK.out, Int.toNat_natCast]); have HRL := hide (show R < 18446744073709551616 by have h := parse_lt S3; rw [HRK.out] at h; exact h); have y0 := keepcHp hb8 HY.out.1; have y1 := keepcHp hb8 HY.out.2; have HB8 := hide (HB7.out.below hb8); have hBs : B < w8.heap.size := HB8.out.lt; have f8 := HB8.out.free 8; have f9 := HB8.out.free 9; have fa := HB8.out.free 10; obtain ⟨z8, z9, za, -, -, -⟩ := HB8.out.all2; have hCB : w6.heap.size ≠ B := by omega
       skip
       have HS5 := hide (show B + 1 ≤ w5.heap.size by omega); clear hs5; go_upto_region 17 with (fail)
       obtain ⟨W0, hW0, hB0, hbW, hOB⟩ := stores3 HB8.out (HB47.out.trans (hb8.mono (by have := HL7.out; have := HS5.out; omega))) m (.slice A6 ls.length c6) R (OwnRows.le (OwnRows.below HO7.out hb8) HS5.out); rw [hW0]; have HB0 := hide hB0; have HOB := hide hOB; have HD := hide (dv_start HB0.out.lt hbW); clear hW0 hbW hB0 hOB y0 y1 f8 f9 fa z8 z9 za hCB hBs hb8 HB8 HB7 HB47 HO7 HY HL7 HC7 HRK HA2 p2 hS3 hl2 HRZ HBW; have hNr : N < r.length := by omega
       go_wp2; go_loopw [15, 16] (fun iv _ wr => ∃ (i : Nat) (rg pg : Value) (vr vp : List Value) (xs : List (List Int × List Oq)), i ≤ N ∧ iv = .int .i64 i ∧ xs.length = i ∧ Hid (mutsP (r.take i) = .ok xs) ∧ Hid (Dv B w4 W0 wr rg pg vr vp (xs.map (·.1)) (xs.map (·.2))) ∧ Hid (Bp 40 wr B x0 (N : Int) x2 x3 x4 x5 x6 x7 m (.slice A6 ls.length c6) R rg pg (.slice none 0 0))) (fun iv _ _ => N - (intOf iv).toNat)
       case atStart => exact ⟨0, _, _, [], [], [], Nat.zero_le _, rfl, rfl, hide rfl, HD, HB0⟩
       case round =>
        clear HD HB0; obtain ⟨i, rg, pg, vr, vp, xs, hi, rfl, hxl, HMS, HD, HB⟩ := hrel; have hbX : Below w4.heap.size w4 wr := by rw [HBB.out]; exact HD.out.bw
        have HBX := hide hbX; have HRZ := hide (HRZ4.out.below hbX); have HBW := hide (bcall HBW4.out hbX); have n1 := keepcHp hbX HN1.out; obtain ⟨bi, oi, el, -, pi⟩ := pcs_at (HC4.out.below hbX) (k := 3 + i) (by simp; omega); injection el with el; injection el with el el2; subst el el2; clear hbX; by_cases hlt : i < N
        · have hir : i < r.length := by omega
          have eT : (l0 :: l1 :: l2 :: r)[3 + i]'(by simp; omega) = r[i] := by rw [List.getElem_eq_iff, List.getElem?_eq_getElem (by simp; omega)]; simp [show 3 + i = i + 1 + 1 + 1 by omega]
          rw [eT] at pi; have HST := hide (show ∀ e : Int, mutP r[i] = .error e → mutsP (r.take N) = .error e from fun e h => mutsP_stop HMS.out hir hlt h); have HTK := hide (show ∀ y : List Int × List Oq, mutP r[i] = .ok y → mutsP (r.take (i + 1)) = .ok (xs ++ [y]) from fun y h => mutsP_take HMS.out hir h); have hT := HLS.out r[i] (by simp); clear eT; generalize r[i] = T at *; go_wp2_with fail
          (with_reducible refine (rpMut_any B w4 W0 wr x0 (N : Int) x2 x3 x4 x5 x6 x7 m (.slice A6 ls.length c6) R rg pg (.slice none 0 0) vr vp (xs.map (·.1)) (xs.map (·.2)) T hT HD.out HB.out (by rw [List.length_map, List.length_map]; omega)).mono ?_); rintro x w9 hm; cases hmp : mutP T with
          | error k =>
            as_aux_lemma =>
             rw [hmp] at hm; obtain ⟨hk0, rfl, hb9⟩ := hm; have q1 : (k != 0) = true := by rw [bne_iff_ne]; exact hk0
             have HRZ := hide (HRZ.out.below hb9); have HBW := hide (bcall HBW.out hb9); have HERR := hide (out_err HPP.out (HFIN.out.trans (by rw [HRT.out, tailQ_err (HST.out _ hmp)]; rfl))); go_wp2_with (refine st0 (.tmp 146) HRZ.out ?_)
             exact err_post HRZ.out HERR.out HBW.out
          | ok y =>
            rw [hmp] at hm; obtain ⟨rfl, rg', pg', vr', vp', hD', hB'⟩ := hm; have HTK := hide (HTK.out _ hmp); clear hmp; go_wp2; go_roundw
            case rel => exact ⟨i + 1, rg', pg', vr', vp', xs ++ [y], by omega, by go_num, by simp [hxl], HTK, hide (by rw [List.map_append, List.map_append]; exact hD'), hide hB'⟩
            case measure => simp [intOf]; omega
        · obtain rfl : i = N := by omega
          have eT : (l0 :: l1 :: l2 :: r)[3 + i]'(by simp; omega) = r.getD i [] := by rw [List.getElem_eq_iff, List.getElem?_eq_getElem (by simp; omega), List.getD_eq_getElem?_getD, List.getElem?_eq_getElem (by omega)]; simp [show 3 + i = i + 1 + 1 + 1 by omega]
          have hT := HLS.out ((l0 :: l1 :: l2 :: r)[3 + i]'(by simp; omega)) (List.getElem_mem _); rw [eT] at pi hT; have HTQ := hide (HRT.out.trans (tailQ_ok HMS.out)); clear eT; generalize r.getD i [] = T at *; obtain ⟨o3, ho3⟩ : ∃ o, afterF pickW T = o := ⟨_, rfl⟩; have HA3 := hide ho3; clear ho3; go_wp2_with fail
          (with_reducible refine (rpAfter_pick T _ (by omega)).mono ?_); rintro x w9 ⟨rfl, hw9⟩; obtain rfl := hw9.symm; rw [HA3.out]; rw [HA3.out] at HTQ; cases o3 with
          | none =>
            as_aux_lemma =>
             dsimp only [afterV]; have HERR := hide (out_err HPP.out (HFIN.out.trans (by rw [HTQ.out]; rfl))); go_wp2_with (refine st0 (.tmp 161) HRZ.out ?_)
             exact err_post HRZ.out HERR.out HBW.out
          | some S4 =>
            have hS4 := after_len HA3.out; dsimp only [afterV]; have hsz : (⟨S4.toArray⟩ : ByteArray).size ≤ 1048576 := by show S4.length ≤ _; omega
            go_wp2_with fail
            (with_reducible refine (rParse_anyPk ⟨S4.toArray⟩ _ hsz).mono ?_); rintro x w9 ⟨v9, rfl, hown9, hb9⟩; obtain ⟨ps, kp, hpk⟩ : ∃ ps kp, parseFPk ⟨S4.toArray⟩ = (ps, kp) := ⟨_, _, rfl⟩; rw [hpk] at hown9; (try dsimp only at hown9); rw [show (parseFPk ⟨S4.toArray⟩).2 = kp by rw [hpk]]; have HTQ := hide HTQ.out; (try dsimp only at HTQ); rw [hpk] at HTQ; obtain ⟨A9, c9, rfl, hc91, hc92⟩ := own_form hown9; unfold maxLen at hc92; have HRZ := hide (HRZ.out.below hb9); have HBW := hide (bcall HBW.out hb9); have HDw := hide (HB.out.lt); have HD := hide (HD.out.below hb9); have HB := hide (HB.out.below hb9); have HP9 := hide hown9; have hs9 := hb9.size; clear hown9 hpk hb9 HA3 pi; by_cases hkp : kp = 0
            rotate_left
            · as_aux_lemma =>
               have q1 : (kp != 0) = true := by rw [bne_iff_ne]; exact hkp
               have HERR := hide (out_err HPP.out (HFIN.out.trans (by rw [HTQ.out, if_neg hkp]; rfl))); go_wp2_with (refine st0 (.tmp 169) HRZ.out ?_)
               exact err_post HRZ.out HERR.out HBW.out
            subst hkp; have HLQ := hide (HFIN.out.trans (congrArg (finQ x0 (i : Int) x2 x3 x4 x5 x6 x7) (HTQ.out.trans (if_pos rfl)))); obtain ⟨Ar, mr, rfl, -, -⟩ := own_form HD.out.rg; obtain ⟨Ap, mp, rfl, -, -⟩ := own_form HD.out.pg; have fd := HB.out.free 13; obtain ⟨-, -, -, -, -, zd⟩ := HB.out.all2; go_upto_region 30 with (fail)
            obtain ⟨X3, hX3, hD3, hB3, hP3, hsx⟩ := store13 HB.out HD.out HP9.out HDw.out; rw [hX3]; have hX := HD.out.hB; have HD3 := hide hD3; have HB3 := hide hB3; have HP3 := hide hP3; have HXw := hide (show wr.heap.size ≤ X3.heap.size by omega); have hbX : Below w4.heap.size w4 X3 := by rw [HBB.out]; exact HD3.out.bw
            have HRZ := hide (HRZ4.out.below hbX); have HBW := hide (bcall HBW4.out hbX); have hWX : W0.heap.size ≤ X3.heap.size := HD3.out.sz; clear hbX hX3 fd zd HD HB HP9 hD3 hB3 hP3 hsx; have HPR := hide (show PlanR X3 (.slice A6 ls.length c6) (.slice Ar vr.length mr) (.slice Ap vp.length mp) (.slice A9 ps.length c9) ⟨x0, (i : Int), x2, x3, x4, x5, x6, x7, m, ls, R, xs.map (·.1), xs.map (·.2), ps⟩ from ⟨OwnRows.grid (rows_kb HOB.out HD3.out.kb (Nat.lt_succ_self _)), (HD3.out.grids (KB.refl B _) hX).1, (HD3.out.grids (KB.refl B _) hX).2, Sl.of_own pc_len HP3.out⟩); obtain ⟨z0, z1, z2, z3, z4, z5, z6, z7, z8, z9, za, zb, zc, zd⟩ := HB3.out.cells; go_wp2_with fail
            (with_reducible refine (rpRight_any x0 (i : Int) x2 x3 x4 x5 x6 x7 m (.slice A6 ls.length c6) R (.slice Ar vr.length mr) (.slice Ap vp.length mp) (.slice A9 ps.length c9) ls (xs.map (·.1)) (xs.map (·.2)) ps _ HRL.out HPR.out HRN.out).mono ?_); rintro x wf ⟨rfl, hbf⟩; cases hpr : pRight ⟨x0, (i : Int), x2, x3, x4, x5, x6, x7, m, ls, R, xs.map (·.1), xs.map (·.2), ps⟩
            · as_aux_lemma =>
               have HRZ := hide (HRZ.out.below hbf); have HBW := hide (bcall HBW.out hbf); have HERR := hide (out_1 HPP.out HLQ.out hpr); go_wp2_with (refine st0 (.tmp 176) HRZ.out ?_)
               exact err_post HRZ.out HERR.out HBW.out
            have HPQ := hide (out_0 HPP.out HLQ.out hpr); have HRZ := hide (HRZ.out.below hbf); have HBW := hide (bcall HBW.out hbf); have HDf := hide (HD3.out.below hbf); have HPf := hide (own_below HP3.out hbf); have hBR : w.heap.size < B := hRs; have hX3w : wr.heap.size ≤ X3.heap.size := HXw.out; have HBf := hide (HB3.out.below hbf); clear hpr z0 z1 z2 z3 z4 z5 z6 z7 z8 z9 za zb zc zd; obtain ⟨z0, z1, z2, z3, z4, z5, z6, z7, z8, z9, za, zb, zc, zd⟩ := HBf.out.cells; go_wp2_with (refine wpList_store_row rfl 40 (.tmp 2) (.tmp 177) rfl w.heap.size rfl (planC x0 (i : Int) x2 x3 x4 x5 x6 x7 m (.slice A6 ls.length c6) R (.slice Ar vr.length mr) (.slice Ap vp.length mp) (.slice A9 ps.length c9)) rfl _ _ HRZ.out.blk planInfoR rfl (plan_one _ _ _ _ _ _ _ _ _ _ _ _ _ _ _ _ _ _ _ _ _ _) ?_)
            refine bodyPost_ret (v := .tuple #[planV x0 (i : Int) x2 x3 x4 x5 x6 x7 m (.slice A6 ls.length c6) R (.slice Ar vr.length mr) (.slice Ap vp.length mp) (.slice A9 ps.length c9), .int .i64 0]) (by exact rpParse_res w.heap.size 0 (planC x0 (i : Int) x2 x3 x4 x5 x6 x7 m (.slice A6 ls.length c6) R (.slice Ar vr.length mr) (.slice Ap vp.length mp) (.slice A9 ps.length c9)) rfl rfl (setRow_heap _ w.heap.size _ _ _ _ HRZ.out.blk) rfl) rfl ?_; have hkb := kb_row w.heap.size wf (planC x0 (i : Int) x2 x3 x4 x5 x6 x7 m (.slice A6 ls.length c6) R (.slice Ar vr.length mr) (.slice Ap vp.length mp) (.slice A9 ps.length c9)); exact ⟨⟨x0, (i : Int), x2, x3, x4, x5, x6, x7, m, ls, R, xs.map (·.1), xs.map (·.2), ps⟩, 0, _, _, _, _, HPQ.out, rfl, ⟨OwnRows.grid (rows_kb (rows_kb HOB.out HDf.out.kb (Nat.lt_succ_self _)) hkb (by omega)), (HDf.out.grids hkb (by omega)).1, (HDf.out.grids hkb (by omega)).2, Sl.of_own pc_len (own_kb HPf.out hkb (by have := HDw.out; omega))⟩, below_setRow HBW.out (Nat.le_refl _) _⟩
