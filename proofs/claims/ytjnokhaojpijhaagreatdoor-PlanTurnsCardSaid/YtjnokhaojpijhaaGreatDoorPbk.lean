import Derived.Recover
import Derived.Defers
import Derived.Test.YtjnokhaojpijhaaGreatDoorPbd
import Derived.Test.YtjnokhaojpijhaaGreatDoorPbd
import Derived.Test.YtjnokhaojpijhaaGreatDoorPbj
import Derived.Test.YtjnokhaojpijhaaGreatDoorPab
import Derived.Test.YtjnokhaojpijhaaGreatDoorPbi
import Derived.Test.YtjnokhaojpijhaaGreatDoorPbf
/- Layer plan: the program's lines and Text. Written by tools/genplanr7.py. -/
namespace Go.Proofs.YtjnokhaojpijhaaGreatDoor
open Go.RowKit Go.Joins Go.Shelf Go.Proofs
theorem w2_bytes (X Y S : B8) (w : World) (hS : lineT X Y ++ [10] = S) (hl : X.length + Y.length ≤ 100000000) :
    Calls Tryz.prog 107 #[.slice (some ⟨w.heap.size, 0, none⟩) 2 2] (w.alloc (.cells #[.string ⟨X.toArray⟩, .string ⟨Y.toArray⟩] 9)) fun e w' => e = .returned (.string ⟨S.toArray⟩) ∧ Below w.heap.size w w' := by
  subst hS
  have := wLine2 ⟨X.toArray⟩ ⟨Y.toArray⟩ w (by simpa using hl)
  simpa using this
theorem w3_bytes (X Y Z S : B8) (w : World) (hS : lineT X (Y ++ 32 :: Z) ++ [10] = S) (hl : X.length + Y.length + Z.length ≤ 100000000) :
    Calls Tryz.prog 107 #[.slice (some ⟨w.heap.size, 0, none⟩) 3 3] (w.alloc (.cells #[.string ⟨X.toArray⟩, .string ⟨Y.toArray⟩, .string ⟨Z.toArray⟩] 9)) fun e w' => e = .returned (.string ⟨S.toArray⟩) ∧ Below w.heap.size w w' := by
  subst hS
  have := wLine3 ⟨X.toArray⟩ ⟨Y.toArray⟩ ⟨Z.toArray⟩ w (by simpa using hl)
  simpa using this
theorem Write_c {w1 W : World} {B : Nat} {T : B8} (S : B8) (e : w1.heap.size = B) (h : Bld w1 T W) (hb : Below w1.heap.size w1 W) (hlen : T.length + S.length ≤ 140737488355328) :
    Calls Tryz.prog 106 #[.pointer (some ⟨B, 0, none⟩), .string ⟨S.toArray⟩] W fun e w' => e = .returned (.tuple #[.int .i64 (S.length : Nat), .nilIface]) ∧ Bld w1 (T ++ S) w' ∧ Below w1.heap.size w1 w' := by
  subst e
  refine (Builder_WriteString_k w1.heap.size w1.heap.size _ ⟨S.toArray⟩ W h (by rw [Lib.byteCells_length, ba_size]; exact hlen) hb.size).mono ?_
  rintro e w' ⟨rfl, hI, hB, -⟩
  exact ⟨by rw [ba_size], Or.inr (by rw [Lib.byteCells_append]; exact hI), hb.trans hB⟩
theorem String_c {w1 W : World} {B : Nat} {T : B8} (e : w1.heap.size = B) (h : Bld w1 T W) (hb : Below w1.heap.size w1 W) :
    Calls Tryz.prog 114 #[.pointer (some ⟨B, 0, none⟩)] W fun e w' => e = .returned (.string ⟨T.toArray⟩) ∧ Below w1.heap.size w1 w' := by
  subst e
  refine (Tryz.Builder_String_any_k w1.heap.size w1.heap.size _ W h hb.size).mono ?_
  rintro e w' ⟨rfl, -, hB, -⟩
  exact ⟨rfl, hb.trans hB⟩
/-- a right plan's lines are short -/
theorem mut_small {p : Pq} (hp : PRt p) {x : List Int × List Oq} (hx : x ∈ p.rg.zip p.pg) : (numsT 44 x.1).length ≤ 32 ∧ (cPrint x.2).length ≤ 400 ∧ (∀ y ∈ x.1, 0 ≤ y ∧ y ≤ (1000000 : Int)) ∧ x.1.length ≤ 4 ∧ x.2.length ≤ 64 := by
  have hm := hp.muts x hx
  have ho := right_ob hp
  unfold mutF regsF cFits at hm
  simp only [Bool.and_eq_true, List.all_eq_true, decide_eq_true_eq] at hm
  obtain ⟨⟨h1, h2⟩, -, h3⟩ := hm
  have h4 : ∀ y ∈ x.1, 0 ≤ y ∧ y ≤ (1000000 : Int) := fun y hy => by have := h1 y hy; omega
  have h5 := numsT_len 44 x.1 h4
  have h6 := print_len x.2
  exact ⟨by omega, by omega, h4, by omega, h3⟩
theorem mutT_small {p : Pq} (hp : PRt p) {x : List Int × List Oq} (hx : x ∈ p.rg.zip p.pg) : (mutT x).length ≤ 500000 := by
  obtain ⟨h1, h2, -⟩ := mut_small hp hx
  show (mutW ++ 32 :: (numsT 44 x.1 ++ 32 :: cPrint x.2)).length ≤ _
  have : mutW.length = 7 := rfl
  rw [List.length_append, List.length_cons, List.length_append, List.length_cons]
  omega
theorem nums_in {p : Pq} (hp : PRt p) : ∀ y ∈ pNums p, 0 ≤ y ∧ y ≤ (1000000 : Int) := by
  intro y hy
  have h1 := hp.rng
  have h2 := hp.most
  unfold pRng at h1
  simp only [pNums, List.mem_cons, List.not_mem_nil, or_false] at hy
  rcases hy with rfl | rfl | rfl | rfl | rfl | rfl | rfl | rfl <;> omega
theorem head_small {p : Pq} (hp : PRt p) : ∀ x ∈ headT p, x.length ≤ 500000 := by
  intro x hx
  have h1 := numsT_len 32 (pNums p) (nums_in hp)
  have h2 := hT_small p.sl p.ob
  have h3 := st_small p.ro
  have h4 : (pNums p).length = 8 := rfl
  have e1 : engW.length = 6 := rfl
  have e2 : heapW.length = 4 := rfl
  have e3 : rootsW.length = 5 := rfl
  simp only [headT, List.mem_cons, List.not_mem_nil, or_false] at hx
  rcases hx with rfl | rfl | rfl <;> (unfold lineT; rw [List.length_append, List.length_cons]; omega)
theorem pre_len {p : Pq} (hp : PRt p) (i : Nat) (hi : i ≤ (p.rg.zip p.pg).length) : (fedT (headT p ++ ((p.rg.zip p.pg).take i).map mutT)).length ≤ 20000000 := by
  have h := fedT_len 500000 (headT p ++ ((p.rg.zip p.pg).take i).map mutT) (by
    intro x hx
    rcases List.mem_append.1 hx with h | h
    · exact head_small hp x h
    · obtain ⟨y, hy, rfl⟩ := List.mem_map.1 h
      exact mutT_small hp (List.mem_of_mem_take hy))
  have hz := zip_len hp
  have hr := hp.rng
  unfold pRng at hr
  have : (headT p).length = 3 := rfl
  rw [List.length_append, List.length_map, List.length_take, this] at h
  have : min i (p.rg.zip p.pg).length ≤ 16 := by omega
  have : (3 + min i (p.rg.zip p.pg).length) * (500000 + 1) ≤ 19 * 500001 := Nat.mul_le_mul (by omega) (by omega)
  omega
theorem ints_eight (w : World) (a b c d e f g h : Int) (t : TypeId) : ∃ w1, w.alloc (.cells #[.int .i64 a, .int .i64 b, .int .i64 c, .int .i64 d, .int .i64 e, .int .i64 f, .int .i64 g, .int .i64 h] t) = w1 ∧ Below w.heap.size w w1 ∧ Ints w1 (.slice (some ⟨w.heap.size, 0, none⟩) 8 8) [a, b, c, d, e, f, g, h] := by
  refine ⟨_, rfl, (Below.refl _ _).alloc (Nat.le_refl _) _, _, 8, rfl, by simp, by simp [maxLen], fun _ => ⟨w.heap.size, 0, rfl, by simp, ?_⟩⟩
  intro i p hp j u hu
  have hcell := cell_of_block (heap_alloc_new w (.cells #[.int .i64 a, .int .i64 b, .int .i64 c, .int .i64 d, .int .i64 e, .int .i64 f, .int .i64 g, .int .i64 h] t)) i
  have hj : j = 0 := by
    have := (List.getElem?_eq_some_iff.1 hu).1
    simp [ic] at this; omega
  subst hj
  have hu := Option.some.inj (show some (Value.int .i64 p) = some u from hu)
  subst hu
  have hi : i < 8 := (List.getElem?_eq_some_iff.1 hp).1
  have e0 : 0 + i * 1 + 0 = i := by omega
  rw [e0, hcell]
  rcases (by omega : i = 0 ∨ i = 1 ∨ i = 2 ∨ i = 3 ∨ i = 4 ∨ i = 5 ∨ i = 6 ∨ i = 7) with rfl | rfl | rfl | rfl | rfl | rfl | rfl | rfl <;>
    (have hp := Option.some.inj hp; subst hp; rfl)
set_option maxRecDepth 100000 in
set_option maxHeartbeats 16000000 in
theorem pLines_any (a b c d e f g h n : Int) (ob : Value) (s : Nat) (rg pg pk : Value) (lo lr : Rws) (lp : List (List Oq)) (lk : List PP) (w : World) (hs : s < 18446744073709551616) (hP : PlanR w ob rg pg pk (⟨a, b, c, d, e, f, g, h, n, lo, s, lr, lp, lk⟩ : Pq)) (hp : PRt (⟨a, b, c, d, e, f, g, h, n, lo, s, lr, lp, lk⟩ : Pq)) (hE : EnvP w) :
    Calls Tryz.prog 75 #[planV a b c d e f g h n ob s rg pg pk] w fun x w' => x = .returned (.string ⟨(fedT (linesT (⟨a, b, c, d, e, f, g, h, n, lo, s, lr, lp, lk⟩ : Pq))).toArray⟩) ∧ Below w.heap.size w w' := by
  obtain ⟨Ar, mr, rfl, hmr1, hmr2⟩ := hP.rg.form
  obtain ⟨Ap, mp, rfl, hmp1, hmp2⟩ := hP.pg.form
  unfold maxLen at hmr2 hmp2
  obtain ⟨w1, e1, hb1, hs1, X⟩ := bp_new w a b c d e f g h n ob s (.slice Ar lr.length mr) (.slice Ap lp.length mp) pk 30
  obtain ⟨w2, e2, hb2⟩ : ∃ w2, w1.alloc (.cells #[.pointer none, .slice none 0 0] 162) = w2 ∧ Below w1.heap.size w1 w2 := ⟨_, rfl, cbal _ _⟩
  have HI : Hid (Bld w1 [] w2) := hide (by rw [← e2]; exact Lib.IsBuilderF.of (Lib.fresh_isBuilder _ _ w1))
  rw [← e1] at e2
  have HE1 := hide e2
  rw [e1] at e2
  have HX := hide X
  have HP := hide (hP.below hb1)
  have HEn := hide (hE.below hb1)
  have HB1 := hide hb1
  have HR := hide hp
  have HS := hide hs
  have HBC := hide hb2
  have HS1 := hide hs1
  have HM := hide (show ∀ y ∈ [a, b, c, d, e, f, g, h], 0 ≤ y ∧ y ≤ (1000000 : Int) from nums_in hp)
  obtain ⟨S1, hS1⟩ : ∃ S, lineT [101, 110, 103, 105, 110, 101] (numsT 32 [a, b, c, d, e, f, g, h]) ++ [10] = S := ⟨_, rfl⟩
  obtain ⟨S2, hS2⟩ : ∃ S, lineT [104, 101, 97, 112] (hTextF n lo) ++ [10] = S := ⟨_, rfl⟩
  obtain ⟨S3, hS3⟩ : ∃ S, lineT [114, 111, 111, 116, 115] (textF s) ++ [10] = S := ⟨_, rfl⟩
  obtain ⟨S5, hS5⟩ : ∃ S, lineT [112, 105, 99, 107, 115] (printL lk) ++ [10] = S := ⟨_, rfl⟩
  have G1 := hide (show (numsT 32 [a, b, c, d, e, f, g, h]).length ≤ 64 from numsT_len 32 (pNums (⟨a, b, c, d, e, f, g, h, n, lo, s, lr, lp, lk⟩ : Pq)) (nums_in hp))
  have G2 := hide (hT_small n lo)
  have G3 := hide (st_small s)
  have G5 := hide (show (printL lk).length ≤ 400000 by have := printL_le lk; have := hp.len; dsimp only at this; omega)
  have L1 := hide (show S1.length ≤ 500001 by rw [← hS1]; have := G1.out; unfold lineT; simp only [List.length_append, List.length_cons, List.length_nil]; omega)
  have L2 := hide (show S2.length ≤ 500001 by rw [← hS2]; have := G2.out; unfold lineT; simp only [List.length_append, List.length_cons, List.length_nil]; omega)
  have L3 := hide (show S3.length ≤ 500001 by rw [← hS3]; have := G3.out; unfold lineT; simp only [List.length_append, List.length_cons, List.length_nil]; omega)
  have L5 := hide (show S5.length ≤ 500001 by rw [← hS5]; have := G5.out; unfold lineT; simp only [List.length_append, List.length_cons, List.length_nil]; omega)
  have F3 := hide (show S1 ++ S2 ++ S3 = fedT (headT (⟨a, b, c, d, e, f, g, h, n, lo, s, lr, lp, lk⟩ : Pq)) by rw [← hS1, ← hS2, ← hS3]; show _ = _ ++ (_ ++ (_ ++ [])); simp [engW, heapW, rootsW, pNums])
  have F5 := hide (show fedT (headT (⟨a, b, c, d, e, f, g, h, n, lo, s, lr, lp, lk⟩ : Pq) ++ ((lr.zip lp).take (lr.zip lp).length).map mutT) ++ S5 = fedT (linesT (⟨a, b, c, d, e, f, g, h, n, lo, s, lr, lp, lk⟩ : Pq)) by rw [← hS5, List.take_length, ← fedT_one, ← fedT_append, List.append_assoc]; rfl)
  have hlen : lr.length = lp.length := by have := hp.lens; dsimp only at this; omega
  have HLN := hide hlen
  have Q1 := hide hS1
  have Q2 := hide hS2
  have Q3 := hide hS3
  have Q5 := hide hS5
  clear e1 e2 X hb1 hb2 hs1 hs hP hp hE hS1 hS2 hS3 hS5 hlen
  obtain ⟨x0, x1, x2, x3, x4, x5, x6, x7, x8, x9, xa, xb, xc, xd⟩ := (HX.out.below HBC.out).cells
  unfold planV
  go_enter Tryz.func75, Tryz.ntmps75
  go_upto_region 2 with (fail)
  rw [HE1.out]
  go_wp2_with fail
  (with_reducible refine (numbersOf_any a b c d e f g h n ob s (.slice Ar lr.length mr) (.slice Ap lp.length mp) pk _).mono ?_)
  rintro x w3 ⟨rfl, hb⟩
  have HI := hide (builder_below HI.out hb)
  have HBC := hide (bcall HBC.out hb)
  clear hb
  clear x0 x1 x2 x3 x4 x5 x6 x7 x8 x9 xa xb xc xd
  obtain ⟨x0, x1, x2, x3, x4, x5, x6, x7, x8, x9, xa, xb, xc, xd⟩ := (HX.out.below HBC.out).cells
  obtain ⟨w4, e4, hb4, HN⟩ := ints_eight w3 a b c d e f g h 99
  have HE4 := hide e4
  have HNN := hide HN
  have HI := hide (builder_below HI.out hb4)
  have HBC := hide (bcall HBC.out hb4)
  clear e4 hb4 HN
  go_upto_region 3 with (fail)
  rw [HE4.out]
  clear x0 x1 x2 x3 x4 x5 x6 x7 x8 x9 xa xb xc xd
  obtain ⟨x0, x1, x2, x3, x4, x5, x6, x7, x8, x9, xa, xb, xc, xd⟩ := (HX.out.below HBC.out).cells
  go_wp2_with fail
  (with_reducible refine (Digits_int64 32 _ [a, b, c, d, e, f, g, h] _ HNN.out HM.out (by simp) (HEn.out.below HBC.out)).mono ?_)
  rintro x w5 ⟨rfl, hb⟩
  have HI := hide (builder_below HI.out hb)
  have HBC := hide (bcall HBC.out hb)
  clear hb
  clear x0 x1 x2 x3 x4 x5 x6 x7 x8 x9 xa xb xc xd
  obtain ⟨x0, x1, x2, x3, x4, x5, x6, x7, x8, x9, xa, xb, xc, xd⟩ := (HX.out.below HBC.out).cells
  go_wp2_with fail
  (with_reducible refine (w2_bytes [101, 110, 103, 105, 110, 101] (numsT 32 [a, b, c, d, e, f, g, h]) S1 _ Q1.out (by have := G1.out; simp only [List.length_cons, List.length_nil]; omega)).mono ?_)
  rintro x w6 ⟨rfl, hb⟩
  have HI := hide (builder_below HI.out hb)
  have HBC := hide (bcall HBC.out hb)
  clear hb
  clear x0 x1 x2 x3 x4 x5 x6 x7 x8 x9 xa xb xc xd
  obtain ⟨x0, x1, x2, x3, x4, x5, x6, x7, x8, x9, xa, xb, xc, xd⟩ := (HX.out.below HBC.out).cells
  go_wp2_with fail
  (with_reducible refine (Write_c S1 HS1.out HI.out HBC.out (by have := L1.out; simp only [List.length_nil]; omega)).mono ?_)
  rintro x w7 ⟨rfl, hI, hB⟩
  have HI := hide hI
  have HBC := hide hB
  clear hI hB
  clear x0 x1 x2 x3 x4 x5 x6 x7 x8 x9 xa xb xc xd
  obtain ⟨x0, x1, x2, x3, x4, x5, x6, x7, x8, x9, xa, xb, xc, xd⟩ := (HX.out.below HBC.out).cells
  go_wp2_with fail
  (with_reducible refine (Text_anyHp n ob lo _ (HP.out.ob.below HBC.out)).mono ?_)
  rintro x w8 ⟨rfl, hb⟩
  have HI := hide (builder_below HI.out hb)
  have HBC := hide (bcall HBC.out hb)
  clear hb
  clear x0 x1 x2 x3 x4 x5 x6 x7 x8 x9 xa xb xc xd
  obtain ⟨x0, x1, x2, x3, x4, x5, x6, x7, x8, x9, xa, xb, xc, xd⟩ := (HX.out.below HBC.out).cells
  go_wp2_with fail
  (with_reducible refine (w2_bytes [104, 101, 97, 112] (hTextF n lo) S2 _ Q2.out (by have := G2.out; simp only [List.length_cons, List.length_nil]; omega)).mono ?_)
  rintro x w9 ⟨rfl, hb⟩
  have HI := hide (builder_below HI.out hb)
  have HBC := hide (bcall HBC.out hb)
  clear hb
  clear x0 x1 x2 x3 x4 x5 x6 x7 x8 x9 xa xb xc xd
  obtain ⟨x0, x1, x2, x3, x4, x5, x6, x7, x8, x9, xa, xb, xc, xd⟩ := (HX.out.below HBC.out).cells
  go_wp2_with fail
  (with_reducible refine (Write_c S2 HS1.out HI.out HBC.out (by have := L1.out; have := L2.out; simp only [List.length_nil, List.length_append]; omega)).mono ?_)
  rintro x w10 ⟨rfl, hI, hB⟩
  have HI := hide hI
  have HBC := hide hB
  clear hI hB
  clear x0 x1 x2 x3 x4 x5 x6 x7 x8 x9 xa xb xc xd
  obtain ⟨x0, x1, x2, x3, x4, x5, x6, x7, x8, x9, xa, xb, xc, xd⟩ := (HX.out.below HBC.out).cells
  go_wp2_with fail
  (with_reducible refine (Text_anySt s HS.out _ (HEn.out.below HBC.out).e).mono ?_)
  rintro x w11 ⟨rfl, hb⟩
  have HI := hide (builder_below HI.out hb)
  have HBC := hide (bcall HBC.out hb)
  clear hb
  clear x0 x1 x2 x3 x4 x5 x6 x7 x8 x9 xa xb xc xd
  obtain ⟨x0, x1, x2, x3, x4, x5, x6, x7, x8, x9, xa, xb, xc, xd⟩ := (HX.out.below HBC.out).cells
  go_wp2_with fail
  (with_reducible refine (w2_bytes [114, 111, 111, 116, 115] (textF s) S3 _ Q3.out (by have := G3.out; simp only [List.length_cons, List.length_nil]; omega)).mono ?_)
  rintro x w12 ⟨rfl, hb⟩
  have HI := hide (builder_below HI.out hb)
  have HBC := hide (bcall HBC.out hb)
  clear hb
  clear x0 x1 x2 x3 x4 x5 x6 x7 x8 x9 xa xb xc xd
  obtain ⟨x0, x1, x2, x3, x4, x5, x6, x7, x8, x9, xa, xb, xc, xd⟩ := (HX.out.below HBC.out).cells
  go_wp2_with fail
  (with_reducible refine (Write_c S3 HS1.out HI.out HBC.out (by have := L1.out; have := L2.out; have := L3.out; simp only [List.length_nil, List.length_append]; omega)).mono ?_)
  rintro x w13 ⟨rfl, hI, hB⟩
  have HI := hide hI
  have HBC := hide hB
  clear hI hB
  clear x0 x1 x2 x3 x4 x5 x6 x7 x8 x9 xa xb xc xd
  obtain ⟨x0, x1, x2, x3, x4, x5, x6, x7, x8, x9, xa, xb, xc, xd⟩ := (HX.out.below HBC.out).cells
  go_upto_region 7 with (fail)
  skip
  have HI : Hid (Bld w1 (fedT (headT (⟨a, b, c, d, e, f, g, h, n, lo, s, lr, lp, lk⟩ : Pq) ++ ((lr.zip lp).take 0).map mutT)) w13) := hide (by have q := HI.out; rw [List.nil_append, F3.out] at q; rw [List.take_zero, List.map_nil, List.append_nil]; exact q)
  clear x0 x1 x2 x3 x4 x5 x6 x7 x8 x9 xa xb xc xd
  go_loopw [5, 6, 29] (fun _ _ iv wr => ∃ i : Nat, i ≤ lr.length ∧ iv = .int .i64 i ∧ Hid (Below w1.heap.size w1 wr) ∧ Hid (Bld w1 (fedT (headT (⟨a, b, c, d, e, f, g, h, n, lo, s, lr, lp, lk⟩ : Pq) ++ ((lr.zip lp).take i).map mutT)) wr)) (fun _ _ iv _ => lr.length - (Go.RowKit.intOf iv).toNat)
  case atStart => exact ⟨0, Nat.zero_le _, rfl, HBC, HI⟩
  case round =>
    clear HI HBC
    obtain ⟨i, hi, rfl, HBC, HI⟩ := hrel
    by_cases hlt : i < lr.length
    · have hlp : i < lp.length := by have := HLN.out; omega
      have hz : i < (lr.zip lp).length := by rw [List.length_zip]; omega
      obtain ⟨br, orr, ur, rfl, -, cr, rr⟩ := grid_at HP.out.rg hlt
      obtain ⟨bq, oq_, uq, rfl, -, cq, rq⟩ := gridO_at HP.out.pg hlp
      obtain ⟨m1, m2, m3, m4, m5⟩ := mut_small HR.out (List.getElem_mem hz)
      have hT := (show ((lr.zip lp).take (i + 1)).map mutT = ((lr.zip lp).take i).map mutT ++ [mutT (lr[i], lp[i])] by rw [List.take_succ_eq_append_getElem hz, List.map_append, List.getElem_zip]; rfl)
      have hPL := (show (fedT (headT (⟨a, b, c, d, e, f, g, h, n, lo, s, lr, lp, lk⟩ : Pq) ++ ((lr.zip lp).take i).map mutT)).length ≤ 20000000 from pre_len HR.out i (by dsimp only; omega))
      obtain ⟨T, hT0⟩ : ∃ T, fedT (headT (⟨a, b, c, d, e, f, g, h, n, lo, s, lr, lp, lk⟩ : Pq) ++ ((lr.zip lp).take i).map mutT) = T := ⟨_, rfl⟩
      have HI : Hid (Bld w1 T wr) := hide (by rw [← hT0]; exact HI.out)
      rw [hT0] at hPL
      have HPL := hide hPL
      rw [List.getElem_zip] at m1 m2 m3 m4 m5
      dsimp only at m1 m2 m3 m4 m5
      generalize lr[i] = x at *
      generalize lp[i] = y at *
      obtain ⟨S4, hS4⟩ : ∃ S, lineT [109, 117, 116, 97, 116, 111, 114] (numsT 44 x ++ 32 :: cPrint y) ++ [10] = S := ⟨_, rfl⟩
      have L4 := hide (show S4.length ≤ 500001 by rw [← hS4]; unfold lineT; simp only [List.length_append, List.length_cons, List.length_nil]; omega)
      have HN := hide (show T ++ S4 = fedT (headT (⟨a, b, c, d, e, f, g, h, n, lo, s, lr, lp, lk⟩ : Pq) ++ ((lr.zip lp).take (i + 1)).map mutT) by rw [hT, ← List.append_assoc, fedT_append (_ ++ _), fedT_one, ← hS4, hT0]; rfl)
      have Q4 := hide hS4
      have M1 := hide m1
      have M2 := hide m2
      have M3 := hide m3
      have M4 := hide m4
      have M5 := hide m5
      have RR := hide rr
      have RQ := hide rq
      have HK := hide (show ∀ w', Below w1.heap.size w1 w' → w'.cell? ⟨w.heap.size, 12, none⟩ = some (.slice (some ⟨bq, oq_, none⟩) lp.length mp) ∧ w'.cell? ⟨bq, oq_ + i, none⟩ = some uq from fun w' h => ⟨(HX.out.below h).cells.2.2.2.2.2.2.2.2.2.2.2.2.1, keepcHp h cq⟩)
      have cr := keepcHp HBC.out cr
      clear hS4 hT hT0 hPL m1 m2 m3 m4 m5 rr rq hz cq
      go_upto_region 9 with (fail)
      have HI := hide (builder_below HI.out (belowD (Below.refl wr.heap.size wr)))
      have HBC := hide (belowD HBC.out)
      clear cr
      refine wp_region_held_drew (S := fun w' => w'.cell? ⟨w.heap.size, 12, none⟩ = some (.slice (some ⟨bq, oq_, none⟩) lp.length mp) ∧ w'.cell? ⟨bq, oq_ + i, none⟩ = some uq) (by kernel_rfl) ?_ (fun hHeld => ?_)
      · exact (by first | exact HK.out _ HBC.out | exact HK.out _ (HBC.out.alloc HBC.out.size _))
      refine tkH 0 ⟨some 34, .move (.tmp 6), 63, "writer.go:49", #[], none⟩ (h := ?_)
      refine tkH 2 ⟨some 36, .fieldAddr 30 (.tmp 1) 11, 0, "writer.go:49", #[], none⟩ (h := ?_)
      refine tkH 3 ⟨some 37, .load 27 (.tmp 36), 27, "writer.go:49", #[⟨2, .data⟩], none⟩ (h := ?_)
      refine tkH 4 ⟨some 38, .move (.tmp 5), 3, "writer.go:49", #[], none⟩ (h := ?_)
      refine tkH 5 ⟨some 39, .indexAddr 27 (.tmp 37) (.tmp 38), 0, "writer.go:49", #[⟨3, .data⟩, ⟨4, .data⟩], none⟩ (h := ?_)
      refine tkH 6 ⟨some 40, .load 97 (.tmp 39), 97, "writer.go:49", #[⟨5, .data⟩], none⟩ (h := ?_)
      refine wpAnyH_ready (rs := [1]) (by kernel_rfl) (by simp) ?_
      refine AllReadyH.cons rfl (fun K hK => ?_) AllReadyH.nil
      go_simp
      go_at_call 111
      (with_reducible refine (Digits_int 44 ur x _ (RR.out.below HBC.out) M3.out (by have := M4.out; omega) (HEn.out.below HBC.out)).mono ?_)
      rintro z w20 ⟨rfl, hb⟩
      have HI := hide (builder_below HI.out hb)
      have HBC := hide (bcall HBC.out hb)
      clear hb
      (try go_simp)
      refine hK.out _ _ (by first | exact HK.out _ HBC.out | exact HK.out _ (HBC.out.alloc HBC.out.size _)) (fun hHeld => ?_)
      (try simp only [Act.put, List.setIfInBounds_toArray, List.set_cons_zero, List.set_cons_succ])
      refine wpAnyH_ready (rs := [7]) (by kernel_rfl) (by simp) ?_
      refine AllReadyH.cons rfl (fun K hK => ?_) AllReadyH.nil
      go_simp
      go_at_call 112
      (with_reducible refine (Print_anyCd uq y _ (RQ.out.below HBC.out) (by have := M5.out; omega)).mono ?_)
      rintro z w21 ⟨rfl, hb⟩
      have HI := hide (builder_below HI.out hb)
      have HBC := hide (bcall HBC.out hb)
      clear hb
      (try go_simp)
      refine hK.out _ _ (by first | exact HK.out _ HBC.out | exact HK.out _ (HBC.out.alloc HBC.out.size _)) (fun hHeld => ?_)
      (try simp only [Act.put, List.setIfInBounds_toArray, List.set_cons_zero, List.set_cons_succ])
      refine wpAnyH_ready (rs := [8]) (by kernel_rfl) (by simp) ?_
      refine AllReadyH.cons rfl (fun K hK => ?_) AllReadyH.nil
      go_simp
      (try go_simp)
      refine hK.out _ _ (by first | exact HK.out _ HBC.out | exact HK.out _ (HBC.out.alloc HBC.out.size _)) (fun hHeld => ?_)
      (try simp only [Act.put, List.setIfInBounds_toArray, List.set_cons_zero, List.set_cons_succ])
      refine wpAnyH_ready (rs := [9]) (by kernel_rfl) (by simp) ?_
      refine AllReadyH.cons rfl (fun K hK => ?_) AllReadyH.nil
      go_simp
      go_at_call 107
      (with_reducible refine (w3_bytes [109, 117, 116, 97, 116, 111, 114] (numsT 44 x) (cPrint y) S4 _ Q4.out (by have := M1.out; have := M2.out; simp only [List.length_cons, List.length_nil]; omega)).mono ?_)
      rintro z w22 ⟨rfl, hb⟩
      have HI := hide (builder_below HI.out hb)
      have HBC := hide (bcall HBC.out hb)
      clear hb
      (try go_simp)
      refine hK.out _ _ (by first | exact HK.out _ HBC.out | exact HK.out _ (HBC.out.alloc HBC.out.size _)) (fun hHeld => ?_)
      (try simp only [Act.put, List.setIfInBounds_toArray, List.set_cons_zero, List.set_cons_succ])
      refine wpAnyH_ready (rs := [10]) (by kernel_rfl) (by simp) ?_
      refine AllReadyH.cons rfl (fun K hK => ?_) AllReadyH.nil
      go_simp
      go_at_call 106
      (with_reducible refine (Write_c S4 HS1.out HI.out HBC.out (by have := L4.out; have := HPL.out; omega)).mono ?_)
      rintro z w23 ⟨rfl, hI, hB⟩
      have HBC := hide hB
      (try go_simp)
      refine hK.out _ _ (by first | exact HK.out _ HBC.out | exact HK.out _ (HBC.out.alloc HBC.out.size _)) (fun hHeld => ?_)
      (try simp only [Act.put, List.setIfInBounds_toArray, List.set_cons_zero, List.set_cons_succ])
      refine wpAnyH_done (by kernel_rfl) ?_ _
      go_wp2
      go_roundw
      case rel => exact ⟨i + 1, by omega, by go_num, hide hB, hide (by rw [← HN.out]; exact hI)⟩
      case measure => simp [Go.RowKit.intOf]; omega
    · obtain ⟨T, hT0⟩ : ∃ T, fedT (headT (⟨a, b, c, d, e, f, g, h, n, lo, s, lr, lp, lk⟩ : Pq) ++ ((lr.zip lp).take (lr.zip lp).length).map mutT) = T := ⟨_, rfl⟩
      have HI : Hid (Bld w1 T wr) := hide (by have q := HI.out; rwa [List.take_of_length_le (by rw [List.length_zip]; omega), ← List.take_length (l := lr.zip lp), hT0] at q)
      have HPL := hide (show T.length ≤ 20000000 by rw [← hT0]; exact pre_len HR.out (lr.zip lp).length (Nat.le_refl _))
      have F5 := hide (show T ++ S5 = fedT (linesT (⟨a, b, c, d, e, f, g, h, n, lo, s, lr, lp, lk⟩ : Pq)) by rw [← hT0]; exact F5.out)
      clear hT0
      obtain ⟨x0, x1, x2, x3, x4, x5, x6, x7, x8, x9, xa, xb, xc, xd⟩ := (HX.out.below HBC.out).cells
      go_wp2_with fail
      (with_reducible refine (Print_anyPk pk lk _ (HP.out.pk.below HBC.out) (by have := HR.out.len; dsimp only at this; omega)).mono ?_)
      rintro x w14 ⟨rfl, hb⟩
      have HI := hide (builder_below HI.out hb)
      have HBC := hide (bcall HBC.out hb)
      clear hb
      clear x0 x1 x2 x3 x4 x5 x6 x7 x8 x9 xa xb xc xd
      obtain ⟨x0, x1, x2, x3, x4, x5, x6, x7, x8, x9, xa, xb, xc, xd⟩ := (HX.out.below HBC.out).cells
      go_wp2_with fail
      (with_reducible refine (w2_bytes [112, 105, 99, 107, 115] (printL lk) S5 _ Q5.out (by have := G5.out; simp only [List.length_cons, List.length_nil]; omega)).mono ?_)
      rintro x w15 ⟨rfl, hb⟩
      have HI := hide (builder_below HI.out hb)
      have HBC := hide (bcall HBC.out hb)
      clear hb
      clear x0 x1 x2 x3 x4 x5 x6 x7 x8 x9 xa xb xc xd
      obtain ⟨x0, x1, x2, x3, x4, x5, x6, x7, x8, x9, xa, xb, xc, xd⟩ := (HX.out.below HBC.out).cells
      go_wp2_with fail
      (with_reducible refine (Write_c S5 HS1.out HI.out HBC.out (by have := HPL.out; have := L5.out; omega)).mono ?_)
      rintro x w16 ⟨rfl, hI, hB⟩
      have HI := hide hI
      have HBC := hide hB
      clear hI hB
      clear x0 x1 x2 x3 x4 x5 x6 x7 x8 x9 xa xb xc xd
      go_wp2_with fail
      (with_reducible refine (String_c HS1.out HI.out HBC.out).mono ?_)
      rintro x w30 ⟨rfl, hb⟩
      go_wp2
      go_ret
      exact ⟨cret (by rw [F5.out]), bcall HB1.out hb⟩
set_option maxRecDepth 100000 in
set_option maxHeartbeats 4000000 in
theorem pText_any (a b c d e f g h n : Int) (ob : Value) (s : Nat) (rg pg pk : Value) (lo lr : Rws) (lp : List (List Oq)) (lk : List PP) (w : World) (hs : s < 18446744073709551616) (hP : PlanR w ob rg pg pk (⟨a, b, c, d, e, f, g, h, n, lo, s, lr, lp, lk⟩ : Pq)) (hE : EnvP w) (T : B8) (hT : pText (⟨a, b, c, d, e, f, g, h, n, lo, s, lr, lp, lk⟩ : Pq) = T) :
    Calls Tryz.prog 26 #[planV a b c d e f g h n ob s rg pg pk] w fun x w' => x = .returned (.string ⟨T.toArray⟩) ∧ Below w.heap.size w w' := by
  obtain ⟨w1, e1, hb1, hs1, X⟩ := bp_new w a b c d e f g h n ob s rg pg pk 30
  have HE := hide e1
  have HX := hide X
  have HP := hide (hP.below hb1)
  have HEn := hide (hE.below hb1)
  have HB1 := hide hb1
  have HS := hide hs
  have HT := hide hT
  obtain ⟨x0, x1, x2, x3, x4, x5, x6, x7, x8, x9, xa, xb, xc, xd⟩ := X.cells
  clear e1 X hb1 hs1 hs hP hE hT
  cases hr : pRight (⟨a, b, c, d, e, f, g, h, n, lo, s, lr, lp, lk⟩ : Pq)
  · have HR := hide hr
    have HF := hide (show T = [] by rw [← HT.out]; unfold pText; rw [if_neg (by rw [hr]; exact Bool.noConfusion)])
    clear hr
    unfold planV
    go_enter Tryz.func26, Tryz.ntmps26
    go_wp2_with fail
    rw [HE.out]
    (with_reducible refine (pRight_any a b c d e f g h n ob s rg pg pk lo lr lp lk _ HS.out HP.out).mono ?_)
    rintro x w2 ⟨rfl, hb2⟩
    rw [HR.out]
    clear x0 x1 x2 x3 x4 x5 x6 x7 x8 x9 xa xb xc xd
    go_wp2
    go_ret
    exact ⟨cret (by rw [HF.out]), bcall HB1.out hb2⟩
  have HF := hide (show T = fedT (linesT (⟨a, b, c, d, e, f, g, h, n, lo, s, lr, lp, lk⟩ : Pq)) by rw [← HT.out]; unfold pText; rw [if_pos hr])
  have HR := hide hr
  clear hr
  unfold planV
  go_enter Tryz.func26, Tryz.ntmps26
  go_wp2_with fail
  rw [HE.out]
  (with_reducible refine (pRight_any a b c d e f g h n ob s rg pg pk lo lr lp lk _ HS.out HP.out).mono ?_)
  rintro x w2 ⟨rfl, hb2⟩
  rw [HR.out]
  clear x0 x1 x2 x3 x4 x5 x6 x7 x8 x9 xa xb xc xd
  obtain ⟨x0, x1, x2, x3, x4, x5, x6, x7, x8, x9, xa, xb, xc, xd⟩ := (HX.out.below hb2).cells
  have HB2 := hide (bcall HB1.out hb2)
  have HP2 := hide (HP.out.below hb2)
  have HE2 := hide (HEn.out.below hb2)
  clear hb2
  go_wp2_with fail
  (with_reducible refine (pLines_any a b c d e f g h n ob s rg pg pk lo lr lp lk _ HS.out HP2.out (pRight_iff.1 HR.out) HE2.out).mono ?_)
  rintro x w3 ⟨rfl, hb3⟩
  go_wp2
  go_ret
  exact ⟨cret (by rw [HF.out]), bcall HB2.out hb3⟩
end Go.Proofs.YtjnokhaojpijhaaGreatDoor
/- Layer plan: Parse: what is caught, and what is not. -/
namespace Go.Proofs.YtjnokhaojpijhaaGreatDoor
open Go.RowKit Go.Shelf Go.Proofs Go.Joins
abbrev zeroC : Array Value := planC 0 0 0 0 0 0 0 0 0 (.slice none 0 0) 0 (.slice none 0 0) (.slice none 0 0) (.slice none 0 0)
/-- the box T of a plan that is nothing -/
def ZeroAt (T : Nat) (w : World) : Prop := w.heap[T]? = some (.cells zeroC 30)
theorem ZeroAt.set {T i : Nat} {v : Value} {w : World} (h : ZeroAt T w) (e : zeroC.setIfInBounds i v = zeroC) : ZeroAt T (w.setCell ⟨T, i, none⟩ v) := by
  unfold ZeroAt; rw [block_setCell h v, e]
theorem ZeroAt.other {T E : Nat} {v : Value} {w : World} (h : ZeroAt T w) (e : T ≠ E) : ZeroAt T (w.setCell ⟨E, 0, none⟩ v) := (Below.heap_setCell w ⟨E, 0, none⟩ v T e).trans h
theorem as_errno (k : Int) (w : World) : (Instr.typeAssert (.iface 33 (.int .i64 k)) 20 33 true).run Tryz.prog w = .ok (.tuple #[.int .i64 k, .bool true]) w := by kernel_rfl
theorem as_nothing (w : World) : (Instr.typeAssert .nilIface 20 33 true).run Tryz.prog w = .ok (.tuple #[.int .i64 0, .bool false]) w := by kernel_rfl
set_option maxRecDepth 100000 in
set_option maxHeartbeats 4000000 in
theorem pl_idle (T E : Nat) (w : World) :
    CallsD Tryz.prog 35 #[.pointer (some ⟨T, 0, none⟩), .pointer (some ⟨E, 0, none⟩)] .returning w fun e u' w' => e = .returned (.tuple #[]) ∧ u' = .returning ∧ w' = w := by
  have ta := as_nothing
  refine callsD_of_wpS Tryz.func35 rfl fun c₀ cs hu => ?_
  apply wpS_seq
  apply wpS_region
  simp [wpOpsS, go_sem, recoverD, hu, Tryz.ntmps35, Exit.thenS, ta]
  apply wpS_seq
  apply wpS_region
  simp [wpOpsS, go_sem, Exit.thenS]
  refine wpS_cond (t := false) (by simp [Act.eval, Array.replicate]) ?_
  simp only [Bool.false_eq_true, if_false]
  refine wpS_of_wp (wp_skip ?_)
  cases c₀
  simp_all [bodyPostS, results, Tryz.results35]
set_option maxRecDepth 100000 in
set_option maxHeartbeats 4000000 in
theorem pl_panicking (T E : Nat) (c : Value) (k : Int) (w : World) (hT : ZeroAt T w) (h2 : w.cell? ⟨E, 0, none⟩ = some c) (f2 : w.frozen? ⟨E, 0, none⟩ = false) (hTE : T ≠ E) (hET : E ≠ T) :
    CallsD Tryz.prog 35 #[.pointer (some ⟨T, 0, none⟩), .pointer (some ⟨E, 0, none⟩)] (.panicking [{ v := .iface 33 (.int .i64 k), recovered := false }]) w fun e u' w' =>
      e = .returned (.tuple #[]) ∧ u' = .panicking [{ v := .iface 33 (.int .i64 k), recovered := true }] ∧ ZeroAt T w' ∧ w'.cell? ⟨E, 0, none⟩ = some (.int .i64 k) ∧ ∀ n, n ≤ T → n ≤ E → Below n w w' := by
  have ta := as_errno k
  have y0 := cell_of_block hT 0
  have f10 := unfrozen_of_block hT 0
  have y1 := cell_of_block hT 1
  have f11 := unfrozen_of_block hT 1
  have y2 := cell_of_block hT 2
  have f12 := unfrozen_of_block hT 2
  have y3 := cell_of_block hT 3
  have f13 := unfrozen_of_block hT 3
  have y4 := cell_of_block hT 4
  have f14 := unfrozen_of_block hT 4
  have y5 := cell_of_block hT 5
  have f15 := unfrozen_of_block hT 5
  have y6 := cell_of_block hT 6
  have f16 := unfrozen_of_block hT 6
  have y7 := cell_of_block hT 7
  have f17 := unfrozen_of_block hT 7
  have y8 := cell_of_block hT 8
  have f18 := unfrozen_of_block hT 8
  have y9 := cell_of_block hT 9
  have f19 := unfrozen_of_block hT 9
  have y10 := cell_of_block hT 10
  have f20 := unfrozen_of_block hT 10
  have y11 := cell_of_block hT 11
  have f21 := unfrozen_of_block hT 11
  have y12 := cell_of_block hT 12
  have f22 := unfrozen_of_block hT 12
  have y13 := cell_of_block hT 13
  have f23 := unfrozen_of_block hT 13
  have HT := hide hT
  clear hT
  refine callsD_of_wpS Tryz.func35 rfl fun c₀ cs hu => ?_
  apply wpS_seq
  apply wpS_region
  simp [wpOpsS, go_sem, recoverD, hu, Tryz.ntmps35, Exit.thenS, ta]
  apply wpS_seq
  apply wpS_region
  simp [wpOpsS, go_sem, Exit.thenS]
  refine wpS_cond (t := true) (by simp [Act.eval, Array.replicate]) ?_
  simp only [if_true]
  apply wpS_region
  simp [wpOpsS, go_sem, h2, f2, bodyPostS, results, Tryz.results35, y0, y1, y2, y3, y4, y5, y6, y7, y8, y9, y10, y11, y12, y13, f10, f11, f12, f13, f14, f15, f16, f17, f18, f19, f20, f21, f22, f23]
  refine ⟨?_, fun n h1 h3 => ?_⟩
  · exact ((((((((((((((HT.out.set rfl).set rfl).set rfl).set rfl).set rfl).set rfl).set rfl).set rfl).set rfl).set rfl).set rfl).set rfl).set rfl).set rfl).other hTE
  · exact (((((((((((((((Below.refl n w).setCell h1 _).setCell h1 _).setCell h1 _).setCell h1 _).setCell h1 _).setCell h1 _).setCell h1 _).setCell h1 _).setCell h1 _).setCell h1 _).setCell h1 _).setCell h1 _).setCell h1 _).setCell h1 _).setCell h3 _
theorem linesP_ro {L : List B8} {p : Pq} (h : linesP L = .ok p) : p.ro < 18446744073709551616 := by
  unfold linesP at h
  split at h
  · cases h
  · split at h
    · split at h
      · cases h
      · rename_i hr
        injection h with h
        subst h
        exact restP_ro hr
    · cases h
def outQ : Except Int Pq → Pq × Int
  | .ok p => if pRight p = true then (p, 0) else (zeroQ, 1)
  | .error e => (zeroQ, e)
theorem pParse_out (t : B8) : pParse t = outQ (linesP (cut 10 t)) := by unfold pParse; cases linesP (cut 10 t) <;> rfl
/-- what Parse answers -/
def ParseQ (t : B8) (w : World) (e : Ending) (w' : World) : Prop :=
  ∃ (q : Pq) (k : Int) (ob rg pg pk : Value), pParse t = (q, k) ∧ e = .returned (.tuple #[planV q.wk q.mu q.cp q.bf q.bn q.mo q.pr q.li q.sl ob q.ro rg pg pk, .int .i64 k]) ∧ PlanR w' ob rg pg pk q ∧ Below w.heap.size w w'
theorem planR_zero (w : World) : PlanR w (.slice none 0 0) (.slice none 0 0) (.slice none 0 0) (.slice none 0 0) zeroQ := ⟨⟨[], Sl.nil_, rfl, by simp⟩, ⟨[], Sl.nil_, rfl, by simp⟩, ⟨[], Sl.nil_, rfl, by simp⟩, Sl.nil_⟩
theorem parseQ_err {t : B8} {w w' : World} {k : Int} (h : pParse t = (zeroQ, k)) (hb : Below w.heap.size w w') : ParseQ t w (.returned (.tuple #[planV 0 0 0 0 0 0 0 0 0 (.slice none 0 0) 0 (.slice none 0 0) (.slice none 0 0) (.slice none 0 0), .int .i64 k])) w' :=
  ⟨zeroQ, k, _, _, _, _, h, rfl, planR_zero w', hb⟩
set_option maxRecDepth 100000 in
set_option maxHeartbeats 16000000 in
theorem Parse_plan (s : ByteArray) (w : World) (hs : s.size ≤ 8796093022208) (hE : EnvP w) : Calls Tryz.prog 10 #[.string s] w (ParseQ s.data.toList w) := by
  have hmf := makeFunc_ok
  obtain ⟨wa, ea⟩ : ∃ wa, w.alloc (.cells #[.int .i64 0, .int .i64 0, .int .i64 0, .int .i64 0, .int .i64 0, .int .i64 0, .int .i64 0, .int .i64 0, .int .i64 0, .slice none 0 0, .int .u64 0, .slice none 0 0, .slice none 0 0, .slice none 0 0] 30) = wa := ⟨_, rfl⟩
  have hsa : wa.heap.size = w.heap.size + 1 := by rw [← ea]; simp
  have hba : Below w.heap.size w wa := by rw [← ea]; exact balHp _ _
  have hza : ZeroAt w.heap.size wa := by rw [← ea]; exact heap_alloc_new w _
  obtain ⟨wb, eb⟩ : ∃ wb, wa.alloc (.cells #[.int .i64 0] 33) = wb := ⟨_, rfl⟩
  have hsb : wb.heap.size = w.heap.size + 2 := by rw [← eb]; simp [hsa]
  have hbb : Below wa.heap.size wa wb := by rw [← eb]; exact balHp _ _
  have hob : wb.heap[w.heap.size + 1]? = some (.cells #[.int .i64 0] 33) := by rw [← eb, ← hsa]; exact heap_alloc_new wa _
  obtain ⟨wc, ec⟩ : ∃ wc, wb.alloc (.cells #[.string s] 71) = wc := ⟨_, rfl⟩
  have hsc : wc.heap.size = w.heap.size + 3 := by rw [← ec]; simp [hsb]
  have hbc : Below wb.heap.size wb wc := by rw [← ec]; exact balHp _ _
  have hRc : RdAt (w.heap.size + 2) s wc := by
    unfold RdAt; rw [← ec, ← hsb]; exact heap_alloc_new wb _
  have hBc : Below w.heap.size w wc := bcall (bcall hba hbb) hbc
  have hzc : ZeroAt w.heap.size wc := (hbc.block _ (by omega)).trans ((hbb.block _ (by omega)).trans hza)
  have hoc : wc.heap[w.heap.size + 1]? = some (.cells #[.int .i64 0] 33) := (hbc.block _ (by omega)).trans hob
  have HPT := hide (parts_any (w.heap.size + 2) s wc hRc hs ⟨w, hE, by omega, hBc⟩)
  obtain ⟨o, ho⟩ : ∃ o, linesP (cut 10 s.data.toList) = o := ⟨_, rfl⟩
  have HPP := hide (show pParse s.data.toList = outQ o by rw [pParse_out, ho])
  have HO := hide ho
  have HEA := hide ea
  have HEB := hide eb
  have HEC := hide ec
  have HSC := hide hsc
  have HBC := hide hBc
  have HZC := hide hzc
  have HOC := hide hoc
  clear ea eb ec hsa hsb hsc hba hbb hbc hza hob hRc hBc hzc hoc hE ho
  go_enter_defers Tryz.func10, Tryz.ntmps10
  go_wp2_with fail
  rw [HEA.out, HEB.out, HEC.out]
  refine HPT.out.mono ?_
  rintro e w4 ⟨hg4, h4⟩
  rw [HO.out] at h4
  have n0 : some (w.heap.size + 2) ≠ some w.heap.size := fun e => by injection e with e; omega
  have n1 : some (w.heap.size + 2) ≠ some (w.heap.size + 1) := fun e => by injection e with e; omega
  have hsc := HSC.out
  have HZ4 := hide (show ZeroAt w.heap.size w4 from (hg4.block _ (by omega) n0.symm).trans HZC.out)
  have HO4 := hide ((hg4.block _ (by omega) n1.symm).trans HOC.out)
  have HB4 := hide (show Below w.heap.size w w4 from HBC.out.trans (grown_bel2 hg4 (by omega) (by omega)))
  have HS4 := hide hg4.size
  clear hg4 n0 n1 hsc
  cases o with
  | error k =>
    have r2 := cell_of_block HO4.out 0
    have z2 := unfrozen_of_block HO4.out 0
    unfold PanQ at h4
    subst h4
    go_wp2
    refine leaves_cons (f := 35) (args := #[.pointer (some ⟨w.heap.size, 0, none⟩), .pointer (some ⟨w.heap.size + 1, 0, none⟩)]) (by simp) (by simp [go_sem]) ?_
    refine (pl_panicking w.heap.size (w.heap.size + 1) _ k w4 HZ4.out r2 z2 (by omega) (by omega)).mono ?_
    rintro e u' w'' ⟨rfl, rfl, hz, hk, hb⟩
    simp only [Leaves, settle, List.dropWhile_nil]
    have y0 := cell_of_block hz 0
    have y1 := cell_of_block hz 1
    have y2 := cell_of_block hz 2
    have y3 := cell_of_block hz 3
    have y4 := cell_of_block hz 4
    have y5 := cell_of_block hz 5
    have y6 := cell_of_block hz 6
    have y7 := cell_of_block hz 7
    have y8 := cell_of_block hz 8
    have y9 := cell_of_block hz 9
    have y10 := cell_of_block hz 10
    have y11 := cell_of_block hz 11
    have y12 := cell_of_block hz 12
    have y13 := cell_of_block hz 13
    refine ⟨.tuple #[planV 0 0 0 0 0 0 0 0 0 (.slice none 0 0) 0 (.slice none 0 0) (.slice none 0 0) (.slice none 0 0), .int .i64 k], by simp [results, Tryz.results10, go_sem, y0, y1, y2, y3, y4, y5, y6, y7, y8, y9, y10, y11, y12, y13, hk], ?_⟩
    exact parseQ_err HPP.out (HB4.out.trans (hb _ (Nat.le_refl _) (by omega)))
  | ok p =>
    obtain ⟨v, fs, rfl, hps, hlf, hfn⟩ := h4
    have HLD := hide (laid_any _ v fs w4 hps hfn (by have h1 := HS4.out; have h2 := HSC.out; omega))
    rw [hlf] at HLD
    obtain ⟨A, c, rfl, -, -⟩ := parts_form hps
    clear hps hlf
    go_wp2_with fail
    refine HLD.out.mono ?_
    rintro e w5 ⟨ob, rg, pg, pk, rfl, hO5, hb5⟩
    have hr5 := hO5.read
    have hro := linesP_ro HO.out
    obtain ⟨a, b, c', d, e, f, g, h, n, lo, s', lr, lp, lk⟩ := p
    dsimp only at hro
    obtain ⟨A1, m1, rfl, -, -⟩ := hr5.ob.form
    obtain ⟨A2, m2, rfl, -, -⟩ := hr5.rg.form
    obtain ⟨A3, m3, rfl, -, -⟩ := hr5.pg.form
    obtain ⟨A4, m4, rfl, -, -, -⟩ := id hr5.pk
    dsimp only
    obtain ⟨w6, e6, hb6, hs6, X6⟩ := bp_new w5 a b c' d e f g h n (.slice A1 lo.length m1) s' (.slice A2 lr.length m2) (.slice A3 lp.length m3) (.slice A4 lk.length m4) 30
    have HE6 := hide e6
    have HX6 := hide X6
    have HR6 := hide (hr5.below hb6)
    have HP6 := hide (hO5.below hb6)
    have h4s := HS4.out
    have h4c := HSC.out
    have hlt0 : w.heap.size < w4.heap.size := by omega
    have hlt1 : w.heap.size + 1 < w4.heap.size := by omega
    have HZ6 := hide (show ZeroAt w.heap.size w6 from (hb6.block _ (by have := hb5.size; omega)).trans ((hb5.block _ hlt0).trans HZ4.out))
    have HO6 := hide ((hb6.block _ (by have := hb5.size; omega)).trans ((hb5.block _ hlt1).trans HO4.out))
    have HB6 := hide (bcall (bcall HB4.out hb5) hb6)
    have HS6 := hide (show w.heap.size + 1 < w6.heap.size by have := hb5.size; omega)
    obtain ⟨B, hB⟩ : ∃ B, pRight ⟨a, b, c', d, e, f, g, h, n, lo, s', lr, lp, lk⟩ = B := ⟨_, rfl⟩
    have HRT := hide (fun W hR => pRight_any a b c' d e f g h n (.slice A1 lo.length m1) s' (.slice A2 lr.length m2) (.slice A3 lp.length m3) (.slice A4 lk.length m4) lo lr lp lk W hro hR)
    rw [hB] at HRT
    have HPX := hide (show pParse s.data.toList = if B = true then (⟨a, b, c', d, e, f, g, h, n, lo, s', lr, lp, lk⟩, 0) else (zeroQ, 1) by rw [HPP.out, outQ, hB])
    obtain ⟨x0, x1, x2, x3, x4, x5, x6, x7, x8, x9, xa, xb, xc, xd⟩ := X6.cells
    clear e6 X6 hr5 hO5 hb5 hb6 hs6 h4s h4c hlt0 hlt1 hB hro HO HPP
    unfold planV at HRT
    go_wp2_with fail
    rw [HE6.out]
    refine (HRT.out _ HR6.out).mono ?_
    rintro e7 w7 ⟨rfl, hb7⟩
    have HX7 := hide (HX6.out.below hb7)
    have HP7 := hide (HP6.out.below hb7)
    have hl6 := HS6.out
    have hz7 : ZeroAt w.heap.size w7 := (hb7.block _ (by omega)).trans HZ6.out
    have ho7 : w7.heap[w.heap.size + 1]? = some (.cells #[.int .i64 0] 33) := (hb7.block _ (by omega)).trans HO6.out
    have HB7 := hide (bcall HB6.out hb7)
    have HZ7 := hide hz7
    clear x0 x1 x2 x3 x4 x5 x6 x7 x8 x9 xa xb xc xd hb7
    obtain ⟨x0, x1, x2, x3, x4, x5, x6, x7, x8, x9, xa, xb, xc, xd⟩ := HX7.out.cells
    have y0 := cell_of_block hz7 0
    have f10 := unfrozen_of_block hz7 0
    have y1 := cell_of_block hz7 1
    have f11 := unfrozen_of_block hz7 1
    have y2 := cell_of_block hz7 2
    have f12 := unfrozen_of_block hz7 2
    have y3 := cell_of_block hz7 3
    have f13 := unfrozen_of_block hz7 3
    have y4 := cell_of_block hz7 4
    have f14 := unfrozen_of_block hz7 4
    have y5 := cell_of_block hz7 5
    have f15 := unfrozen_of_block hz7 5
    have y6 := cell_of_block hz7 6
    have f16 := unfrozen_of_block hz7 6
    have y7 := cell_of_block hz7 7
    have f17 := unfrozen_of_block hz7 7
    have y8 := cell_of_block hz7 8
    have f18 := unfrozen_of_block hz7 8
    have y9 := cell_of_block hz7 9
    have f19 := unfrozen_of_block hz7 9
    have y10 := cell_of_block hz7 10
    have f20 := unfrozen_of_block hz7 10
    have y11 := cell_of_block hz7 11
    have f21 := unfrozen_of_block hz7 11
    have y12 := cell_of_block hz7 12
    have f22 := unfrozen_of_block hz7 12
    have y13 := cell_of_block hz7 13
    have f23 := unfrozen_of_block hz7 13
    have ye := cell_of_block ho7 0
    have fe := unfrozen_of_block ho7 0
    clear hz7 ho7 hl6
    cases B with
    | false =>
      go_wp2
      refine leaves_cons (f := 35) (args := #[.pointer (some ⟨w.heap.size, 0, none⟩), .pointer (some ⟨w.heap.size + 1, 0, none⟩)]) (by simp) (by simp [go_sem]) ?_
      refine (pl_idle _ _ _).mono ?_
      rintro e u' w'' ⟨rfl, rfl, rfl⟩
      simp only [Leaves, settle]
      refine ⟨.tuple #[planV 0 0 0 0 0 0 0 0 0 (.slice none 0 0) 0 (.slice none 0 0) (.slice none 0 0) (.slice none 0 0), .int .i64 1], by simp [results, Tryz.results10, go_sem, y0, y1, y2, y3, y4, y5, y6, y7, y8, y9, y10, y11, y12, y13, ye], ?_⟩
      refine parseQ_err (by rw [HPX.out]; rfl) ?_
      exact (((((((((((((((HB7.out).setCell (Nat.le_refl _) _).setCell (Nat.le_refl _) _).setCell (Nat.le_refl _) _).setCell (Nat.le_refl _) _).setCell (Nat.le_refl _) _).setCell (Nat.le_refl _) _).setCell (Nat.le_refl _) _).setCell (Nat.le_refl _) _).setCell (Nat.le_refl _) _).setCell (Nat.le_refl _) _).setCell (Nat.le_refl _) _).setCell (Nat.le_refl _) _).setCell (Nat.le_refl _) _).setCell (Nat.le_refl _) _).setCell (by simp) _
    | true =>
      go_wp2
      refine leaves_cons (f := 35) (args := #[.pointer (some ⟨w.heap.size, 0, none⟩), .pointer (some ⟨w.heap.size + 1, 0, none⟩)]) (by simp) (by simp [go_sem]) ?_
      refine (pl_idle _ _ _).mono ?_
      rintro e u' w'' ⟨rfl, rfl, rfl⟩
      simp only [Leaves, settle]
      refine ⟨.tuple #[planV a b c' d e f g h n (.slice A1 lo.length m1) s' (.slice A2 lr.length m2) (.slice A3 lp.length m3) (.slice A4 lk.length m4), .int .i64 0], by simp [results, Tryz.results10, go_sem, y0, y1, y2, y3, y4, y5, y6, y7, y8, y9, y10, y11, y12, y13, ye], ?_⟩
      refine ⟨_, 0, _, _, _, _, by rw [HPX.out]; rfl, rfl, (((((((((((((((HP7.out.set (a := ⟨w.heap.size, 0, none⟩) (show w.heap.size < w.heap.size + 2 + 1 by omega) _).set (a := ⟨w.heap.size, 1, none⟩) (show w.heap.size < w.heap.size + 2 + 1 by omega) _).set (a := ⟨w.heap.size, 2, none⟩) (show w.heap.size < w.heap.size + 2 + 1 by omega) _).set (a := ⟨w.heap.size, 3, none⟩) (show w.heap.size < w.heap.size + 2 + 1 by omega) _).set (a := ⟨w.heap.size, 4, none⟩) (show w.heap.size < w.heap.size + 2 + 1 by omega) _).set (a := ⟨w.heap.size, 5, none⟩) (show w.heap.size < w.heap.size + 2 + 1 by omega) _).set (a := ⟨w.heap.size, 6, none⟩) (show w.heap.size < w.heap.size + 2 + 1 by omega) _).set (a := ⟨w.heap.size, 7, none⟩) (show w.heap.size < w.heap.size + 2 + 1 by omega) _).set (a := ⟨w.heap.size, 8, none⟩) (show w.heap.size < w.heap.size + 2 + 1 by omega) _).set (a := ⟨w.heap.size, 9, none⟩) (show w.heap.size < w.heap.size + 2 + 1 by omega) _).set (a := ⟨w.heap.size, 10, none⟩) (show w.heap.size < w.heap.size + 2 + 1 by omega) _).set (a := ⟨w.heap.size, 11, none⟩) (show w.heap.size < w.heap.size + 2 + 1 by omega) _).set (a := ⟨w.heap.size, 12, none⟩) (show w.heap.size < w.heap.size + 2 + 1 by omega) _).set (a := ⟨w.heap.size, 13, none⟩) (show w.heap.size < w.heap.size + 2 + 1 by omega) _).set (a := ⟨w.heap.size + 1, 0, none⟩) (show w.heap.size + 1 < w.heap.size + 2 + 1 by omega) _).read, ?_⟩
      exact (((((((((((((((HB7.out).setCell (Nat.le_refl _) _).setCell (Nat.le_refl _) _).setCell (Nat.le_refl _) _).setCell (Nat.le_refl _) _).setCell (Nat.le_refl _) _).setCell (Nat.le_refl _) _).setCell (Nat.le_refl _) _).setCell (Nat.le_refl _) _).setCell (Nat.le_refl _) _).setCell (Nat.le_refl _) _).setCell (Nat.le_refl _) _).setCell (Nat.le_refl _) _).setCell (Nat.le_refl _) _).setCell (Nat.le_refl _) _).setCell (by simp) _
end Go.Proofs.YtjnokhaojpijhaaGreatDoor
/- Layer plan: the program's functions with their answers named. -/
namespace Go.Proofs.YtjnokhaojpijhaaGreatDoor
open Go.RowKit Go.Joins Go.Shelf Go.Proofs
section
variable (a b c d e f g h n : Int) (ob : Value) (s : Nat) (rg pg pk : Value) (lo lr : Rws) (lp : List (List Oq)) (lk : List PP) (w : World)
theorem pBins_c (r : Int) (hr : wrap64 (wrap64 (f + a) + b) = r) :
    Calls Tryz.prog 18 #[planV a b c d e f g h n ob s rg pg pk] w fun x w' => x = .returned (.int .i64 r) ∧ Below w.heap.size w w' := by
  subst hr; exact pBins_any a b c d e f g h n ob s rg pg pk w
theorem pGreys_c (hs : s < 18446744073709551616) (hg : Grid w rg lr) (hr : Rng lr) (N : Nat) (hN : grF s lr lr.length = N) :
    Calls Tryz.prog 20 #[planV a b c d e f g h n ob s rg pg pk] w fun x w' => x = .returned (.int .u64 (N : Int)) ∧ Below w.heap.size w w' := by
  subst hN; exact pGreys_any a b c d e f g h n ob s rg pg pk lr w hs hg hr
theorem pLive_c (hs : s < 18446744073709551616) (hg : Grid w rg lr) (hr : Rng lr) (ho : Grid w ob lo) (hE : EnvT w) (N : Nat) (hN : fromF lo (grF s lr lr.length) = N) :
    Calls Tryz.prog 22 #[planV a b c d e f g h n ob s rg pg pk] w fun x w' => x = .returned (.int .u64 (N : Int)) ∧ Below w.heap.size w w' := by
  subst hN; exact pLive_any a b c d e f g h n ob s rg pg pk lo lr w hs hg hr ho hE
theorem pWrites_c (hg : GridO w pg lp) (r : Int) (hr : wrap64 ((lp.map cWrites).sum : Nat) = r) :
    Calls Tryz.prog 24 #[planV a b c d e f g h n ob s rg pg pk] w fun x w' => x = .returned (.int .i64 r) ∧ Below w.heap.size w w' := by
  subst hr; exact pWrites_any a b c d e f g h n ob s rg pg pk lp w hg
theorem pRight_c (hs : s < 18446744073709551616) (hP : PlanR w ob rg pg pk ⟨a, b, c, d, e, f, g, h, n, lo, s, lr, lp, lk⟩) (r : Bool) (hr : pRight ⟨a, b, c, d, e, f, g, h, n, lo, s, lr, lp, lk⟩ = r) :
    Calls Tryz.prog 16 #[planV a b c d e f g h n ob s rg pg pk] w fun x w' => x = .returned (.bool r) ∧ Below w.heap.size w w' := by
  subst hr; exact pRight_any a b c d e f g h n ob s rg pg pk lo lr lp lk w hs hP
end
/-- what is parsed, cell by cell, its slices' lengths in sight -/
theorem pParse_c (t : ByteArray) (w : World) (ht : t.size ≤ 8796093022208) (hE : EnvP w) (q : Pq) (k : Int) (hq : pParse t.data.toList = (q, k)) :
    Calls Tryz.prog 10 #[.string t] w fun x w' => ∃ A0 c0 A1 c1 A2 c2 A3 c3, x = .returned (.tuple #[planV q.wk q.mu q.cp q.bf q.bn q.mo q.pr q.li q.sl (.slice A0 q.ob.length c0) q.ro (.slice A1 q.rg.length c1) (.slice A2 q.pg.length c2) (.slice A3 q.pk.length c3), .int .i64 k]) ∧
      Hid (PlanR w' (.slice A0 q.ob.length c0) (.slice A1 q.rg.length c1) (.slice A2 q.pg.length c2) (.slice A3 q.pk.length c3) q) ∧ Below w.heap.size w w' := by
  refine (Parse_plan t w ht hE).mono ?_
  rintro x w' ⟨q', k', ob, rg, pg, pk, h, rfl, hR, hb⟩
  obtain ⟨rfl, rfl⟩ := Prod.mk.inj (hq.symm.trans h)
  obtain ⟨A0, c0, rfl, -⟩ := hR.ob.form
  obtain ⟨A1, c1, rfl, -⟩ := hR.rg.form
  obtain ⟨A2, c2, rfl, -⟩ := hR.pg.form
  obtain ⟨A3, c3, e3, -⟩ := id hR.pk
  subst e3
  exact ⟨A0, c0, A1, c1, A2, c2, A3, c3, rfl, hide hR, hb⟩
/-- the same, its numbers kept out of sight -/
theorem pParse_h (t : ByteArray) (w : World) (ht : t.size ≤ 8796093022208) (hE : EnvP w) (q : Pq) (k : Int) (hq : pParse t.data.toList = (q, k)) (N0 N1 N2 N3 : Nat) (h0 : q.ob.length = N0) (h1 : q.rg.length = N1) (h2 : q.pg.length = N2) (h3 : q.pk.length = N3) :
    Calls Tryz.prog 10 #[.string t] w fun x w' => ∃ (a b c d e f g h n : Int) (s : Nat) (lo lr : Rws) (lp : List (List Oq)) (lk : List PP) (A0 : Option Addr) (c0 : Nat) (A1 : Option Addr) (c1 : Nat) (A2 : Option Addr) (c2 : Nat) (A3 : Option Addr) (c3 : Nat), x = .returned (.tuple #[planV a b c d e f g h n (.slice A0 N0 c0) s (.slice A1 N1 c1) (.slice A2 N2 c2) (.slice A3 N3 c3), .int .i64 k]) ∧
      Hid (PlanR w' (.slice A0 N0 c0) (.slice A1 N1 c1) (.slice A2 N2 c2) (.slice A3 N3 c3) ⟨a, b, c, d, e, f, g, h, n, lo, s, lr, lp, lk⟩) ∧ Hid ((⟨a, b, c, d, e, f, g, h, n, lo, s, lr, lp, lk⟩ : Pq) = q) ∧ Below w.heap.size w w' := by
  subst h0 h1 h2 h3
  refine (pParse_c t w ht hE q k hq).mono ?_
  rintro x w' ⟨A0, c0, A1, c1, A2, c2, A3, c3, rfl, hR, hb⟩
  exact ⟨q.wk, q.mu, q.cp, q.bf, q.bn, q.mo, q.pr, q.li, q.sl, q.ro, q.ob, q.rg, q.pg, q.pk, A0, c0, A1, c1, A2, c2, A3, c3, rfl, hR, hide rfl, hb⟩
/-- a plan stored into a new box -/
theorem bp_store (w : World) (a b c d e f g h n : Int) (ob : Value) (s : Nat) (rg pg pk : Value) : ∃ w1, (w.alloc (.cells #[.int .i64 0, .int .i64 0, .int .i64 0, .int .i64 0, .int .i64 0, .int .i64 0, .int .i64 0, .int .i64 0, .int .i64 0, .slice none 0 0, .int .u64 0, .slice none 0 0, .slice none 0 0, .slice none 0 0] 30)).setRow w.heap.size (planC a b c d e f g h n ob s rg pg pk) = w1 ∧ Below w.heap.size w w1 ∧ Bp 30 w1 w.heap.size a b c d e f g h n ob s rg pg pk :=
  ⟨_, rfl, below_setRow (balHp _ _) (Nat.le_refl _) _, ⟨setRow_heap _ w.heap.size _ _ _ _ (heap_alloc_new w _)⟩⟩
theorem planInfo : (Tryz.prog.info? 30).map (·.size) = some 14 := by kernel_rfl
theorem pSame_c (a b c d e f g h n : Int) (ob : Value) (s : Nat) (rg pg pk : Value) (lo lr : Rws) (lp : List (List Oq)) (lk : List PP)
    (a' b' c' d' e' f' g' h' n' : Int) (ob' : Value) (s' : Nat) (rg' pg' pk' : Value) (lo' lr' : Rws) (lp' : List (List Oq)) (lk' : List PP) (w : World)
    (hp : PlanR w ob rg pg pk ⟨a, b, c, d, e, f, g, h, n, lo, s, lr, lp, lk⟩) (hq : PlanR w ob' rg' pg' pk' ⟨a', b', c', d', e', f', g', h', n', lo', s', lr', lp', lk'⟩) (r : Bool)
    (hr : decide ((⟨a, b, c, d, e, f, g, h, n, lo, s, lr, lp, lk⟩ : Pq) = ⟨a', b', c', d', e', f', g', h', n', lo', s', lr', lp', lk'⟩) = r) :
    Calls Tryz.prog 14 #[planV a b c d e f g h n ob s rg pg pk, planV a' b' c' d' e' f' g' h' n' ob' s' rg' pg' pk'] w fun x w' => x = .returned (.bool r) ∧ Below w.heap.size w w' :=
  pSame_any a b c d e f g h n ob s rg pg pk _ a' b' c' d' e' f' g' h' n' ob' s' rg' pg' pk' _ w hp hq rfl rfl r hr
end Go.Proofs.YtjnokhaojpijhaaGreatDoor
