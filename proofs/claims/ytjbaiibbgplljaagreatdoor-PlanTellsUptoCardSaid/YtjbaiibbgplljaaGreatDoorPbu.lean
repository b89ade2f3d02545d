import Derived.Shelf.Vars
import Derived.Test.YtjbaiibbgplljaaGreatDoorPbs
import Derived.Test.YtjbaiibbgplljaaGreatDoorPbt
set_option maxRecDepth 100000
set_option maxHeartbeats 40000000
namespace Go.Proofs.YtjbaiibbgplljaaGreatDoor
open Go.Proofs.Tryz
open Go.RowKit Go.Joins Go.Shelf Go.Proofs
section
variable (a b c d e f g h n : Int) (ob : Value) (s : Nat) (rg pg pk : Value) (lo lr : Rws) (lp : List (List Oq)) (lk : List PP) (w : World)
theorem pBins_c (r : Int) (hr : wrap64 (wrap64 (f + a) + b) = r) :
 Calls prog 13 #[planV a b c d e f g h n ob s rg pg pk] w fun x w' => x = .returned (.int .i64 r) ∧ Below w.heap.size w w' := by
 subst hr; exact pBins_any a b c d e f g h n ob s rg pg pk w
theorem pGreys_c (hs : s < 18446744073709551616) (hg : Grid w rg lr) (hr : Rng lr) (N : Nat) (hN : grF s lr lr.length = N) :
 Calls prog 15 #[planV a b c d e f g h n ob s rg pg pk] w fun x w' => x = .returned (.int .u64 (N : Int)) ∧ Below w.heap.size w w' := by
 subst hN; exact pGreys_any a b c d e f g h n ob s rg pg pk lr w hs hg hr
theorem pLive_c (hs : s < 18446744073709551616) (hg : Grid w rg lr) (hr : Rng lr) (ho : Grid w ob lo) (hE : EnvT w) (N : Nat) (hN : fromF lo (grF s lr lr.length) = N) :
 Calls prog 17 #[planV a b c d e f g h n ob s rg pg pk] w fun x w' => x = .returned (.int .u64 (N : Int)) ∧ Below w.heap.size w w' := by
 subst hN; exact pLive_any a b c d e f g h n ob s rg pg pk lo lr w hs hg hr ho hE
theorem pWrites_c (hg : GridO w pg lp) (r : Int) (hr : wrap64 ((lp.map cWrites).sum : Nat) = r) :
 Calls prog 19 #[planV a b c d e f g h n ob s rg pg pk] w fun x w' => x = .returned (.int .i64 r) ∧ Below w.heap.size w w' := by
 subst hr; exact pWrites_any a b c d e f g h n ob s rg pg pk lp w hg
theorem pRight_c (hs : s < 18446744073709551616) (hP : PlanR w ob rg pg pk ⟨a, b, c, d, e, f, g, h, n, lo, s, lr, lp, lk⟩) (r : Bool) (hr : pRight ⟨a, b, c, d, e, f, g, h, n, lo, s, lr, lp, lk⟩ = r) :
 Calls prog 11 #[planV a b c d e f g h n ob s rg pg pk] w fun x w' => x = .returned (.bool r) ∧ Below w.heap.size w w' := by
 subst hr; exact pRight_any a b c d e f g h n ob s rg pg pk lo lr lp lk w hs hP
end
theorem pParse_c (t : ByteArray) (w : World) (ht : t.size ≤ 8796093022208) (hE : EnvP w) (q : Pq) (k : Int) (hq : pParse t.data.toList = (q, k)) :
 Calls prog 5 #[.string t] w fun x w' => ∃ A0 c0 A1 c1 A2 c2 A3 c3, x = .returned (.tuple #[planV q.wk q.mu q.cp q.bf q.bn q.mo q.pr q.li q.sl (.slice A0 q.ob.length c0) q.ro (.slice A1 q.rg.length c1) (.slice A2 q.pg.length c2) (.slice A3 q.pk.length c3), .int .i64 k]) ∧
  Hid (PlanR w' (.slice A0 q.ob.length c0) (.slice A1 q.rg.length c1) (.slice A2 q.pg.length c2) (.slice A3 q.pk.length c3) q) ∧ Below w.heap.size w w' := by
 refine (Parse_plan t w ht hE).mono ?_; rintro x w' ⟨q', k', ob, rg, pg, pk, h, rfl, hR, hb⟩; obtain ⟨rfl, rfl⟩ := Prod.mk.inj (hq.symm.trans h); obtain ⟨A0, c0, rfl, -⟩ := hR.ob.form; obtain ⟨A1, c1, rfl, -⟩ := hR.rg.form; obtain ⟨A2, c2, rfl, -⟩ := hR.pg.form; obtain ⟨A3, c3, e3, -⟩ := id hR.pk; subst e3; exact ⟨A0, c0, A1, c1, A2, c2, A3, c3, rfl, hide hR, hb⟩
theorem pParse_h (t : ByteArray) (w : World) (ht : t.size ≤ 8796093022208) (hE : EnvP w) (q : Pq) (k : Int) (hq : pParse t.data.toList = (q, k)) (N0 N1 N2 N3 : Nat) (h0 : q.ob.length = N0) (h1 : q.rg.length = N1) (h2 : q.pg.length = N2) (h3 : q.pk.length = N3) :
 Calls prog 5 #[.string t] w fun x w' => ∃ (a b c d e f g h n : Int) (s : Nat) (lo lr : Rws) (lp : List (List Oq)) (lk : List PP) (A0 : Option Addr) (c0 : Nat) (A1 : Option Addr) (c1 : Nat) (A2 : Option Addr) (c2 : Nat) (A3 : Option Addr) (c3 : Nat), x = .returned (.tuple #[planV a b c d e f g h n (.slice A0 N0 c0) s (.slice A1 N1 c1) (.slice A2 N2 c2) (.slice A3 N3 c3), .int .i64 k]) ∧
  Hid (PlanR w' (.slice A0 N0 c0) (.slice A1 N1 c1) (.slice A2 N2 c2) (.slice A3 N3 c3) ⟨a, b, c, d, e, f, g, h, n, lo, s, lr, lp, lk⟩) ∧ Hid ((⟨a, b, c, d, e, f, g, h, n, lo, s, lr, lp, lk⟩ : Pq) = q) ∧ Below w.heap.size w w' := by
 subst h0 h1 h2 h3; refine (pParse_c t w ht hE q k hq).mono ?_; rintro x w' ⟨A0, c0, A1, c1, A2, c2, A3, c3, rfl, hR, hb⟩; exact ⟨q.wk, q.mu, q.cp, q.bf, q.bn, q.mo, q.pr, q.li, q.sl, q.ro, q.ob, q.rg, q.pg, q.pk, A0, c0, A1, c1, A2, c2, A3, c3, rfl, hR, hide rfl, hb⟩
theorem pSame_c (a b c d e f g h n : Int) (ob : Value) (s : Nat) (rg pg pk : Value) (lo lr : Rws) (lp : List (List Oq)) (lk : List PP)
 (a' b' c' d' e' f' g' h' n' : Int) (ob' : Value) (s' : Nat) (rg' pg' pk' : Value) (lo' lr' : Rws) (lp' : List (List Oq)) (lk' : List PP) (w : World)
 (hp : PlanR w ob rg pg pk ⟨a, b, c, d, e, f, g, h, n, lo, s, lr, lp, lk⟩) (hq : PlanR w ob' rg' pg' pk' ⟨a', b', c', d', e', f', g', h', n', lo', s', lr', lp', lk'⟩) (r : Bool)
 (hr : decide ((⟨a, b, c, d, e, f, g, h, n, lo, s, lr, lp, lk⟩ : Pq) = ⟨a', b', c', d', e', f', g', h', n', lo', s', lr', lp', lk'⟩) = r) :
 Calls prog 9 #[planV a b c d e f g h n ob s rg pg pk, planV a' b' c' d' e' f' g' h' n' ob' s' rg' pg' pk'] w fun x w' => x = .returned (.bool r) ∧ Below w.heap.size w w' :=
 pSame_any a b c d e f g h n ob s rg pg pk _ a' b' c' d' e' f' g' h' n' ob' s' rg' pg' pk' _ w hp hq rfl rfl r hr
def exQ : Pq := ⟨2, 1, 4, 2, 2, 8, 3, 5, 1, [[2], [0], [0]], 1, [[3, 0]], [[⟨1, 1, 0, 0⟩, ⟨2, 1, 0, 0⟩]], [(0, 0), (1, 1), (2, 1)]⟩
theorem Right_zero (w : World) : Calls prog 11 #[.agg #[.int .i64 0, .int .i64 0, .int .i64 0, .int .i64 0, .int .i64 0, .int .i64 0, .int .i64 0, .int .i64 0, .int .i64 0, .slice none 0 0, .int .u64 0, .slice none 0 0, .slice none 0 0, .slice none 0 0]] w fun x w' => x = .returned (.bool false) ∧ Below w.heap.size w w' :=
 pRight_c 0 0 0 0 0 0 0 0 0 (.slice none 0 0) 0 (.slice none 0 0) (.slice none 0 0) (.slice none 0 0) [] [] [] [] w (by decide) (planR_zero w) false (by decide +kernel)
theorem Text_zero (w : World) (hE : EnvP w) : Calls prog 21 #[.agg #[.int .i64 0, .int .i64 0, .int .i64 0, .int .i64 0, .int .i64 0, .int .i64 0, .int .i64 0, .int .i64 0, .int .i64 0, .slice none 0 0, .int .u64 0, .slice none 0 0, .slice none 0 0, .slice none 0 0]] w fun x w' => x = .returned (.string ⟨#[]⟩) ∧ Below w.heap.size w w' :=
 pText_any 0 0 0 0 0 0 0 0 0 (.slice none 0 0) 0 (.slice none 0 0) (.slice none 0 0) (.slice none 0 0) [] [] [] [] w (by decide) (planR_zero w) hE [] (by decide +kernel)
theorem examples_anyPl (w : World) (hE : EnvP w) : Calls prog 4 #[] w fun x w' => x = .returned (.bool true) ∧ Below w.heap.size w w' := by
 have HE := hide hE; clear hE; go_enter func4, ntmps4
 go_wp2_with fail
 (with_reducible refine (pParse_h _ _ (by decide +kernel) HE.out exQ 0 (by decide +kernel) 3 1 1 3 rfl rfl rfl rfl).mono ?_); rintro x wa ⟨a, b, c, d, e, f, g, h, n, s, lo, lr, lp, lk, A0, c0, A1, c1, A2, c2, A3, c3, rfl, HR, HQ, hba⟩; obtain ⟨w1, e1, hb1, -, X⟩ := bp_new wa a b c d e f g h n (.slice A0 3 c0) s (.slice A1 1 c1) (.slice A2 1 c2) (.slice A3 3 c3) 30; have HX := hide X; have HE1 := hide e1; have HBA := hide (bcall hba hb1); have HR := hide (HR.out.below hb1); have HEn := hide (HE.out.below HBA.out); clear e1 X hba hb1; go_upto_region 3 with (fail)
 rw [HE1.out]; go_wp2_with fail
 (with_reducible refine (pParse_h _ _ (by decide +kernel) HEn.out zeroQ 1 (by decide +kernel) 0 0 0 0 rfl rfl rfl rfl).mono ?_); rintro x wb ⟨a', b', c', d', e', f', g', h', n', s', -, -, -, -, A0', c0', A1', c1', A2', c2', A3', c3', rfl, -, -, hbb⟩; obtain ⟨w2, e2, hb2, -, -⟩ := bp_new wb a' b' c' d' e' f' g' h' n' (.slice A0' 0 c0') s' (.slice A1' 0 c1') (.slice A2' 0 c2') (.slice A3' 0 c3') 30; have HE2 := hide e2; have HBC := hide (bcall hbb hb2); clear e2 hbb hb2; go_upto_region 4 with (fail)
 rw [HE2.out]; go_wp2_with fail
 (with_reducible refine (pParse_h _ _ (by decide +kernel) (HEn.out.below HBC.out) zeroQ 2 (by decide +kernel) 0 0 0 0 rfl rfl rfl rfl).mono ?_); rintro x wc ⟨a'', b'', c'', d'', e'', f'', g'', h'', n'', s'', -, -, -, -, A0'', c0'', A1'', c1'', A2'', c2'', A3'', c3'', rfl, -, -, hbb⟩; obtain ⟨w3, e3, hb3, -, -⟩ := bp_new wc a'' b'' c'' d'' e'' f'' g'' h'' n'' (.slice A0'' 0 c0'') s'' (.slice A1'' 0 c1'') (.slice A2'' 0 c2'') (.slice A3'' 0 c3'') 30; have HE3 := hide e3; have HBC := hide (bcall HBC.out (bcall hbb hb3)); clear e3 hbb hb3; go_upto_region 5 with (fail)
 rw [HE3.out]; obtain ⟨x0, x1, x2, x3, x4, x5, x6, x7, x8, x9, xa, xb, xc, xd⟩ := (HX.out.below HBC.out).cells; obtain ⟨qa, qb, qf, qh, qs, qlo, qlr, qlp⟩ : a = 2 ∧ b = 1 ∧ f = 8 ∧ h = 5 ∧ s = 1 ∧ lo = [[2], [0], [0]] ∧ lr = [[3, 0]] ∧ lp = [[⟨1, 1, 0, 0⟩, ⟨2, 1, 0, 0⟩]] := ⟨congrArg Pq.wk HQ.out, congrArg Pq.mu HQ.out, congrArg Pq.mo HQ.out, congrArg Pq.li HQ.out, congrArg Pq.ro HQ.out, congrArg Pq.ob HQ.out, congrArg Pq.rg HQ.out, congrArg Pq.pg HQ.out⟩; have ka : (a == 2) = true := by rw [qa]; rfl
 have kh : (h == 5) = true := by rw [qh]; rfl
 have kf : (f == 8) = true := by rw [qf]; rfl
 have HS := hide (show s < 18446744073709551616 by rw [qs]; decide); have HT := hide (show pText (⟨a, b, c, d, e, f, g, h, n, lo, s, lr, lp, lk⟩ : Pq) = ([101, 110, 103, 105, 110, 101, 32, 50, 32, 49, 32, 52, 32, 50, 32, 50, 32, 56, 32, 51, 32, 53, 10, 104, 101, 97, 112, 32, 49, 124, 50, 124, 48, 124, 48, 10, 114, 111, 111].append [116, 115, 32, 49, 10, 109, 117, 116, 97, 116, 111, 114, 32, 51, 44, 48, 32, 66, 61, 65, 46, 48, 59, 65, 46, 48, 61, 66, 10, 112, 105, 99, 107, 115, 32, 46, 97, 206, 177, 10] : B8) by rw [HQ.out]; decide +kernel); have HRt := hide (show pRight (⟨a, b, c, d, e, f, g, h, n, lo, s, lr, lp, lk⟩ : Pq) = true by rw [HQ.out]; decide +kernel); have HBn := hide (show wrap64 (wrap64 (f + a) + b) = 11 by rw [qf, qa, qb]; decide +kernel); have HG := hide (show grF s lr lr.length = 5 by rw [qs, qlr]; decide +kernel); have HL := hide (show fromF lo (grF s lr lr.length) = 7 by rw [HG.out, qlo]; decide +kernel); have HW := hide (show wrap64 ((lp.map cWrites).sum : Nat) = 1 by rw [qlp]; decide +kernel); have HRg := hide (show Rng lr by rw [qlr]; show ∀ l ∈ ([[3, 0]] : Rws), ∀ o ∈ l, -9223372036854775808 ≤ o ∧ o ≤ (9223372036854775807 : Int); decide); clear HQ qa qb qf qh qs qlo qlr qlp; go_wp2_with fail
 (with_reducible refine (pText_any a b c d e f g h n (.slice A0 3 c0) s (.slice A1 1 c1) (.slice A2 1 c2) (.slice A3 3 c3) lo lr lp lk _ HS.out (HR.out.below HBC.out) (HEn.out.below HBC.out) _ HT.out).mono ?_); rintro x w10 ⟨rfl, hb⟩; have HBC := hide (bcall HBC.out hb); clear hb; clear x0 x1 x2 x3 x4 x5 x6 x7 x8 x9 xa xb xc xd; obtain ⟨x0, x1, x2, x3, x4, x5, x6, x7, x8, x9, xa, xb, xc, xd⟩ := (HX.out.below HBC.out).cells; go_wp2_with fail
 (with_reducible refine (pRight_c a b c d e f g h n (.slice A0 3 c0) s (.slice A1 1 c1) (.slice A2 1 c2) (.slice A3 3 c3) lo lr lp lk _ HS.out (HR.out.below HBC.out) true HRt.out).mono ?_); rintro x w11 ⟨rfl, hb⟩; have HBC := hide (bcall HBC.out hb); clear hb; clear x0 x1 x2 x3 x4 x5 x6 x7 x8 x9 xa xb xc xd; obtain ⟨x0, x1, x2, x3, x4, x5, x6, x7, x8, x9, xa, xb, xc, xd⟩ := (HX.out.below HBC.out).cells; go_wp2_with fail
 (with_reducible refine (pBins_c a b c d e f g h n (.slice A0 3 c0) s (.slice A1 1 c1) (.slice A2 1 c2) (.slice A3 3 c3) _ 11 HBn.out).mono ?_); rintro x w12 ⟨rfl, hb⟩; have HBC := hide (bcall HBC.out hb); clear hb; clear x0 x1 x2 x3 x4 x5 x6 x7 x8 x9 xa xb xc xd; obtain ⟨x0, x1, x2, x3, x4, x5, x6, x7, x8, x9, xa, xb, xc, xd⟩ := (HX.out.below HBC.out).cells; go_wp2_with fail
 (with_reducible refine (pGreys_c a b c d e f g h n (.slice A0 3 c0) s (.slice A1 1 c1) (.slice A2 1 c2) (.slice A3 3 c3) lr _ HS.out (HR.out.rg.below HBC.out) HRg.out 5 HG.out).mono ?_); rintro x w13 ⟨rfl, hb⟩; have HBC := hide (bcall HBC.out hb); clear hb; clear x0 x1 x2 x3 x4 x5 x6 x7 x8 x9 xa xb xc xd; obtain ⟨x0, x1, x2, x3, x4, x5, x6, x7, x8, x9, xa, xb, xc, xd⟩ := (HX.out.below HBC.out).cells; go_wp2_with fail
 (with_reducible refine (pLive_c a b c d e f g h n (.slice A0 3 c0) s (.slice A1 1 c1) (.slice A2 1 c2) (.slice A3 3 c3) lo lr _ HS.out (HR.out.rg.below HBC.out) HRg.out (HR.out.ob.below HBC.out) (HEn.out.below HBC.out).t 7 HL.out).mono ?_); rintro x w14 ⟨rfl, hb⟩; have HBC := hide (bcall HBC.out hb); clear hb; clear x0 x1 x2 x3 x4 x5 x6 x7 x8 x9 xa xb xc xd; obtain ⟨x0, x1, x2, x3, x4, x5, x6, x7, x8, x9, xa, xb, xc, xd⟩ := (HX.out.below HBC.out).cells; go_wp2_with fail
 (with_reducible refine (pWrites_c a b c d e f g h n (.slice A0 3 c0) s (.slice A1 1 c1) (.slice A2 1 c2) (.slice A3 3 c3) lp _ (HR.out.pg.below HBC.out) 1 HW.out).mono ?_); rintro x w15 ⟨rfl, hb⟩; have HBC := hide (bcall HBC.out hb); clear hb; clear x0 x1 x2 x3 x4 x5 x6 x7 x8 x9 xa xb xc xd; obtain ⟨x0, x1, x2, x3, x4, x5, x6, x7, x8, x9, xa, xb, xc, xd⟩ := (HX.out.below HBC.out).cells; go_wp2_with fail
 (with_reducible refine (pSame_c a b c d e f g h n (.slice A0 3 c0) s (.slice A1 1 c1) (.slice A2 1 c2) (.slice A3 3 c3) lo lr lp lk a b c d e f g h n (.slice A0 3 c0) s (.slice A1 1 c1) (.slice A2 1 c2) (.slice A3 3 c3) lo lr lp lk _ (HR.out.below HBC.out) (HR.out.below HBC.out) true (decide_eq_true rfl)).mono ?_); rintro x w16 ⟨rfl, hb⟩; have HBC := hide (bcall HBC.out hb); clear hb; clear x0 x1 x2 x3 x4 x5 x6 x7 x8 x9 xa xb xc xd; go_wp2_with fail
 (with_reducible refine (Right_zero _).mono ?_); rintro x w17 ⟨rfl, hb⟩; have HBC := hide (bcall HBC.out hb); clear hb; go_wp2_with fail
 (with_reducible refine (Text_zero _ (HEn.out.below HBC.out)).mono ?_); rintro x w18 ⟨rfl, hb⟩; have HBC := hide (bcall HBC.out hb); clear hb; go_wp2; go_ret
 exact ⟨rfl, bcall HBA.out HBC.out⟩
end Go.Proofs.YtjbaiibbgplljaaGreatDoor
namespace Go.Proofs.YtjbaiibbgplljaaGreatDoor
open Go.Proofs.Tryz
open Go.RowKit Go.WideShapes Go.ChangeShapes Go.ChangeAt Go.Deep
theorem list13 {α : Type} {l : List α} (h : l.length = 13) : ∃ x0 x1 x2 x3 x4 x5 x6 x7 x8 x9 xa xb xc, l = [x0, x1, x2, x3, x4, x5, x6, x7, x8, x9, xa, xb, xc] := by
 match l, h with
 | [x0, x1, x2, x3, x4, x5, x6, x7, x8, x9, xa, xb, xc], _ => exact ⟨x0, x1, x2, x3, x4, x5, x6, x7, x8, x9, xa, xb, xc, rfl⟩
theorem array14 {α : Type} {cs : Array α} (h : cs.size = 14) : ∃ x0 x1 x2 x3 x4 x5 x6 x7 x8 x9 xa xb xc xd, cs = #[x0, x1, x2, x3, x4, x5, x6, x7, x8, x9, xa, xb, xc, xd] := by
 obtain ⟨l⟩ := cs; match l, h with
 | [x0, x1, x2, x3, x4, x5, x6, x7, x8, x9, xa, xb, xc, xd], _ => exact ⟨x0, x1, x2, x3, x4, x5, x6, x7, x8, x9, xa, xb, xc, xd, rfl⟩
section
variable {H : Type} {enc : TypeId × Value → H} {W : World} {base fuel : Nat} {spare : Nat → Bool} {held : Bool} {cs : List Value} {x : DataW H × List MemPlace}
theorem row_int (h : DataW.trod enc prog W base spare held fuel 3 cs = some x) : ∃ n : Int, cs = [.int .i64 n] ∧ I64Cd n := by
 obtain ⟨k, hk, _, wk⟩ := DataW.trod_int underlying3 h; exact ⟨k, hk, by simpa [I64Cd, Lit.wf, IntKind.min, IntKind.max, IntKind.signed, IntKind.bits] using wk⟩
theorem row_int64 (h : DataW.trod enc prog W base spare held fuel 2 cs = some x) : ∃ n : Int, cs = [.int .i64 n] ∧ I64Cd n := by
 obtain ⟨k, hk, _, wk⟩ := DataW.trod_int underlying2 h; exact ⟨k, hk, by simpa [I64Cd, Lit.wf, IntKind.min, IntKind.max, IntKind.signed, IntKind.bits] using wk⟩
theorem row_setPl (h : DataW.trod enc prog W base spare held fuel 26 cs = some x) : ∃ s : Nat, cs = [.int .u64 (s : Int)] ∧ s < 18446744073709551616 := by
 obtain ⟨k, hk, _, wk⟩ := DataW.trod_int underlying26 h; have : 0 ≤ k ∧ k ≤ 18446744073709551615 := by simpa [Lit.wf, IntKind.min, IntKind.max, IntKind.signed, IntKind.bits] using wk
 exact ⟨k.toNat, by rw [hk, Int.toNat_of_nonneg this.1], by omega⟩
theorem row_rows (h : DataW.trod enc prog W base spare held fuel 22 cs = some x) : ∃ (v : Value) (l : Rws), cs = [v] ∧ Grid W v l ∧ Rng l := by
 obtain ⟨u, ls, hu, hG, hR, -⟩ := open_grid underlying22 underlying67 underlying3 (by kernel_rfl) (by kernel_rfl) (by kernel_rfl) (by kernel_rfl) h; exact ⟨u, ls, hu, hG, hR⟩
theorem cell_of {t : TypeId} {k : Nat} {c : Value} (hc : prog.cellsOf t = 1) (hk : cs[k]? = some c) (h : DataW.trod enc prog W base spare held fuel t ((cs.drop k).take (prog.cellsOf t)) = some x) : DataW.trod enc prog W base spare held fuel t [c] = some x := by
 rw [hc] at h; have hlt := (List.getElem?_eq_some_iff.1 hk).1; have he := (List.getElem?_eq_some_iff.1 hk).2; rw [List.drop_eq_getElem_cons hlt, List.take_succ_cons, List.take_zero, he] at h; exact h
end
structure PBulk (N : Nat) (lp : List (List Oq)) (lk : List PP) : Prop where
 pk : lk.length ≤ N
 row : ∀ l ∈ lp, l.length ≤ N
 pg : lp.length ≤ N
section
variable {H : Type} {enc : TypeId × Value → H} {W : World} {base fuel : Nat} {spare : Nat → Bool} {held : Bool} {cs : List Value} {x : DataW H × List MemPlace}
theorem bulk_in {d : DataW H} : ∀ {l : List (DataW H)}, d ∈ l → Rows.uptoBulk d ≤ Rows.uptoBulkAll l
 | [], h => by cases h
 | y :: l, h => by
   simp only [Rows.uptoBulkAll]; rcases List.mem_cons.1 h with rfl | h
   · omega
   · have := bulk_in h; omega
theorem row_ops_b (h : DataW.trod enc prog W base spare held fuel 87 cs = some x) : ∃ (v : Value) (l : List Oq), cs = [v] ∧ Oqs W v l ∧ l.length ≤ Rows.uptoBulk x.1 := by
 obtain ⟨v, l, rfl, hl, hd⟩ := sl_of_trod1 (α := Oq) (ce := oq) (Q := fun _ _ => True) (size := 4) underlying87 (by kernel_rfl) (by decide) oq_len (fun n cs x hx => by
  obtain ⟨y0, y1, y2, y3, m, hx0, hl, h0, h1, h2, h3⟩ := Joins.trod_struct4 underlying96 hx; have hc : prog.cellsOf 96 = 4 := by kernel_rfl
  rw [hc] at hl; obtain ⟨k, hk, _, wk⟩ := DataW.trod_int underlying3 h0; obtain ⟨t, ht, _, wt⟩ := DataW.trod_int underlying3 h1; obtain ⟨a, ha, _, wa⟩ := DataW.trod_int underlying3 h2; obtain ⟨b, hb, _, wb⟩ := DataW.trod_int underlying3 h3; have e1 : prog.cellsOf 3 = 1 := by kernel_rfl
  simp only [e1] at hk ht ha hb; match cs, hl with
  | [c0, c1, c2, c3], _ =>
    simp only [List.drop_zero, List.drop_succ_cons, List.take_succ_cons, List.take_zero, List.cons.injEq, and_true] at hk ht ha hb; subst hk ht ha hb; exact ⟨⟨k, t, a, b⟩, rfl, trivial⟩) h
 refine ⟨v, l, rfl, hl, ?_⟩; have := slice_bulk (l := l) (d := x.1) (hd.imp id fun ⟨el, rest, h1, h2, _⟩ => ⟨el, rest, h1, h2⟩); omega
theorem rows_ops_b (h : DataW.trod enc prog W base spare held fuel 27 cs = some x) : ∃ (v : Value) (l : List (List Oq)), cs = [v] ∧ GridO W v l ∧ l.length ≤ Rows.uptoBulk x.1 ∧ ∀ r ∈ l, r.length ≤ Rows.uptoBulk x.1 := by
 obtain ⟨v, vs, rfl, hv, hd⟩ := sl_of_trod1 (α := Value) (ce := one) (Q := fun u d => ∃ l : List Oq, Oqs W u l ∧ l.length ≤ Rows.uptoBulk d) (size := 1) underlying27 (by kernel_rfl) (by decide) (fun _ => rfl)
  (fun n cs x hx => by
   obtain ⟨u, l, rfl, hr, hb⟩ := row_ops_b hx; exact ⟨u, rfl, l, hr, hb⟩) h
 rcases hd with ⟨h0, rfl⟩ | ⟨el, rest, h0, hel, hq'⟩
 · exact ⟨v, [], rfl, ⟨[], hv, rfl, by simp⟩, by simp, by simp⟩
 · obtain ⟨ls, hll, hls⟩ := list_of (fun i (l : List Oq) => ∀ u, vs[i]? = some u → Oqs W u l ∧ ∃ d ∈ el, l.length ≤ Rows.uptoBulk d) vs.length (fun i hi => by
    obtain ⟨l, hl, hb⟩ := hq' i vs[i] (el[i]'(by omega)) (List.getElem?_eq_getElem hi) (List.getElem?_eq_getElem (by omega)); exact ⟨l, fun u hu => by rw [List.getElem?_eq_getElem hi] at hu; cases hu; exact ⟨hl, _, List.getElem_mem _, hb⟩⟩)
   refine ⟨v, ls, rfl, ⟨vs, hv, hll.symm, fun i u l hu hl => (hls i l hl u hu).1⟩, ?_, fun r hr => ?_⟩
   · rw [h0]
     have := bulk_all_len el; simp only [Rows.uptoBulk]; omega
   · obtain ⟨i, hi, rfl⟩ := List.mem_iff_getElem.1 hr
     obtain ⟨-, d, hd, hb⟩ := hls i _ (List.getElem?_eq_getElem hi) (vs[i]'(by omega)) (List.getElem?_eq_getElem (by omega)); have := bulk_in hd; rw [h0]; simp only [Rows.uptoBulk]; omega
theorem row_picks_b (h : DataW.trod enc prog W base spare held fuel 28 cs = some x) : ∃ (v : Value) (l : List PP), cs = [v] ∧ Picks W v l ∧ l.length ≤ Rows.uptoBulk x.1 := by
 obtain ⟨v, l, rfl, hl, hd⟩ := sl_of_trod1 (α := PP) (ce := pc) (Q := fun _ _ => True) (size := 2) underlying28 cellsPick (by decide) pc_len (fun n cs x hx => by
  obtain ⟨p, hp, -⟩ := pick_elem n cs x hx; exact ⟨p, hp, trivial⟩) h
 refine ⟨v, l, rfl, hl, ?_⟩; have := slice_bulk (l := l) (d := x.1) (hd.imp id fun ⟨el, rest, h1, h2, _⟩ => ⟨el, rest, h1, h2⟩); omega
end
theorem open_plan_b {H : Type} {enc : TypeId × Value → H} {W : World} {base : Nat} {spare : Nat → Bool} {held : Bool} {v : Value} {d : DataW H} {ps : List MemPlace} {r : Reach} {b0 : Nat} (ok : Value.okWide prog W r b0 30 v) (h : DataW.Trod enc prog W base spare held 30 v d ps) :
 ∃ (a b c d_ e f g h n : Int) (ob : Value) (s : Nat) (rg pg pk : Value) (lo lr : Rws) (lp : List (List Oq)) (lk : List PP), v = planV a b c d_ e f g h n ob s rg pg pk ∧ PlanR W ob rg pg pk ⟨a, b, c, d_, e, f, g, h, n, lo, s, lr, lp, lk⟩ ∧
   s < 18446744073709551616 ∧ Rng lo ∧ Rng lr ∧ PBulk (Rows.uptoBulk d) lp lk := by
 obtain ⟨cs, rfl, hsz⟩ := okWide_struct underlying30 ok; obtain ⟨fuel, hf⟩ := h; obtain ⟨v0, v1, v2, v3, v4, v5, v6, v7, v8, v9, va, vb, vc, vd, rfl⟩ := array14 (hsz.trans (by kernel_rfl)); obtain ⟨xs, m, _, hdd, -, hxl, hg⟩ := DataW.trod_struct underlying30 hf; obtain ⟨x0, x1, x2, x3, x4, x5, x6, x7, x8, x9, xa, xb, xc, rfl⟩ := list13 hxl; obtain ⟨a, ha, -⟩ := row_int (cell_of (c := v0) (by kernel_rfl) rfl (hg 0 _ rfl)); obtain ⟨b, hb, -⟩ := row_int (cell_of (c := v1) (by kernel_rfl) rfl (hg 1 _ rfl)); obtain ⟨c, hc, -⟩ := row_int (cell_of (c := v2) (by kernel_rfl) rfl (hg 2 _ rfl)); obtain ⟨d', hd', -⟩ := row_int (cell_of (c := v3) (by kernel_rfl) rfl (hg 3 _ rfl)); obtain ⟨e, he, -⟩ := row_int (cell_of (c := v4) (by kernel_rfl) rfl (hg 4 _ rfl)); obtain ⟨f, hf', -⟩ := row_int (cell_of (c := v5) (by kernel_rfl) rfl (hg 5 _ rfl)); obtain ⟨g, hg', -⟩ := row_int64 (cell_of (c := v6) (by kernel_rfl) rfl (hg 6 _ rfl)); obtain ⟨h, hh, -⟩ := row_int64 (cell_of (c := v7) (by kernel_rfl) rfl (hg 7 _ rfl)); have h8 : DataW.trod enc prog W base spare held m 24 (([v0, v1, v2, v3, v4, v5, v6, v7, v8, v9, va, vb, vc, vd].drop 8).take (prog.cellsOf 24)) = some x8 := hg 8 _ rfl; have c2 : prog.cellsOf 24 = 2 := by kernel_rfl
 have h8' : DataW.trod enc prog W base spare held m 24 [v8, v9] = some x8 := by
  rw [c2] at h8; exact h8
 obtain ⟨y0, y1, m', hx8, -, k0, k1⟩ := trod_struct2 underlying24 h8'; obtain ⟨n, hn, -⟩ := row_int (cell_of (c := v8) (by kernel_rfl) rfl k0); obtain ⟨ob, lo, ho, hGo, hRo⟩ := row_rows (cell_of (c := v9) (by kernel_rfl) rfl k1); obtain ⟨s, hs, is⟩ := row_setPl (cell_of (c := va) (by kernel_rfl) rfl (hg 9 _ rfl)); obtain ⟨rg, lr, hr, hGr, hRr⟩ := row_rows (cell_of (c := vb) (by kernel_rfl) rfl (hg 10 _ rfl)); obtain ⟨pg, lp, hp, hGp, b1, b2⟩ := rows_ops_b (cell_of (c := vc) (by kernel_rfl) rfl (hg 11 _ rfl)); obtain ⟨pk, lk, hk, hGk, b3⟩ := row_picks_b (cell_of (c := vd) (by kernel_rfl) rfl (hg 12 _ rfl)); simp only [List.cons.injEq, and_true] at ha hb hc hd' he hf' hg' hh hn ho hs hr hp hk; subst ha hb hc hd' he hf' hg' hh hn ho hs hr hp hk; have ed := congrArg Prod.fst hdd; dsimp only at ed; have q1 : Rows.uptoBulk xb.1 ≤ Rows.uptoBulk d := by rw [ed]; have := bulk_in (d := xb.1) (l := [x0, x1, x2, x3, x4, x5, x6, x7, x8, x9, xa, xb, xc].map (·.1)) (by simp); simp only [Rows.uptoBulk]; omega
 have q2 : Rows.uptoBulk xc.1 ≤ Rows.uptoBulk d := by rw [ed]; have := bulk_in (d := xc.1) (l := [x0, x1, x2, x3, x4, x5, x6, x7, x8, x9, xa, xb, xc].map (·.1)) (by simp); simp only [Rows.uptoBulk]; omega
 exact ⟨a, b, c, d', e, f, g, h, n, _, s, _, _, _, lo, lr, lp, lk, rfl, ⟨hGo, hGr, hGp, hGk⟩, is, hRo, hRr, ⟨by omega, fun l hl => by have := b2 l hl; omega, by omega⟩⟩
end Go.Proofs.YtjbaiibbgplljaaGreatDoor
namespace Go.Proofs.YtjbaiibbgplljaaGreatDoor
open Go.Proofs.Tryz
open Go.RowKit Go.WideShapes Go.ChangeShapes Go.ChangeAt Go.Shelf Go.Proofs
theorem star_esT : "*" ++ "errors.errorString" = "*errors.errorString" := by decide
theorem row_esT (u : TypeId) (h : prog.typeName? 3 u = some "*errors.errorString") : u = 293 :=
 typeName_ptr_named (nm := "errors.errorString") (by rw [star_esT]; kernel_rfl) (by kernel_rfl) (by decide) u (by rw [star_esT]; exact h)
theorem sentinel_cellT {r : List (String × DataW Unit)} {W : World} {n : String} {text : List UInt8} {g : Nat} (h : laidMet prog ((n, .iface "*errors.errorString" (.ptr (.agg [.lit (.string text)]))) :: r) W)
 (hg : prog.globalNamed n = some g) (ht : (prog.globals[g]?).map (·.type) = some 155) : ∃ te pe, W.cell? ⟨g, 0, none⟩ = some (.iface te pe) := by
 obtain ⟨a, s, hv, -⟩ := laid_sentinel (tp := 293) (te := 295) (ts := 9) h hg ht underlying155 row_esT underlying293 underlying295 rfl rfl underlying9 (by kernel_rfl) (by kernel_rfl); have := World.var?_cell hg hv 0; exact ⟨_, _, by simpa using this⟩
theorem tab64_dataT : (Rows.laid_math_bits_deBruijn64tab : DataW Unit) = Go.Lib.tabData .u8 (Go.Lib.deBruijn64tab.map Int.ofNat) := rfl
theorem tab10_dataT : (Rows.laid_internal_strconv_uint64pow10 : DataW Unit) = Go.Lib.tabData .u64 Go.Lib.pow10Tab := rfl
theorem env_of_laidT_ {W : World} (h : laidMetH prog Rows.planTellsUptoRow.laid W) (hs : W.ShapedOpen prog) : EnvP W := by
 rw [MakeChecks.laidMetH_plain _ _ _ (by kernel_rfl)] at h; have h1 := laidMet.tail h; have h2 := laidMet.tail h1; have h3 := laidMet.tail h2; have h4 := laidMet.tail h3; have h5 := laidMet.tail h4; have hsyn := sentinel_cellT (g := 5) h5 (by kernel_rfl) (by kernel_rfl); have hrng := sentinel_cellT (g := 6) h4 (by kernel_rfl) (by kernel_rfl); rw [tab64_dataT] at h1; rw [tab10_dataT] at h2; refine ⟨⟨fun j hj => ?_, hsyn, hrng, ?_⟩, ⟨Go.Lib.tabIs_of_head (g := 2) (t := 259) (by kernel_rfl) (by kernel_rfl) underlying259 underlying25 (by kernel_rfl) (by kernel_rfl) h2, hsyn, hrng⟩⟩
 · have ht := Go.Lib.tabIs_of_head (g := 1) (t := 240) (by kernel_rfl) (by kernel_rfl) underlying240 underlying5 (by kernel_rfl) (by kernel_rfl) h1
   have := ht.cell (g := 1) (by kernel_rfl) j (by simpa using hj); rw [this]; simp [List.getD, hj]
 · exact cell_of_shapedOpen_int (t := 3) (zero := #[.int .i64 0]) hs (of_decide_eq_true (by kernel_rfl)) (by kernel_rfl) rfl (by kernel_rfl) (by kernel_rfl) underlying3
