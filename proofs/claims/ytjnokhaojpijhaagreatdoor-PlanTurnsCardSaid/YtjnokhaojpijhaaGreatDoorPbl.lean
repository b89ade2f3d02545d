import Derived.Shelf.Vars
import Derived.Lib.SmallJoins
import Derived.Test.YtjnokhaojpijhaaGreatDoorPbk
import Derived.Test.YtjnokhaojpijhaaGreatDoorPbc
import Derived.Test.YtjnokhaojpijhaaGreatDoorPae
import Derived.Test.YtjnokhaojpijhaaGreatDoorPae
import Derived.Test.YtjnokhaojpijhaaGreatDoorPae
/- Layer plan: the law's examples. Written by tools/genplanr8.py. -/
namespace Go.Proofs.YtjnokhaojpijhaaGreatDoor
open Go.RowKit Go.Joins Go.Shelf Go.Proofs
def exQ : Pq := ⟨2, 1, 4, 2, 2, 8, 3, 5, 1, [[2], [0], [0]], 1, [[3, 0]], [[⟨1, 1, 0, 0⟩, ⟨2, 1, 0, 0⟩]], [(0, 0), (1, 1), (2, 1)]⟩
theorem Right_zero (w : World) : Calls Tryz.prog 16 #[.agg #[.int .i64 0, .int .i64 0, .int .i64 0, .int .i64 0, .int .i64 0, .int .i64 0, .int .i64 0, .int .i64 0, .int .i64 0, .slice none 0 0, .int .u64 0, .slice none 0 0, .slice none 0 0, .slice none 0 0]] w fun x w' => x = .returned (.bool false) ∧ Below w.heap.size w w' :=
  pRight_c 0 0 0 0 0 0 0 0 0 (.slice none 0 0) 0 (.slice none 0 0) (.slice none 0 0) (.slice none 0 0) [] [] [] [] w (by decide) (planR_zero w) false (by decide +kernel)
theorem Text_zero (w : World) (hE : EnvP w) : Calls Tryz.prog 26 #[.agg #[.int .i64 0, .int .i64 0, .int .i64 0, .int .i64 0, .int .i64 0, .int .i64 0, .int .i64 0, .int .i64 0, .int .i64 0, .slice none 0 0, .int .u64 0, .slice none 0 0, .slice none 0 0, .slice none 0 0]] w fun x w' => x = .returned (.string ⟨#[]⟩) ∧ Below w.heap.size w w' :=
  pText_any 0 0 0 0 0 0 0 0 0 (.slice none 0 0) 0 (.slice none 0 0) (.slice none 0 0) (.slice none 0 0) [] [] [] [] w (by decide) (planR_zero w) hE [] (by decide +kernel)
set_option maxRecDepth 100000 in
set_option maxHeartbeats 16000000 in
theorem examples_anyPl (w : World) (hE : EnvP w) : Calls Tryz.prog 9 #[] w fun x w' => x = .returned (.bool true) ∧ Below w.heap.size w w' := by
  have HE := hide hE
  clear hE
  go_enter Tryz.func9, Tryz.ntmps9
  go_wp2_with fail
  (with_reducible refine (pParse_h _ _ (by decide +kernel) HE.out exQ 0 (by decide +kernel) 3 1 1 3 rfl rfl rfl rfl).mono ?_)
  rintro x wa ⟨a, b, c, d, e, f, g, h, n, s, lo, lr, lp, lk, A0, c0, A1, c1, A2, c2, A3, c3, rfl, HR, HQ, hba⟩
  obtain ⟨w1, e1, hb1, -, X⟩ := bp_new wa a b c d e f g h n (.slice A0 3 c0) s (.slice A1 1 c1) (.slice A2 1 c2) (.slice A3 3 c3) 30
  have HX := hide X
  have HE1 := hide e1
  have HBA := hide (bcall hba hb1)
  have HR := hide (HR.out.below hb1)
  have HEn := hide (HE.out.below HBA.out)
  clear e1 X hba hb1
  go_upto_region 3 with (fail)
  rw [HE1.out]
  go_wp2_with fail
  (with_reducible refine (pParse_h _ _ (by decide +kernel) HEn.out zeroQ 1 (by decide +kernel) 0 0 0 0 rfl rfl rfl rfl).mono ?_)
  rintro x wb ⟨a', b', c', d', e', f', g', h', n', s', -, -, -, -, A0', c0', A1', c1', A2', c2', A3', c3', rfl, -, -, hbb⟩
  obtain ⟨w2, e2, hb2, -, -⟩ := bp_new wb a' b' c' d' e' f' g' h' n' (.slice A0' 0 c0') s' (.slice A1' 0 c1') (.slice A2' 0 c2') (.slice A3' 0 c3') 30
  have HE2 := hide e2
  have HBC := hide (bcall hbb hb2)
  clear e2 hbb hb2
  go_upto_region 4 with (fail)
  rw [HE2.out]
  go_wp2_with fail
  (with_reducible refine (pParse_h _ _ (by decide +kernel) (HEn.out.below HBC.out) zeroQ 2 (by decide +kernel) 0 0 0 0 rfl rfl rfl rfl).mono ?_)
  rintro x wc ⟨a'', b'', c'', d'', e'', f'', g'', h'', n'', s'', -, -, -, -, A0'', c0'', A1'', c1'', A2'', c2'', A3'', c3'', rfl, -, -, hbb⟩
  obtain ⟨w3, e3, hb3, -, -⟩ := bp_new wc a'' b'' c'' d'' e'' f'' g'' h'' n'' (.slice A0'' 0 c0'') s'' (.slice A1'' 0 c1'') (.slice A2'' 0 c2'') (.slice A3'' 0 c3'') 30
  have HE3 := hide e3
  have HBC := hide (bcall HBC.out (bcall hbb hb3))
  clear e3 hbb hb3
  go_upto_region 5 with (fail)
  rw [HE3.out]
  obtain ⟨x0, x1, x2, x3, x4, x5, x6, x7, x8, x9, xa, xb, xc, xd⟩ := (HX.out.below HBC.out).cells
  obtain ⟨qa, qb, qf, qh, qs, qlo, qlr, qlp⟩ : a = 2 ∧ b = 1 ∧ f = 8 ∧ h = 5 ∧ s = 1 ∧ lo = [[2], [0], [0]] ∧ lr = [[3, 0]] ∧ lp = [[⟨1, 1, 0, 0⟩, ⟨2, 1, 0, 0⟩]] := ⟨congrArg Pq.wk HQ.out, congrArg Pq.mu HQ.out, congrArg Pq.mo HQ.out, congrArg Pq.li HQ.out, congrArg Pq.ro HQ.out, congrArg Pq.ob HQ.out, congrArg Pq.rg HQ.out, congrArg Pq.pg HQ.out⟩
  have ka : (a == 2) = true := by rw [qa]; rfl
  have kh : (h == 5) = true := by rw [qh]; rfl
  have kf : (f == 8) = true := by rw [qf]; rfl
  have HS := hide (show s < 18446744073709551616 by rw [qs]; decide)
  have HT := hide (show pText (⟨a, b, c, d, e, f, g, h, n, lo, s, lr, lp, lk⟩ : Pq) = ([101, 110, 103, 105, 110, 101, 32, 50, 32, 49, 32, 52, 32, 50, 32, 50, 32, 56, 32, 51, 32, 53, 10, 104, 101, 97, 112, 32, 49, 124, 50, 124, 48, 124, 48, 10, 114, 111, 111].append [116, 115, 32, 49, 10, 109, 117, 116, 97, 116, 111, 114, 32, 51, 44, 48, 32, 66, 61, 65, 46, 48, 59, 65, 46, 48, 61, 66, 10, 112, 105, 99, 107, 115, 32, 46, 97, 206, 177, 10] : B8) by rw [HQ.out]; decide +kernel)
  have HRt := hide (show pRight (⟨a, b, c, d, e, f, g, h, n, lo, s, lr, lp, lk⟩ : Pq) = true by rw [HQ.out]; decide +kernel)
  have HBn := hide (show wrap64 (wrap64 (f + a) + b) = 11 by rw [qf, qa, qb]; decide +kernel)
  have HG := hide (show grF s lr lr.length = 5 by rw [qs, qlr]; decide +kernel)
  have HL := hide (show fromF lo (grF s lr lr.length) = 7 by rw [HG.out, qlo]; decide +kernel)
  have HW := hide (show wrap64 ((lp.map cWrites).sum : Nat) = 1 by rw [qlp]; decide +kernel)
  have HRg := hide (show Rng lr by rw [qlr]; show ∀ l ∈ ([[3, 0]] : Rws), ∀ o ∈ l, -9223372036854775808 ≤ o ∧ o ≤ (9223372036854775807 : Int); decide)
  clear HQ qa qb qf qh qs qlo qlr qlp
  go_wp2_with fail
  (with_reducible refine (pText_any a b c d e f g h n (.slice A0 3 c0) s (.slice A1 1 c1) (.slice A2 1 c2) (.slice A3 3 c3) lo lr lp lk _ HS.out (HR.out.below HBC.out) (HEn.out.below HBC.out) _ HT.out).mono ?_)
  rintro x w10 ⟨rfl, hb⟩
  have HBC := hide (bcall HBC.out hb)
  clear hb
  clear x0 x1 x2 x3 x4 x5 x6 x7 x8 x9 xa xb xc xd
  obtain ⟨x0, x1, x2, x3, x4, x5, x6, x7, x8, x9, xa, xb, xc, xd⟩ := (HX.out.below HBC.out).cells
  go_wp2_with fail
  (with_reducible refine (pRight_c a b c d e f g h n (.slice A0 3 c0) s (.slice A1 1 c1) (.slice A2 1 c2) (.slice A3 3 c3) lo lr lp lk _ HS.out (HR.out.below HBC.out) true HRt.out).mono ?_)
  rintro x w11 ⟨rfl, hb⟩
  have HBC := hide (bcall HBC.out hb)
  clear hb
  clear x0 x1 x2 x3 x4 x5 x6 x7 x8 x9 xa xb xc xd
  obtain ⟨x0, x1, x2, x3, x4, x5, x6, x7, x8, x9, xa, xb, xc, xd⟩ := (HX.out.below HBC.out).cells
  go_wp2_with fail
  (with_reducible refine (pBins_c a b c d e f g h n (.slice A0 3 c0) s (.slice A1 1 c1) (.slice A2 1 c2) (.slice A3 3 c3) _ 11 HBn.out).mono ?_)
  rintro x w12 ⟨rfl, hb⟩
  have HBC := hide (bcall HBC.out hb)
  clear hb
  clear x0 x1 x2 x3 x4 x5 x6 x7 x8 x9 xa xb xc xd
  obtain ⟨x0, x1, x2, x3, x4, x5, x6, x7, x8, x9, xa, xb, xc, xd⟩ := (HX.out.below HBC.out).cells
  go_wp2_with fail
  (with_reducible refine (pGreys_c a b c d e f g h n (.slice A0 3 c0) s (.slice A1 1 c1) (.slice A2 1 c2) (.slice A3 3 c3) lr _ HS.out (HR.out.rg.below HBC.out) HRg.out 5 HG.out).mono ?_)
  rintro x w13 ⟨rfl, hb⟩
  have HBC := hide (bcall HBC.out hb)
  clear hb
  clear x0 x1 x2 x3 x4 x5 x6 x7 x8 x9 xa xb xc xd
  obtain ⟨x0, x1, x2, x3, x4, x5, x6, x7, x8, x9, xa, xb, xc, xd⟩ := (HX.out.below HBC.out).cells
  go_wp2_with fail
  (with_reducible refine (pLive_c a b c d e f g h n (.slice A0 3 c0) s (.slice A1 1 c1) (.slice A2 1 c2) (.slice A3 3 c3) lo lr _ HS.out (HR.out.rg.below HBC.out) HRg.out (HR.out.ob.below HBC.out) (HEn.out.below HBC.out).t 7 HL.out).mono ?_)
  rintro x w14 ⟨rfl, hb⟩
  have HBC := hide (bcall HBC.out hb)
  clear hb
  clear x0 x1 x2 x3 x4 x5 x6 x7 x8 x9 xa xb xc xd
  obtain ⟨x0, x1, x2, x3, x4, x5, x6, x7, x8, x9, xa, xb, xc, xd⟩ := (HX.out.below HBC.out).cells
  go_wp2_with fail
  (with_reducible refine (pWrites_c a b c d e f g h n (.slice A0 3 c0) s (.slice A1 1 c1) (.slice A2 1 c2) (.slice A3 3 c3) lp _ (HR.out.pg.below HBC.out) 1 HW.out).mono ?_)
  rintro x w15 ⟨rfl, hb⟩
  have HBC := hide (bcall HBC.out hb)
  clear hb
  clear x0 x1 x2 x3 x4 x5 x6 x7 x8 x9 xa xb xc xd
  obtain ⟨x0, x1, x2, x3, x4, x5, x6, x7, x8, x9, xa, xb, xc, xd⟩ := (HX.out.below HBC.out).cells
  go_wp2_with fail
  (with_reducible refine (pSame_c a b c d e f g h n (.slice A0 3 c0) s (.slice A1 1 c1) (.slice A2 1 c2) (.slice A3 3 c3) lo lr lp lk a b c d e f g h n (.slice A0 3 c0) s (.slice A1 1 c1) (.slice A2 1 c2) (.slice A3 3 c3) lo lr lp lk _ (HR.out.below HBC.out) (HR.out.below HBC.out) true (decide_eq_true rfl)).mono ?_)
  rintro x w16 ⟨rfl, hb⟩
  have HBC := hide (bcall HBC.out hb)
  clear hb
  clear x0 x1 x2 x3 x4 x5 x6 x7 x8 x9 xa xb xc xd
  go_wp2_with fail
  (with_reducible refine (Right_zero _).mono ?_)
  rintro x w17 ⟨rfl, hb⟩
  have HBC := hide (bcall HBC.out hb)
  clear hb
  go_wp2_with fail
  (with_reducible refine (Text_zero _ (HEn.out.below HBC.out)).mono ?_)
  rintro x w18 ⟨rfl, hb⟩
  have HBC := hide (bcall HBC.out hb)
  clear hb
  go_wp2
  go_ret
  exact ⟨rfl, bcall HBA.out HBC.out⟩
end Go.Proofs.YtjnokhaojpijhaaGreatDoor
/- Layer plan: plans that came in. -/
namespace Go.Proofs.YtjnokhaojpijhaaGreatDoor
open Go.RowKit Go.WideShapes Go.ChangeShapes Go.ChangeAt Go.Deep
end Go.Proofs.YtjnokhaojpijhaaGreatDoor
/- Layer plan: what the listed variables hold, for the walks. -/
namespace Go.Proofs.YtjnokhaojpijhaaGreatDoor
open Go.RowKit Go.WideShapes Go.ChangeShapes Go.ChangeAt Go.Shelf Go.Proofs
theorem star_esP : "*" ++ "errors.errorString" = "*errors.errorString" := by decide
theorem row_esP (u : TypeId) (h : Tryz.prog.typeName? 3 u = some "*errors.errorString") : u = 301 :=
  typeName_ptr_named (nm := "errors.errorString") (by rw [star_esP]; kernel_rfl) (by kernel_rfl) (by decide) u (by rw [star_esP]; exact h)
theorem sentinel_cellP {r : List (String × DataW Unit)} {W : World} {n : String} {text : List UInt8} {g : Nat} (h : laidMet Tryz.prog ((n, .iface "*errors.errorString" (.ptr (.agg [.lit (.string text)]))) :: r) W)
    (hg : Tryz.prog.globalNamed n = some g) (ht : (Tryz.prog.globals[g]?).map (·.type) = some 164) : ∃ te pe, W.cell? ⟨g, 0, none⟩ = some (.iface te pe) := by
  obtain ⟨a, s, hv, -⟩ := laid_sentinel (tp := 301) (te := 303) (ts := 9) h hg ht Tryz.underlying164 row_esP Tryz.underlying301 Tryz.underlying303 rfl rfl Tryz.underlying9 (by kernel_rfl) (by kernel_rfl)
  have := World.var?_cell hg hv 0
  exact ⟨_, _, by simpa using this⟩
theorem tab64_data : (Rows.laid_math_bits_deBruijn64tab : DataW Unit) = Go.Lib.tabData .u8 (Go.Lib.deBruijn64tab.map Int.ofNat) := rfl
theorem tab10_data : (Rows.laid_internal_strconv_uint64pow10 : DataW Unit) = Go.Lib.tabData .u64 Go.Lib.pow10Tab := rfl
theorem env_of_laidP {W : World} (h : laidMetH Tryz.prog Rows.planGreysRow.laid W) (hs : W.ShapedOpen Tryz.prog) : EnvP W := by
  rw [MakeChecks.laidMetH_plain _ _ _ (by kernel_rfl)] at h
  have h1 := laidMet.tail h
  have h2 := laidMet.tail h1
  have h3 := laidMet.tail h2
  have h4 := laidMet.tail h3
  have h5 := laidMet.tail h4
  have hsyn := sentinel_cellP (g := 5) h5 (by kernel_rfl) (by kernel_rfl)
  have hrng := sentinel_cellP (g := 6) h4 (by kernel_rfl) (by kernel_rfl)
  rw [tab64_data] at h1
  rw [tab10_data] at h2
  refine ⟨⟨fun j hj => ?_, hsyn, hrng, ?_⟩, ⟨Go.Lib.tabIs_of_head (g := 2) (t := 267) (by kernel_rfl) (by kernel_rfl) Tryz.underlying267 Tryz.underlying25 (by kernel_rfl) (by kernel_rfl) h2, hsyn, hrng⟩⟩
  · have ht := Go.Lib.tabIs_of_head (g := 1) (t := 249) (by kernel_rfl) (by kernel_rfl) Tryz.underlying249 Tryz.underlying5 (by kernel_rfl) (by kernel_rfl) h1
    have := ht.cell (g := 1) (by kernel_rfl) j (by simpa using hj)
    rw [this]
    simp [List.getD, hj]
  · exact cell_of_shapedOpen_int (t := 3) (zero := #[.int .i64 0]) hs (of_decide_eq_true (by kernel_rfl)) (by kernel_rfl) rfl (by kernel_rfl) (by kernel_rfl) Tryz.underlying3
end Go.Proofs.YtjnokhaojpijhaaGreatDoor
