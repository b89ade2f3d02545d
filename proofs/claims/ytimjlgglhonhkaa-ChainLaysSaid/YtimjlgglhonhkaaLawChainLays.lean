/- ChainLays: for any nodes by bytes, any number: what was laid is listed, in order, up to as many as are asked for; the versions begin at 0. No condition. -/
import Derived.Test.YtimjlgglhonhkaaChainEx
import Derived.Test.YtimjlgglhonhkaaMemOpen
import Derived.Test.YtimjlgglhonhkaaBagQ
import Derived.Deep.Cut
import Derived.Deep.RegionHeldLaw
namespace Go.Proofs.Ytimjlgglhonhkaa.ch.lawChainLays
open Go.RowKit Go.WideShapes Go.ChangeShapes Go.ChangeAt Go.Proofs Go.Proofs.Ytimjlgglhonhkaa

abbrev cst (L : List Nat) : List Int := L.map fun (x : Nat) => (x : Int)
theorem bytes_at {w : World} {A : Option Addr} {n c k : Nat} {l : List Int} (h : Bytes w (.slice A n c) l) (hk : k < l.length) :
    ∃ b off, A = some ⟨b, off, none⟩ ∧ w.cell? ⟨b, off + k, none⟩ = some (.int .u8 l[k]) := by
  obtain ⟨A', c', e, h1, h2, h3⟩ := h
  injection e with e1 e2 e3
  subst e1
  obtain ⟨b, off, rfl, hb, hc⟩ := h3 (by omega)
  refine ⟨b, off, rfl, ?_⟩
  have := hc k l[k] (List.getElem?_eq_getElem hk) 0 (.int .u8 l[k]) rfl
  simpa using this
theorem cells_first {w : World} {gb ob n c k : Nat} {m : List Int} {z : Int} (h : Cells w (.slice (some ⟨gb, ob, none⟩) n c) m) (hk : k < m.length) (hz : m.getD k 0 = z) : w.cell? ⟨gb, ob + k, none⟩ = some (.int .u64 z) := by
  obtain ⟨b0, off0, e, -, h0⟩ := cells_at h hk
  injection e with e; injection e with e1 e2; subst e1 e2
  rw [h0, ← hz, List.getD_eq_getElem?_getD, List.getElem?_eq_getElem hk]
  rfl
/-- distinct nodes, from 1 to 20 -/
structure Nds (L : List Nat) : Prop where
  nd : L.Nodup
  rg : ∀ x ∈ L, 1 ≤ x ∧ x ≤ 20
theorem Nds.len {L : List Nat} (h : Nds L) : L.length ≤ 20 := by
  have hn2 : (L.map fun (x : Nat) => (x : Int)).Nodup := List.pairwise_map.2 (h.nd.imp fun {a b} hab h => hab (by have h2 : (a : Int) = (b : Int) := h; omega))
  have hcast := nodup_len_le (ks := L.map fun (x : Nat) => (x : Int)) (b := (List.range' 1 20).map fun (x : Nat) => (x : Int)) hn2 fun o ho => by
    obtain ⟨x, hx, rfl⟩ := List.mem_map.1 ho
    have := h.rg x hx
    exact List.mem_map.2 ⟨x, List.mem_range'_1.2 (by omega), rfl⟩
  simpa using hcast
theorem Nds.add {L : List Nat} (h : Nds L) {x : Nat} (h1 : 1 ≤ x) (h2 : x ≤ 20) (hx : x ∉ L) : Nds (L ++ [x]) :=
  ⟨List.nodup_append.2 ⟨h.nd, by simp, fun a ha b hb e => by simp at hb; subst hb; subst e; exact hx ha⟩, fun y hy => by
    rcases List.mem_append.1 hy with hy | hy
    · exact h.rg y hy
    · simp at hy; subst hy; exact ⟨h1, h2⟩⟩
structure LdAt (w0 : World) (L : List Nat) (k : Nat) (v : Value) (wr : World) : Prop where
  own : wr.ownsRow w0.heap.size 3 1 v k ((cst L).flatMap ic)
  below : Below w0.heap.size w0 wr
  len : L.length = k
  nds : Nds L
theorem take_mem {L : List Nat} {k x : Nat} (h : k < L.length) : decide (x ∈ L.take (k + 1)) = (decide (x ∈ L.take k) || decide (L[k] = x)) := by
  rw [List.take_succ_eq_append_getElem h]
  by_cases h1 : x ∈ L.take k
  · rw [decide_eq_true h1, Bool.true_or]
    exact decide_eq_true (List.mem_append_left _ h1)
  · by_cases h2 : L[k] = x
    · rw [decide_eq_false h1, decide_eq_true h2, Bool.false_or]
      exact decide_eq_true (List.mem_append_right _ (by rw [h2]; simp))
    · have h3 : ¬ x = L[k] := fun e => h2 e.symm
      rw [decide_eq_false h1, decide_eq_false h2, Bool.false_or]
      exact decide_eq_false fun hm => by
        rcases List.mem_append.1 hm with hm | hm
        · exact h1 hm
        · exact h3 (by simpa using hm)
set_option maxRecDepth 100000 in
set_option maxHeartbeats 8000000 in
theorem walk (v : Value) (lb : List Int) (a1 : Int) (w : World) (h : Bytes w v lb) (hlb : ∀ p ∈ lb, 0 ≤ p ∧ p ≤ 255) (ha : 0 ≤ a1 ∧ a1 ≤ 255) : Calls Try.prog 9 #[v, .int .u8 a1] w fun e w' => e = .returned (.bool true) ∧ Below w.heap.size w w' := by
  have hB : Below w.heap.size w w := Below.refl _ _
  obtain ⟨iI, hiI, hzI0, hzI1, hzI2⟩ := info_parts infoI
  have mk30 := run_zero 30 30 rfl (by decide)
  obtain ⟨Ab, cb, rfl, hcb1, hcb2, -⟩ := id h
  unfold maxLen at hcb2
  obtain ⟨ha1, ha2⟩ := ha
  have GB := hide h
  have HLB := hide hlb
  clear h hlb
  go_enter Try.func9, Try.ntmps9
  go_wp2_with fail
  (with_reducible refine (examples_any _).mono ?_)
  rintro e w0_ ⟨rfl, hb0_⟩
  replace GB := hide (GB.out.below hb0_)
  replace hB := bcall hB hb0_
  have HST := hide (show LdAt w0_ [] 0 (.slice none 0 0) w0_ from ⟨World.ownsRow_nil _ _ _ _, Below.refl _ _, rfl, ⟨by simp, by simp⟩⟩)
  go_wp2
  go_loopw [6, 7] (fun nv iv wr => ∃ (X k : Nat) (L : List Nat), X ≤ lb.length ∧ iv = .int .i64 X ∧ Hid (LdAt w0_ L k nv wr)) (fun _ iv _ => lb.length - (Go.RowKit.intOf iv).toNat)
  case atStart => exact ⟨0, 0, [], Nat.zero_le _, rfl, HST⟩
  case round =>
    obtain ⟨X, k, L, hX, rfl, HA⟩ := hrel
    have GBr := hide (GB.out.below HA.out.below)
    have hBr := hide (bcall hB HA.out.below)
    have hs := HA.out.below.size
    have hk20 := HA.out.nds.len
    rw [HA.out.len] at hk20
    obtain ⟨A, c, rfl, hc1, hc2⟩ := own_form HA.out.own
    unfold maxLen at hc2
    have HI := hide (show Ints wr (.slice A k c) (cst L) from Sl.of_own ic_len (base := w0_.heap.size) (e := 3) (by rw [List.length_map, HA.out.len]; exact HA.out.own))
    by_cases hlt : X < lb.length
    · obtain ⟨bg, bo, rfl, d0⟩ := bytes_at GBr.out hlt
      have hy := HLB.out _ (List.getElem_mem hlt)
      obtain ⟨y, hyy⟩ : ∃ y, lb[X] = y := ⟨_, rfl⟩
      rw [hyy] at d0 hy
      clear hyy
      obtain ⟨hy1, hy2⟩ := hy
      obtain ⟨x, hx⟩ : ∃ x : Nat, 1 + y % 20 = (x : Int) := ⟨(1 + y % 20).toNat, by omega⟩
      have hx1 : 1 ≤ x ∧ x ≤ 20 := by omega
      have e20 : y.tmod 20 = y % 20 := Int.tmod_eq_emod_of_nonneg hy1
      have ex : 1 + y.tmod 20 = (x : Int) := by rw [e20]; exact hx
      clear e20
      go_wp2
      go_loopw [9, 10] (fun mv jv wq => ∃ j : Nat, j ≤ k ∧ jv = .int .i64 j ∧ mv = .bool (decide (x ∈ L.take j)) ∧ Below wr.heap.size wr wq) (fun _ jv _ => k - (Go.RowKit.intOf jv).toNat)
      case atStart => exact ⟨0, Nat.zero_le _, rfl, by simp, Below.refl _ _⟩
      case round =>
        obtain ⟨j, hj, rfl, rfl, hbq⟩ := hrel
        by_cases hjk : j < k
        · have hjl : j < L.length := by rw [HA.out.len]; exact hjk
          obtain ⟨g1, o1, rfl, -, z1⟩ := ints_at (HI.out.below hbq) (k := j) (by rw [List.length_map]; exact hjl)
          rw [List.getElem_map] at z1
          have HTM := hide (take_mem (x := x) hjl)
          by_cases hm : x ∈ L.take j
          · have q0 : decide (x ∈ L.take j) = true := decide_eq_true hm
            have HT2 := hide (show decide (x ∈ L.take (j + 1)) = true by rw [HTM.out, q0]; rfl)
            clear hm
            rw [q0]
            go_wp2
            go_roundw
            case rel => exact ⟨j + 1, by omega, by go_num, by rw [HT2.out], hbq⟩
            case measure => simp [Go.RowKit.intOf]; omega
          · have q0 : decide (x ∈ L.take j) = false := decide_eq_false hm
            clear hm
            by_cases he : L[j] = x
            · have q1 : ((L[j] : Int) == (x : Int)) = true := by rw [beq_iff_eq, he]
              have HT2 := hide (show decide (x ∈ L.take (j + 1)) = true by rw [HTM.out, q0, decide_eq_true he]; rfl)
              clear he HTM
              rw [q0]
              generalize L[j] = q at *
              go_wp2
              go_roundw
              case rel => exact ⟨j + 1, by omega, by go_num, by rw [HT2.out], hbq⟩
              case measure => simp [Go.RowKit.intOf]; omega
            · have q1 : ((L[j] : Int) == (x : Int)) = false := by rw [beq_eq_false_iff_ne]; intro e; exact he (by omega)
              have HT2 := hide (show decide (x ∈ L.take (j + 1)) = false by rw [HTM.out, q0, decide_eq_false he]; rfl)
              clear he HTM
              rw [q0]
              generalize L[j] = q at *
              go_wp2
              go_roundw
              case rel => exact ⟨j + 1, by omega, by go_num, by rw [HT2.out], hbq⟩
              case measure => simp [Go.RowKit.intOf]; omega
        · have hjl : L.take j = L := List.take_of_length_le (by rw [HA.out.len]; omega)
          have hsq : w0_.heap.size ≤ wr.heap.size := Nat.le_trans hs hbq.size
          have HAq := hide (show LdAt w0_ L k (.slice A k c) wr from ⟨own_below HA.out.own hbq, bcall HA.out.below hbq, HA.out.len, HA.out.nds⟩)
          by_cases hm : x ∈ L
          · have q0 : decide (x ∈ L.take j) = true := by rw [hjl]; exact decide_eq_true hm
            rw [q0]
            clear hm
            go_wp2
            go_roundw
            case rel => exact ⟨X + 1, k, L, by omega, by go_num, HAq⟩
            case measure => simp [Go.RowKit.intOf]; omega
          · have q0 : decide (x ∈ L.take j) = false := by rw [hjl]; exact decide_eq_false hm
            have HN2 := hide (HAq.out.nds.add hx1.1 hx1.2 hm)
            rw [q0]
            clear hm
            go_wp2_with (at_builtin; refine wpList_append_own _ rfl _ _ 34 rfl w0_.heap.size 3 iI (.int .i64 0) 1 8 Try.underlying34 hiI hzI0 hzI1 hzI2 rfl (by decide) _ _ _ rfl (HAq.out.own.alloc _) ⟨_, 0, none⟩ 1 1 [.int .i64 (x : Int)] rfl rfl (row_at _ _ _ (by simp)) (by simp [Value.oneCell']) (by simp only [maxLen]; omega) (by omega) (by simp; omega) ?_; intro h'' w6 hown' hgrow _)
            go_roundw
            case rel =>
              refine ⟨X + 1, k + 1, L ++ [x], by omega, by go_num, hide ⟨?_, ?_, ?_, HN2.out⟩⟩
              · rw [show cst (L ++ [x]) = cst L ++ [(x : Int)] by simp, List.flatMap_append]; exact hown'
              · exact (HAq.out.below.alloc hsq _).grown hgrow (by simp; omega) (own_ge HAq.out.own)
              · rw [List.length_append, HAq.out.len]; rfl
            case measure => simp [Go.RowKit.intOf]; omega
    · have hlt' : ¬ (X : Int) < (lb.length : Int) := by omega
      obtain ⟨nn, hnn⟩ : ∃ nn : Nat, min a1 (k : Int) = (nn : Int) := ⟨(min a1 (k : Int)).toNat, by omega⟩
      have hnk : nn ≤ k := by omega
      obtain ⟨ma, hma⟩ : ∃ ma : Nat, a1 = (ma : Int) := ⟨a1.toNat, by omega⟩
      subst hma
      obtain ⟨M, hM⟩ : ∃ M, layF (List.replicate 30 0) 3 5 (cst L) = M := ⟨_, rfl⟩
      have hall := lay_list (hd := 3) (nb := 5) (N := 20) (most := ma) (by omega) (by omega) (by omega) L (List.replicate 30 0) HA.out.nds.nd HA.out.nds.rg (by simp) (by rw [HA.out.len]; omega) (by omega)
      rw [show ((3 : Nat) : Int) = 3 from rfl, show ((5 : Nat) : Int) = 5 from rfl, hM] at hall
      obtain ⟨hls, hz3, hml⟩ := hall
      rw [List.length_replicate] at hml
      obtain ⟨z3, hz3v⟩ : ∃ z3, packF 0 (fstN L : Nat) = z3 := ⟨_, rfl⟩
      rw [hz3v] at hz3
      have hzb : z3 < 4294967296 := by rw [← hz3v]; unfold packF; omega
      have hd3 : decide (z3 < 4294967296) = true := decide_eq_true hzb
      have HTK := hide (show (cst L).take nn = cst (L.take ma) by rw [← List.map_take]; congr 1; have e : nn = min ma L.length := by { rw [HA.out.len]; omega }; rw [e]; simp [List.take_eq_take_iff])
      have HNL := hide (show (cst (L.take ma)).length = nn by rw [List.length_map, List.length_take, HA.out.len]; omega)
      have HM := hide hM
      have HLS := hide hls
      have HML := hide hml
      have HZ3 := hide hz3
      have HKL := hide HA.out.len
      clear hM hls hml hz3 hz3v hzb
      have HT := hide (sl_take HI.out hnk)
      rw [HTK.out] at HT
      replace hB := hBr.out
      obtain ⟨w20_, e20_, hb20_, Z0, S20_⟩ : ∃ w1, wr.alloc (zc 30) = w1 ∧ Below wr.heap.size wr w1 ∧ Cells w1 (.slice (some ⟨wr.heap.size, 0, none⟩) 30 30) (List.replicate 30 0) ∧ w1.heap.size = wr.heap.size + 1 := ⟨_, rfl, bal _ _, zc_cells _ _ (by decide), by simp⟩
      have E20_ := hide e20_
      have S20_ := hide S20_
      clear e20_
      replace Z0 := hide Z0
      replace HI := hide (HI.out.below hb20_)
      replace HT := hide (HT.out.below hb20_)
      replace hB := bcall hB hb20_
      go_wp2_with fail
      rw [E20_.out]
      (with_reducible refine (lay_any _ _ (List.replicate 30 0) (cst L) 3 5 _ Z0.out HI.out (by decide) (by rw [List.length_map, HKL.out]; omega) M HM.out 30 (by decide)).mono ?_)
      rintro e w21_ ⟨A3, c3, rfl, ⟨p3, q3⟩, G0, hb21_⟩
      replace HI := hide (HI.out.below hb21_)
      replace HT := hide (HT.out.below hb21_)
      replace Z0 := hide (Z0.out.below hb21_)
      replace hB := bcall hB hb21_
      replace G0 := hide G0
      clear Z0
      obtain ⟨gb, ob, rfl, -, -⟩ := cells_at G0.out (k := 3) (by rw [HML.out]; decide)
      have hwm : IntKind.i64.wrap (ma : Int) = ma := by rw [wrap_s]; exact s64_small (by omega) (by omega)
      have hwu : IntKind.u64.wrap (ma : Int) = ma := by rw [wrap_w]; exact w64_small (by omega) (by omega)
      go_upto_region 20 with (fail)
      replace G0 := hide (cells_drew G0.out)
      replace HT := hide (show Ints w21_.drew _ _ from HT.out)
      replace hB := hB.drew
      go_region_held_law (fun w' => w'.cell? ⟨gb, ob + 3, none⟩ = some (.int .u64 z3)) (exact cells_first G0.out (by rw [HML.out]; decide) HZ3.out) ((go_simp; first
              | (go_at_call 29; (with_reducible refine (list_any _ M 3 5 ma _ G0.out (cst (L.take ma)) HLS.out nn HNL.out).mono ?_); rintro e w9_ ⟨Al, cl, rfl, ⟨pl, ql⟩, II, hb_⟩; replace II := hide II; replace G0 := hide (G0.out.below hb_); replace HT := hide (HT.out.below hb_); replace hB := bcall hB hb_; clear hb_; (try go_simp))
              | (go_at_call 28; (with_reducible refine (ints_yes _ _ (cst (L.take ma)) (cst (L.take ma)) rfl _ II.out HT.out).mono ?_); rintro e w9_ ⟨rfl, hb_⟩; replace G0 := hide (G0.out.below hb_); replace HT := hide (HT.out.below hb_); replace hB := bcall hB hb_; clear hb_; (try go_simp))
              | (go_at_call 31; (with_reducible refine (Pack_same ma 7 _ rfl _).mono ?_); rintro e w9_ ⟨rfl, rfl⟩; (try go_simp))
              | (go_at_call 31; (with_reducible refine (Pack_same 5 7 21474836487 (by kernel_rfl) _).mono ?_); rintro e w9_ ⟨rfl, rfl⟩; (try go_simp))
              | (go_at_call 33; (with_reducible refine (Node_same (packF ma 7) 7 (pack_node (by decide) (by decide)) _).mono ?_); rintro e w9_ ⟨rfl, rfl⟩; (try go_simp))))
      all_goals
        go_wp2
        go_ret
        exact ⟨rfl, hB⟩

set_option maxRecDepth 100000 in
theorem lifted (os : Os) (started : os.Started) (H : Type) (enc : TypeId × Value → H) :
    ReturnsInHanded {} Try.checked os 9 .any (Rows.chainLaysSpec.pre6 enc Try.prog Try.f9 Rows.chainLaysRow.domain false) (Rows.chainLaysSpec.post enc Try.prog Try.f9 false true false false) := by
  refine returnsInHanded_of_change_sized (C := Try.checked) ownL started (by kernel_rfl) Try.func9
    (ChangeSpec.witness6 (enc := enc) (C := Try.checked) false ⟨#[], #[.slice none 0 0, .int .u8 0], []⟩ 8 (by kernel_rfl) (by kernel_rfl) (by kernel_rfl) (by kernel_rfl)) ?_
  intro W base args ds gs before hval hW _ hsz0 _
  have hW' := hW
  obtain ⟨p, q, hA0, hV, rfl, hfz, hnd⟩ := hW
  have hA : DataW.TrodAll enc Try.prog W 0 (fun _ => true) true Try.f9.params.toList args.toList ds p := hA0
  rw [Try.params9] at hA hval
  obtain ⟨v0, vs0, d0, ds0, p0, q0, hargs, rfl, rfl, h0, r0⟩ := trodAll_cons hA
  obtain ⟨v1, vs1, d1, ds1, p1, q1, rfl, rfl, rfl, h1, r1⟩ := trodAll_cons r0
  obtain ⟨rfl, rfl, rfl⟩ := trodAll_nil r1
  obtain rfl : args = #[v0, v1] := by cases args; simp_all
  obtain ⟨rfl, rfl⟩ := trodVars_none hV
  obtain ⟨l0, hl0, hq0, hd0⟩ := open_bytes (hval 0 61 v0 rfl rfl) h0
  obtain ⟨a1, rfl, rfl, rfl, w1⟩ := open_int Try.underlying5 (hval 1 5 v1 rfl rfl) h1
  have hx1 : 0 ≤ a1 ∧ a1 ≤ 255 := by simpa [Lit.wf, IntKind.min, IntKind.max, IntKind.signed, IntKind.bits] using w1
  have hsz : (DataW.weightsEach Try.prog [61, 5] ([d0, .lit (.int .u8 a1)] : List (DataW H))).all (· ≤ reachBytes) = true := hsz0
  have e0 : l0.length * 1 ≤ 140737488351232 := slice_reach hsz 0 rfl rfl Try.underlying61 (by kernel_rfl) hd0
  refine (walk v0 l0 a1 W hl0 hq0 hx1).mono fun e W' ⟨he, hg⟩ => ?_
  subst he
  exact ⟨_, rfl, law_post laidOutL (by kernel_rfl) rfl Try.underlying4 rfl ⟨rfl, rfl, rfl⟩ hW' hg⟩

/-- THE STATEMENT -/
theorem proved : Rows.ChainLaysSaid :=
  OpenClaim.holds_of_wide 9 Try.f9 rfl rfl rfl rfl rfl rfl rfl ⟨rfl, rfl, rfl, rfl, rfl⟩ rfl rfl rfl rfl rfl (by kernel_rfl) Try.func9 (by kernel_rfl)
    (of_decide_eq_true (by kernel_rfl)) (by unfold Func.isWrapper; first | (rw [if_pos (by decide +kernel)]; kernel_rfl) | (rw [if_neg (by decide +kernel)]; exact ⟨rfl, rfl⟩))
    (fun os started H enc _ => lifted os started H enc)
end Go.Proofs.Ytimjlgglhonhkaa.ch.lawChainLays
