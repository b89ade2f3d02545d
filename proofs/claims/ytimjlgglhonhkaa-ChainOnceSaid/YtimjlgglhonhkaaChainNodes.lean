/- Layer chain: all nodes of the law's world. -/
import Derived.Test.YtimjlgglhonhkaaChainWorld
import Derived.Test.YtimjlgglhonhkaaChainList
namespace Go.Proofs.Ytimjlgglhonhkaa.ch
open Go.RowKit

section
variable {P : Program}
theorem append_two {t t' ty e e' : TypeId} (ht : P.underlying t = some (.slice e)) (ht' : P.underlying t' = some (.slice e')) (v x : Value) (w : World) : (Builtin.append_ #[t, t'] ty #[v, x]).run P w = (Builtin.append_ #[t, t] ty #[v, x]).run P w := by
  unfold Builtin.append_
  cases v <;> simp [Sem.run_bind, run_underlying ht, run_underlying ht']
theorem wpList_append_sl2 {α : Type} {enc : α → List Value} (w : World) {ops : Array Oper} {rest : List Oper} {o : Oper} {a : Act} {Q : Exit → Act → World → Prop} (hgd : o.guard = none) (s y : Operand) (t t' : TypeId)
    (ho : o.op = .call { callee := .builtin .append, args := #[s, y], argTypes := #[t, t'] })
    (base : Nat) (e : TypeId) (i : TypeInfo) (z : Value) (size bytes : Nat) (ht : P.underlying t = some (.slice e)) (ht' : P.underlying t' = some (.slice e)) (hi : P.info? e = some i) (hz : i.zero = some z)
    (hsize : i.size = size) (hby : i.bytes = bytes) (hzs : z.cells.size = size) (hsz : 0 < size)
    (v : Value) (n : Nat) (xs : List Value) (hs : a.eval s = v) (hown : w.ownsRow base e size v n xs) (x : Value) (l : List α) (hy : a.eval y = x) (hx : Sl enc size w x l) (henc : ∀ p, (enc p).length = size) (h1 : ∀ p, ∀ u ∈ enc p, u.oneCell' = true)
    (h63 : n + l.length ≤ maxLen) (hbytes : (n + l.length) * bytes ≤ 140737488355328) (hbase : base ≤ w.heap.size)
    (h : ∀ v' w', w'.ownsRow base e size v' (n + l.length) (xs ++ l.flatMap enc) → Below base w w' → wpList P ops Q rest (a.put o.dst v') w') : wpList P ops Q (o :: rest) a w :=
  wpList_plain hgd fun _ hK => by
    obtain ⟨v', w', hrun, h2, h3⟩ := run_append_sl (P := P) w base t o.type e i z size bytes ht hi hz hsize hby hzs hsz v n xs hown x l hx henc h1 h63 hbytes hbase
    unfold Oper.wp execOp
    simp only [ho, resolve, invoke, builtin, Sem.run_bind, Sem.run_pure, Result.andThen_ok, List.map_toArray, List.map_cons, List.map_nil, hs, hy, append_two ht ht', hrun]
    exact hK _ _ (h v' w' h2 ((Below.refl _ _).grown h3 hbase (own_ge hown)))
end
theorem wcells {w : World} {B g gh ct cg : Nat} {d : Cw} {vM : Value} (h : Wat w B g gh ct cg d vM) : w.cell? ⟨B, 0, none⟩ = some vM ∧ w.cell? ⟨B, 1, none⟩ = some (.slice (some ⟨g, 0, none⟩) 5 ct) ∧ w.cell? ⟨B, 2, none⟩ = some (.slice (some ⟨gh, 0, none⟩) 5 cg) ∧ w.cell? ⟨B, 3, none⟩ = some (.int .i64 (d.swap : Int)) := ⟨h.cell 0, h.cell 1, h.cell 2, h.cell 3⟩
structure NdAt (w wr : World) (l : List Int) (k : Nat) (v : Value) : Prop where
  own : wr.ownsRow w.heap.size 3 1 v k (l.flatMap ic)
  below : Below w.heap.size w wr
  len : l.length = k
def NodesEnd (w : World) (r : List Int) (e : Ending) (w' : World) : Prop := ∃ A n c, e = .returned (.slice A n c) ∧ n = r.length ∧ Ints w' (.slice A n c) r ∧ Below w.heap.size w w'
/-- those of the first k that are nodes -/
def hasF (l : List Nat) : List Int := (l.filter fun x => decide (0 < x)).map fun (x : Nat) => (x : Int)
theorem hasF_len (l : List Nat) : (hasF l).length ≤ l.length := by unfold hasF; rw [List.length_map]; exact List.length_filter_le _ _
theorem hasF_yes {l : List Nat} {k x : Nat} (h : l[k]? = some x) (hx : 0 < x) : hasF (l.take (k + 1)) = hasF (l.take k) ++ [(x : Int)] := by
  obtain ⟨h1, rfl⟩ := List.getElem?_eq_some_iff.1 h
  unfold hasF
  rw [List.take_succ_eq_append_getElem h1, List.filter_append, List.map_append]
  have e : List.filter (fun x => decide (0 < x)) [l[k]] = [l[k]] := by rw [List.filter_cons_of_pos (by simpa using hx)]; rfl
  rw [e]
  rfl
theorem hasF_no {l : List Nat} {k x : Nat} (h : l[k]? = some x) (hx : ¬ 0 < x) : hasF (l.take (k + 1)) = hasF (l.take k) := by
  obtain ⟨h1, rfl⟩ := List.getElem?_eq_some_iff.1 h
  unfold hasF
  rw [List.take_succ_eq_append_getElem h1, List.filter_append, List.map_append]
  have e : List.filter (fun x => decide (0 < x)) [l[k]] = [] := by rw [List.filter_cons_of_neg (by simpa using hx)]; rfl
  rw [e]
  simp
set_option maxRecDepth 100000 in
set_option maxHeartbeats 8000000 in
theorem nodes_any (B g gh ct cg : Nat) (d : Cw) (vM : Value) (w : World) (h : Wat w B g gh ct cg d vM) (l0 l1 : List Int) (hl0 : listF d.m 0 1 50 = l0) (hl1 : listF d.m 1 1 50 = l1) (h0 : l0.length ≤ 50) (h1 : l1.length ≤ 50) :
    Calls Try.prog 40 #[pt B] w (NodesEnd w (hasF d.has ++ l0 ++ l1)) := by
  obtain ⟨iI, hiI, hzI0, hzI1, hzI2⟩ := info_parts infoI
  have HW := hide h
  have HL0 := hide hl0
  have HL1 := hide hl1
  obtain ⟨A0, c0_, rfl, hc01, hc02⟩ := cells_form' h.mem
  have H5a := hide h.ha5
  clear h hl0 hl1
  go_enter Try.func40, Try.ntmps40
  have HST := hide (show NdAt w (w.alloc (.cells #[] 3)) [] 0 (.slice (some ⟨w.heap.size, 0, none⟩) 0 0) from ⟨own_new w w.heap.size [] 3 1 0 (Nat.le_refl _) rfl (by decide), bal _ _, rfl⟩)
  go_wp2
  go_loopw [3, 4] (fun vs iv wr => ∃ (k j : Nat), k ≤ 5 ∧ iv = .int .i64 k ∧ Hid (NdAt w wr (hasF (d.has.take k)) j vs)) (fun _ iv _ => 5 - (Go.RowKit.intOf iv).toNat)
  case atStart => exact ⟨0, 0, Nat.zero_le _, rfl, HST⟩
  case round =>
    obtain ⟨k, j, hk, rfl, HA⟩ := hrel
    have HWr := hide (HW.out.below HA.out.below)
    obtain ⟨y0, y1, y2, y3⟩ := wcells HWr.out
    have hs := HA.out.below.size
    have hj5 : j ≤ 5 := by rw [← HA.out.len]; exact Nat.le_trans (hasF_len _) (by rw [List.length_take]; omega)
    obtain ⟨A, c, rfl, hc1, hc2⟩ := own_form HA.out.own
    unfold maxLen at hc2
    by_cases hlt : k < 5
    · obtain ⟨x, hx⟩ : ∃ x, d.has[k]? = some x := ⟨_, List.getElem?_eq_getElem (by rw [H5a.out]; exact hlt)⟩
      have q0 := ha_cell HWr.out hx
      have hlti : (k : Int) < 5 := by omega
      by_cases hp : 0 < x
      · have HF := hide (hasF_yes hx hp)
        clear hx
        go_wp2_with (at_builtin; refine wpList_append_own _ rfl _ _ 68 rfl w.heap.size 3 iI (.int .i64 0) 1 8 Try.underlying68 hiI hzI0 hzI1 hzI2 rfl (by decide) _ _ _ rfl (HA.out.own.alloc _) ⟨_, 0, none⟩ 1 1 [.int .i64 (x : Int)] rfl rfl (row_at _ _ _ (by simp)) (by simp [Value.oneCell']) (by simp only [maxLen]; omega) (by omega) (by simp; omega) ?_; intro h'' w6 hown' hgrow _)
        go_roundw
        case rel =>
          refine ⟨k + 1, j + 1, by omega, by go_num, hide ⟨?_, ?_, ?_⟩⟩
          · rw [HF.out, List.flatMap_append]; exact hown'
          · exact (HA.out.below.alloc hs _).grown hgrow (by simp; omega) (own_ge HA.out.own)
          · rw [HF.out, List.length_append, HA.out.len]; rfl
        case measure => simp [Go.RowKit.intOf]; omega
      · have HF := hide (hasF_no hx hp)
        clear hx
        go_wp2
        go_roundw
        case rel => exact ⟨k + 1, j, by omega, by go_num, by rw [HF.out]; exact HA⟩
        case measure => simp [Go.RowKit.intOf]; omega
    · obtain rfl : k = 5 := by omega
      have HAA := hide (show NdAt w wr (hasF d.has) j (.slice A j c) by have hz := HA.out; rw [List.take_of_length_le (by rw [H5a.out]; exact Nat.le_refl _)] at hz; exact hz)
      go_wp2_with fail
      (with_reducible refine (list_any _ d.m 0 1 50 _ HWr.out.mem l0 HL0.out _ rfl).mono ?_)
      rintro e w2 ⟨A2, c2, rfl, ⟨p2, q2⟩, I0, hb2⟩
      have HI0 := hide I0
      have HW2 := hide (HWr.out.below hb2)
      have HO2 := hide (own_below HAA.out.own hb2)
      have HB2 := hide (bcall HAA.out.below hb2)
      have hs2 := HB2.out.size
      clear I0 hb2 y0 y1 y2 y3
      go_wp2_with (at_builtin; refine wpList_append_sl2 _ rfl _ _ 68 34 rfl w.heap.size 3 iI (.int .i64 0) 1 8 Try.underlying68 Try.underlying34 hiI hzI0 hzI1 hzI2 rfl (by decide) _ _ _ rfl HO2.out _ l0 rfl HI0.out ic_len (fun _ u hu => by simp [ic] at hu; subst hu; rfl) (by unfold maxLen; omega) (by omega) (by omega) ?_)
      intro v3 w3 hown3 hb3
      have HB3 := hide (HB2.out.trans hb3)
      have HW3 := hide (HW.out.below HB3.out)
      have HO3 := hide (show w3.ownsRow w.heap.size 3 1 v3 (j + l0.length) ((hasF d.has ++ l0).flatMap ic) by rw [List.flatMap_append]; exact hown3)
      obtain ⟨A3, c3, rfl, -, -⟩ := own_form hown3
      clear hown3 hb3
      obtain ⟨y0, y1, y2, y3⟩ := wcells HW3.out
      go_wp2_with fail
      (with_reducible refine (list_any _ d.m 1 1 50 _ HW3.out.mem l1 HL1.out _ rfl).mono ?_)
      rintro e w4 ⟨A4, c4, rfl, ⟨p4, q4⟩, I1, hb4⟩
      have HI1 := hide I1
      have HO4 := hide (own_below HO3.out hb4)
      have HB4 := hide (bcall HB3.out hb4)
      have hs4 := HB4.out.size
      clear I1 hb4 y0 y1 y2 y3
      go_wp2_with (at_builtin; refine wpList_append_sl2 _ rfl _ _ 68 34 rfl w.heap.size 3 iI (.int .i64 0) 1 8 Try.underlying68 Try.underlying34 hiI hzI0 hzI1 hzI2 rfl (by decide) _ _ _ rfl HO4.out _ l1 rfl HI1.out ic_len (fun _ u hu => by simp [ic] at hu; subst hu; rfl) (by unfold maxLen; omega) (by omega) (by omega) ?_)
      intro v5 w5 hown5 hb5
      obtain ⟨A5, c5, rfl, h51, h52⟩ := own_form hown5
      have hln : (hasF d.has ++ l0 ++ l1).length = j + l0.length + l1.length := by rw [List.length_append, List.length_append, HAA.out.len]
      have HF := hide (show NodesEnd w (hasF d.has ++ l0 ++ l1) (.returned (.slice A5 (j + l0.length + l1.length) c5)) w5 from ⟨A5, _, c5, rfl, hln.symm, by
        have hz : w5.ownsRow w.heap.size 3 1 (.slice A5 (j + l0.length + l1.length) c5) (hasF d.has ++ l0 ++ l1).length ((hasF d.has ++ l0 ++ l1).flatMap ic) := by rw [hln, List.flatMap_append, List.flatMap_append, List.append_assoc]; exact hown5
        exact Sl.of_own ic_len hz, HB4.out.trans hb5⟩)
      clear hown5 hb5 hln h51 h52
      go_wp2
      go_ret
      exact HF.out
end Go.Proofs.Ytimjlgglhonhkaa.ch
