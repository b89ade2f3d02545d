/- Layer mem: turn: a deed done in a row of the call's own. -/
import Derived.Test.YtpffknlbffnafaaMemMap
namespace Go.Proofs.Ytpffknlbffnafaa
open Go.RowKit

/-- a cell -/
def uc (x : Int) : List Value := [.int .u64 x]
abbrev Cells (w : World) (v : Value) (l : List Int) : Prop := Sl uc 1 w v l
theorem uc_len (x : Int) : (uc x).length = 1 := rfl
theorem uc_flat (l : List Int) : (l.flatMap uc).length = l.length := by rw [flatMap_len uc_len]; omega
theorem uc_set : ∀ (l : List Int) (s : Nat) (x : Int), (l.set s x).flatMap uc = (l.flatMap uc).set s (.int .u64 x)
  | [], _, _ => rfl
  | _ :: _, 0, _ => rfl
  | y :: l, s + 1, x => by
    show uc y ++ (l.set s x).flatMap uc = (uc y ++ l.flatMap uc).set (s + 1) _
    rw [uc_set l s x]; rfl
theorem uc_get (l : List Int) (j : Nat) (h : j < l.length) : (l.flatMap uc)[j]? = some (.int .u64 l[j]) := by
  have := flatMap_get uc_len l j l[j] (List.getElem?_eq_getElem h) 0 (.int .u64 l[j]) rfl
  simpa using this
/-- a row of the call's own that reads as l -/
abbrev OwnC (base : Nat) (w : World) (v : Value) (l : List Int) : Prop := w.ownsRow base 24 1 v l.length (l.flatMap uc)
theorem OwnC.cells {base : Nat} {w : World} {v : Value} {l : List Int} (h : OwnC base w v l) : Cells w v l := Sl.of_own uc_len h

theorem grown_below {w w1 : World} (h : Below w.heap.size w w1) (row : Option Nat) : w.grownBy w1 row := ⟨h.os, h.tape, h.output, h.size, fun k hk _ => h.block k hk⟩
theorem grown_trans {w w1 w2 : World} {row : Option Nat} (h : w.grownBy w1 row) (k : w1.grownBy w2 row) : w.grownBy w2 row :=
  ⟨k.os.trans h.os, k.tape.trans h.tape, k.output.trans h.output, Nat.le_trans h.size k.size, fun i hi hne => (k.block i (Nat.lt_of_lt_of_le hi h.size) hne).trans (h.block i hi hne)⟩
theorem turn_end {base g n c j : Nat} {w w2 : World} {m : List Int} (hown : w.ownsRow base 24 1 (.slice (some ⟨g, 0, none⟩) n c) n (m.flatMap uc)) (hb : Below w.heap.size w w2) (x : Int) :
    (w2.setCell ⟨g, j, none⟩ (.int .u64 x)).ownsRow base 24 1 (.slice (some ⟨g, 0, none⟩) n c) n ((m.set j x).flatMap uc) ∧ w.grownBy (w2.setCell ⟨g, j, none⟩ (.int .u64 x)) (some g) := by
  obtain ⟨h1, h2⟩ := (own_below hown hb).stored j (.int .u64 x)
  rw [uc_set]
  exact ⟨h1, grown_trans (grown_below hb _) h2⟩

/-- the look-up at the operation -/
theorem wpList_look (w : World) {ops : Array Oper} {rest : List Oper} {o : Oper} {a : Act} {Q : Exit → Act → World → Prop} (hg : o.guard = none) (m x : Operand) (t : TypeId) (hop : o.op = Op.lookup t m x true)
    (M K : Value) (hm : a.eval m = M) (hx : a.eval x = K) (r : Value) (hr : (Instr.lookup t M K true).run Try.prog w = .ok r w) (hK : wpList Try.prog ops Q rest (a.put o.dst r) w) : wpList Try.prog ops Q (o :: rest) a w := by
  refine wpList_plain hg fun K' hK' => ?_
  unfold Oper.wp
  simp [execOp, hop, hm, hx, hr, Result.andThen]
  exact hK' _ _ hK
/-- what turn leaves -/
def TurnEnd (base : Nat) (w : World) (v : Value) (m : List Int) (k t a b : Int) (e : Ending) (w' : World) : Prop :=
  e = .returned (.tuple #[.int .u64 (vF m ⟨k, t, a, b⟩), .bool (okF m ⟨k, t, a, b⟩)]) ∧ w'.ownsRow base 24 1 v m.length ((mF m ⟨k, t, a, b⟩).flatMap uc) ∧ w.grownBy w' v.ownBlock

theorem turn_off_end {base : Nat} {w w' : World} {v : Value} {m : List Int} {k t a b : Int} (hown : OwnC base w v m) (h : ¬ ((1 ≤ k ∧ k ≤ 4) ∧ 0 ≤ t ∧ t < (m.length : Int))) (hb : Below w.heap.size w w') :
    TurnEnd base w v m k t a b (.returned (.tuple #[.int .u64 0, .bool false])) w' := by
  obtain ⟨h1, h2, h3⟩ := at_off (o := ⟨k, t, a, b⟩) h
  refine ⟨by rw [h1, h2], by rw [h3]; exact own_below hown hb, grown_below hb _⟩

set_option maxRecDepth 100000 in
set_option maxHeartbeats 1000000 in
theorem turn_off (v : Value) (m : List Int) (B : Nat) (k t a b : Int) (w : World) (base : Nat) (hown : OwnC base w v m) (hD : Dm w B) (h : ¬ ((1 ≤ k ∧ k ≤ 4) ∧ 0 ≤ t ∧ t < (m.length : Int))) :
    Calls Try.prog 40 #[v, .map (some B), ov k t a b] w (TurnEnd base w v m k t a b) := by
  obtain ⟨w1, e1, hb1, hs1, c0, c1, c2, c3⟩ := box4 w (.int .i64 k) (.int .i64 t) (.int .u64 a) (.int .u64 b) 68
  have HE := hide e1
  have HO := hide hown
  have HN := hide h
  have hl := look_dm (hD.below hb1) k
  obtain ⟨F, hF⟩ : ∃ F, kf k = F := ⟨_, rfl⟩
  rw [hF] at hl
  obtain ⟨A, c, rfl, hc1, hc2⟩ := own_form hown
  unfold maxLen at hc2
  clear e1 hown hD hF
  by_cases hk : 1 ≤ k ∧ k ≤ 4
  · rw [decide_eq_true hk] at hl
    have HL := hide hl
    clear hl
    by_cases ht : t < 0
    · clear h hk
      go_enter Try.func40, Try.ntmps40
      go_wp2_with (at_lookup; rw [HE.out]; refine wpList_look _ rfl _ _ _ rfl _ _ rfl rfl _ HL.out ?_)
      go_ret2
      exact turn_off_end HO.out HN.out hb1
    · have h2 : (m.length : Int) ≤ t := by omega
      clear h hk
      go_enter Try.func40, Try.ntmps40
      go_wp2_with (at_lookup; rw [HE.out]; refine wpList_look _ rfl _ _ _ rfl _ _ rfl rfl _ HL.out ?_)
      go_ret2
      exact turn_off_end HO.out HN.out hb1
  · rw [decide_eq_false hk] at hl
    have HL := hide hl
    clear hl
    clear h hk
    go_enter Try.func40, Try.ntmps40
    go_wp2_with (at_lookup; rw [HE.out]; refine wpList_look _ rfl _ _ _ rfl _ _ rfl rfl _ HL.out ?_)
    go_ret2
    exact turn_off_end HO.out HN.out hb1

theorem turn_on_end {base g c j : Nat} {w w2 : World} {m : List Int} {k a b x : Int} {d : Bool} (hown : OwnC base w (.slice (some ⟨g, 0, none⟩) m.length c) m) (hk : 1 ≤ k ∧ k ≤ 4) (hj : j < m.length) (hb : Below w.heap.size w w2)
    (hx : newF m[j] ⟨k, j, a, b⟩ = x) (hd : (k != 3 || m[j] == a) = d) :
    TurnEnd base w (.slice (some ⟨g, 0, none⟩) m.length c) m k j a b (.returned (.tuple #[.int .u64 m[j], .bool d])) (w2.setCell ⟨g, j, none⟩ (.int .u64 x)) := by
  obtain ⟨h1, h2, h3⟩ := at_on (m := m) (o := ⟨k, j, a, b⟩) ⟨hk, by simp, by simp; omega⟩
  have hw : wasF m ⟨k, j, a, b⟩ = m[j] := was_get (o := ⟨k, j, a, b⟩) (by simpa using hj)
  rw [hw] at h1 h2 h3
  obtain ⟨e1, e2⟩ := turn_end (j := j) hown hb x
  refine ⟨by rw [h1, h2, hd], ?_, e2⟩
  rw [h3, hx]
  exact e1

set_option maxRecDepth 100000 in
set_option maxHeartbeats 1000000 in
theorem turn_on (v : Value) (m : List Int) (B : Nat) (k t a b : Int) (w : World) (base : Nat) (hown : OwnC base w v m) (hD : Dm w B) (hk : 1 ≤ k ∧ k ≤ 4) (ht : 0 ≤ t ∧ t < (m.length : Int)) :
    Calls Try.prog 40 #[v, .map (some B), ov k t a b] w (TurnEnd base w v m k t a b) := by
  obtain ⟨j, rfl⟩ : ∃ j : Nat, t = j := ⟨t.toNat, by omega⟩
  have hj : j < m.length := by omega
  obtain ⟨w1, e1, hb1, hs1, c0, c1, c2, c3⟩ := box4 w (.int .i64 k) (.int .i64 j) (.int .u64 a) (.int .u64 b) 68
  have HE := hide e1
  have hl := look_dm (hD.below hb1) k
  rw [decide_eq_true hk] at hl
  have HL := hide hl
  obtain ⟨A, c, rfl, hc1, hc2⟩ := own_form hown
  unfold maxLen at hc2
  obtain ⟨g, rfl⟩ : ∃ g, A = some ⟨g, 0, none⟩ := by
    rcases hown.2 with ⟨h, h0⟩ | ⟨g, cap, cur, h, _⟩
    · omega
    · injection h with h; exact ⟨g, h⟩
  have HO := hide hown
  have hx1 := (own_below hown hb1).cellAt j (by omega)
  have hf1 := (own_below hown hb1).frozenAt j
  rw [uc_get m j hj] at hx1
  have hgl : g ≠ w.heap.size := by
    have := (hown.lt g rfl).2; omega
  have HX : ∀ x d, newF m[j] ⟨k, j, a, b⟩ = x → (k != 3 || m[j] == a) = d → ∀ w2, Below w.heap.size w w2 → TurnEnd base w (.slice (some ⟨g, 0, none⟩) m.length c) m k j a b (.returned (.tuple #[.int .u64 m[j], .bool d])) (w2.setCell ⟨g, j, none⟩ (.int .u64 x)) :=
    fun x d h1 h2 w2 h3 => turn_on_end hown hk hj h3 h1 h2
  have HK := hide hk
  have HH := hide HX
  obtain ⟨y, hy⟩ : ∃ y, m[j] = y := ⟨_, rfl⟩
  rw [hy] at hx1 HH
  clear e1 hown hD hl ht HX hy
  obtain rfl | rfl | rfl | rfl : k = 1 ∨ k = 2 ∨ k = 3 ∨ k = 4 := by omega
  · clear hk
    have HL : Hid _ := hide (show _ = Result.ok (Value.tuple #[fv 44, .bool true]) w1 from HL.out)
    go_enter Try.func40, Try.ntmps40
    go_wp2_with (at_lookup; rw [HE.out]; refine wpList_look _ rfl _ _ _ rfl _ _ rfl rfl _ HL.out ?_)
    (with_reducible refine (d1_any y 1 j a b w1).mono ?_)
    rintro e w2 ⟨rfl, hb2⟩
    have hf2 := keepf hb2 hx1 hf1
    have hx2 := keepc hb2 hx1
    have c1 := keepc hb2 c1
    have hb3 := hide (bcall hb1 hb2)
    have HZ := hide (HH.out (y) true (by simp [newF]) (by simp) _ hb3.out)
    clear HH HK
    go_wp2
    go_ret2
    exact HZ.out
  · clear hk
    have HL : Hid _ := hide (show _ = Result.ok (Value.tuple #[fv 45, .bool true]) w1 from HL.out)
    go_enter Try.func40, Try.ntmps40
    go_wp2_with (at_lookup; rw [HE.out]; refine wpList_look _ rfl _ _ _ rfl _ _ rfl rfl _ HL.out ?_)
    (with_reducible refine (d2_any y 2 j a b w1).mono ?_)
    rintro e w2 ⟨rfl, hb2⟩
    have hf2 := keepf hb2 hx1 hf1
    have hx2 := keepc hb2 hx1
    have c1 := keepc hb2 c1
    have hb3 := hide (bcall hb1 hb2)
    have HZ := hide (HH.out (a) true (by simp [newF]) (by simp) _ hb3.out)
    clear HH HK
    go_wp2
    go_ret2
    exact HZ.out
  · clear hk
    by_cases hv : y = a
    · subst hv
      have HL : Hid _ := hide (show _ = Result.ok (Value.tuple #[fv 46, .bool true]) w1 from HL.out)
      go_enter Try.func40, Try.ntmps40
      go_wp2_with (at_lookup; rw [HE.out]; refine wpList_look _ rfl _ _ _ rfl _ _ rfl rfl _ HL.out ?_)
      (with_reducible refine (d3_yes 3 j y b w1).mono ?_)
      rintro e w2 ⟨rfl, hb2⟩
      have hf2 := keepf hb2 hx1 hf1
      have hx2 := keepc hb2 hx1
      have c1 := keepc hb2 c1
      have hb3 := hide (bcall hb1 hb2)
      have HZ := hide (HH.out (b) true (by simp [newF]) (by simp) _ hb3.out)
      clear HH HK
      go_wp2
      go_ret2
      exact HZ.out
    · have HV := hide hv
      clear hv
      have HL : Hid _ := hide (show _ = Result.ok (Value.tuple #[fv 46, .bool true]) w1 from HL.out)
      go_enter Try.func40, Try.ntmps40
      go_wp2_with (at_lookup; rw [HE.out]; refine wpList_look _ rfl _ _ _ rfl _ _ rfl rfl _ HL.out ?_)
      (with_reducible refine (d3_no y 3 j a b w1 HV.out).mono ?_)
      rintro e w2 ⟨rfl, hb2⟩
      have hf2 := keepf hb2 hx1 hf1
      have hx2 := keepc hb2 hx1
      have c1 := keepc hb2 c1
      have hb3 := hide (bcall hb1 hb2)
      have HZ := hide (HH.out (y) false (by simp [newF, HV.out]) (by simp [HV.out]) _ hb3.out)
      clear HH HK
      go_wp2
      go_ret2
      exact HZ.out
  · clear hk
    have HL : Hid _ := hide (show _ = Result.ok (Value.tuple #[fv 47, .bool true]) w1 from HL.out)
    go_enter Try.func40, Try.ntmps40
    go_wp2_with (at_lookup; rw [HE.out]; refine wpList_look _ rfl _ _ _ rfl _ _ rfl rfl _ HL.out ?_)
    (with_reducible refine (d4_any y 4 j a b w1).mono ?_)
    rintro e w2 ⟨rfl, hb2⟩
    have hf2 := keepf hb2 hx1 hf1
    have hx2 := keepc hb2 hx1
    have c1 := keepc hb2 c1
    have hb3 := hide (bcall hb1 hb2)
    have HZ := hide (HH.out (addU y a) true (by simp [newF]) (by simp) _ hb3.out)
    clear HH HK
    go_wp2
    go_ret2
    exact HZ.out

set_option maxRecDepth 100000 in
set_option maxHeartbeats 1000000 in
theorem turn_any (v : Value) (m : List Int) (B : Nat) (k t a b : Int) (w : World) (base : Nat) (hown : OwnC base w v m) (hD : Dm w B) :
    Calls Try.prog 40 #[v, .map (some B), ov k t a b] w (TurnEnd base w v m k t a b) := by
  by_cases h : (1 ≤ k ∧ k ≤ 4) ∧ 0 ≤ t ∧ t < (m.length : Int)
  · exact turn_on v m B k t a b w base hown hD h.1 h.2
  · exact turn_off v m B k t a b w base hown hD h
end Go.Proofs.Ytpffknlbffnafaa
