/- Layer heap: the reader goes on. -/
import Derived.Test.YtofobjhlpgcdaaaDoorHeapRead
import Derived.Test.YtofobjhlpgcdaaaDoorHeapAlloc
import Derived.Deep.RegionWith
namespace Go.Proofs.YtofobjhlpgcdaaaDoor
open Go.RowKit Go.Shelf Go.Proofs

/-- the reader in block g has l before it -/
def RestAt (g : Nat) (l : B8) (w : World) : Prop := w.heap[g]? = some (.cells #[.string ⟨l.toArray⟩] 59 (0, 0))
theorem RestAt.cell {g : Nat} {l : B8} {w : World} (h : RestAt g l w) : w.cell? ⟨g, 0, none⟩ = some (.string ⟨l.toArray⟩) := cell_of_one h
theorem RestAt.free {g : Nat} {l : B8} {w : World} (h : RestAt g l w) : w.frozen? ⟨g, 0, none⟩ = false := free_of_one h
theorem RestAt.lt {g : Nat} {l : B8} {w : World} (h : RestAt g l w) : g < w.heap.size := lt_of_block h
theorem RestAt.below {g : Nat} {l : B8} {w w' : World} (h : RestAt g l w) (hb : Below w.heap.size w w') : RestAt g l w' := (hb.block g h.lt).trans h
theorem RestAt.set {g : Nat} {l l' : B8} {w : World} (h : RestAt g l w) : RestAt g l' (w.setCell ⟨g, 0, none⟩ (.string ⟨l'.toArray⟩)) := one_setCell h
theorem gtrans {a b c : World} {row : Option Nat} (h : a.grownBy b row) (k : b.grownBy c row) : a.grownBy c row := h.trans k
theorem gset {w : World} {g : Nat} (v : Value) : w.grownBy (w.setCell ⟨g, 0, none⟩ v) (some g) :=
  ⟨rfl, rfl, rfl, by simp, fun k _ hk => heap_setCell_other w ⟨g, 0, none⟩ k v (fun e => hk (by simp [e]))⟩
theorem firstF_num {l : B8} {n : Int} (h : firstF l = some (.num n)) : 0 ≤ n ∧ n ≤ 9223372036854775807 ∧ (dec n).length ≤ l.length := by
  unfold firstF at h
  split at h
  · cases h
  · split at h
    · rename_i m hm
      split at h
      · rename_i hd
        cases h
        refine ⟨atoi_pos (take_digits l) hm, (Go.Lib.atoiAll_bounds hm).2, ?_⟩
        rw [hd]
        have h2 := congrArg List.length (take_drop_while l)
        rw [List.length_append] at h2
        omega
      · cases h
    · cases h
theorem firstF_mrk {l m : B8} (h : firstF l = some (.mrk m)) : m = l.take 1 := by
  unfold firstF at h
  split at h
  · cases h; rfl
  · split at h
    · split at h <;> cases h
    · cases h
def Prt.len : Prt → Nat
  | .num n => (dec n).length
  | .mrk m => m.length
def Prt.val : Prt → Value
  | .num n => .iface 74 (.int .i64 n)
  | .mrk m => .iface 76 (.string ⟨m.toArray⟩)
/-- a panic of its own -/
def Pan (e : Ending) : Prop := ∃ u v, e = .panicked [{ v := .iface u v, recovered := false }]
theorem told_eq (p : Option Prt) (e : Ending) : Told p e ↔ match p with | some p => e = .returned p.val | none => Pan e := by
  cases p with
  | none => exact Iff.rfl
  | some p => cases p <;> exact Iff.rfl
theorem ext_drop (l : B8) (k : Nat) : (⟨l.toArray⟩ : ByteArray).extract k l.length = ⟨(l.drop k).toArray⟩ := by
  apply ByteArray.ext
  apply Array.ext'
  rw [ByteArray.data_extract, Array.toList_extract]
  show (l.drop k).take (l.length - k) = l.drop k
  rw [List.take_of_length_le (by rw [List.length_drop]; omega)]

set_option maxRecDepth 100000 in
set_option maxHeartbeats 2000000 in
theorem next_any (g : Nat) (l : B8) (w : World) (hl : l.length ≤ 140737488351232) (hE : EnvH w) (hR : RestAt g l w) :
    Calls Tryd.prog 45 #[.pointer (some ⟨g, 0, none⟩)] w fun e w' =>
      (match firstF l with | some p => e = .returned p.val ∧ RestAt g (l.drop p.len) w' | none => Pan e) ∧ w.grownBy w' (some g) := by
  have hF := first_any l w hl hE
  have HR := hide hR
  have HE := hide hE
  have c0 := hR.cell
  rcases hf : firstF l with _ | p
  · rw [hf] at hF
    have HF := hide hF
    clear hf hF hR hE
    go_enter Tryd.func45, Tryd.ntmps45
    go_wp2_with fail
    (with_reducible refine HF.out.mono ?_)
    rintro e w1 ⟨⟨u, v, rfl⟩, hb⟩
    go_wp2
    exact ⟨rfl, ⟨_, _, rfl⟩, grown_of_below hb _⟩
  · rw [hf] at hF
    have HF := hide hF
    obtain ⟨x, hx⟩ : ∃ x : ByteArray, (⟨l.toArray⟩ : ByteArray) = x := ⟨_, rfl⟩
    have hxs : x.size = l.length := by rw [← hx, ba_size]
    obtain ⟨M, hM⟩ : ∃ M, l.length = M := ⟨_, rfl⟩
    cases p with
    | num n =>
      obtain ⟨n0, n1, n2⟩ := firstF_num hf
      have hx2 : x.extract (dec n).length M = ⟨(l.drop (dec n).length).toArray⟩ := by rw [← hx, ← hM]; exact ext_drop l _
      obtain ⟨y, hy⟩ : ∃ y : ByteArray, (⟨(l.drop (dec n).length).toArray⟩ : ByteArray) = y := ⟨_, rfl⟩
      obtain ⟨f, hf2⟩ : ∃ f : ByteArray, (⟨(dec n).toArray⟩ : ByteArray) = f := ⟨_, rfl⟩
      obtain ⟨K, hK⟩ : ∃ K, (dec n).length = K := ⟨_, rfl⟩
      have hfs : f.size = K := by rw [← hf2, ba_size, hK]
      have hN := hide (fun w => number_text n n0 n1 w)
      rw [hf2] at hN
      rw [hy, hK] at hx2
      rw [hx] at c0 HF
      rw [hM] at hxs hl n2
      rw [hK] at n2
      have HY := hide hy
      have HK := hide hK
      clear hf hF hR hE hx hM hy hf2 hK
      go_enter Tryd.func45, Tryd.ntmps45
      go_wp2_with fail
      (with_reducible refine HF.out.mono ?_)
      rintro e w1 ⟨he, hb⟩
      have he : e = .returned (.iface 74 (.int .i64 n)) := he
      subst he
      have c1 := keepc hb c0
      have f1 := keepf hb c0 HR.out.free
      have HE1 := hide ((HE.out.below hb).below ((Below.refl _ w1).drew))
      have HD1 := hide (show Below w1.heap.size w1 w1.drew from (Below.refl _ w1).drew)
      have hm : ∀ w, (method 89 74 (.int .i64 n) "besom/heap.text").run Tryd.prog w = .ok (33, .int .i64 n) w := fun _ => by kernel_rfl
      go_wp2_with fail
      go_region_with (go_at_call 33; (with_reducible refine (hN.out _ HE1.out).mono ?_); rintro e w3 ⟨rfl, hb3⟩; have c3 := keepc (bcall HD1.out hb3) c1; have f3 := keepf (bcall HD1.out hb3) c1 f1)
      all_goals
        have hZ := hide (show RestAt g (l.drop (Prt.num n).len) (w3.setCell ⟨g, 0, none⟩ (.string y)) ∧ w.grownBy (w3.setCell ⟨g, 0, none⟩ (.string y)) (some g) from
          ⟨by rw [← HY.out]; exact (((HR.out.below hb).below HD1.out).below hb3).set, (grown_of_below (bcall (bcall hb HD1.out) hb3) (some g)).trans (gset _)⟩)
        clear hb3
        go_wp2
        go_ret
        exact ⟨⟨rfl, hZ.out.1⟩, hZ.out.2⟩
    | mrk m =>
      have hmm := firstF_mrk hf
      have n2 : m.length ≤ l.length := by rw [hmm, List.length_take]; omega
      have hx2 : x.extract m.length M = ⟨(l.drop m.length).toArray⟩ := by rw [← hx, ← hM]; exact ext_drop l _
      obtain ⟨y, hy⟩ : ∃ y : ByteArray, (⟨(l.drop m.length).toArray⟩ : ByteArray) = y := ⟨_, rfl⟩
      obtain ⟨f, hf2⟩ : ∃ f : ByteArray, (⟨m.toArray⟩ : ByteArray) = f := ⟨_, rfl⟩
      obtain ⟨K, hK⟩ : ∃ K, m.length = K := ⟨_, rfl⟩
      have hfs : f.size = K := by rw [← hf2, ba_size, hK]
      rw [hy, hK] at hx2
      rw [hx] at c0 HF
      rw [hM] at hxs hl n2
      rw [hK] at n2
      have HY := hide hy
      have HK := hide hK
      have HF2 := hide hf2
      clear hf hF hR hE hx hM hy hf2 hK hmm
      go_enter Tryd.func45, Tryd.ntmps45
      go_wp2_with fail
      (with_reducible refine HF.out.mono ?_)
      rintro e w1 ⟨he, hb⟩
      have he : e = .returned (.iface 76 (.string f)) := by rw [← HF2.out]; exact he
      subst he
      have c1 := keepc hb c0
      have f1 := keepf hb c0 HR.out.free
      have HD1 := hide (show Below w1.heap.size w1 w1.drew from (Below.refl _ w1).drew)
      have hm : ∀ w, (method 89 76 (.string f) "besom/heap.text").run Tryd.prog w = .ok (35, .string f) w := fun _ => by kernel_rfl
      go_wp2_with fail
      go_region_with (go_at_call 35; (with_reducible refine (mark_text _ _).mono ?_); rintro e w3 ⟨rfl, rfl⟩)
      all_goals
        have hZ := hide (show RestAt g (l.drop (Prt.mrk m).len) (w1.drew.setCell ⟨g, 0, none⟩ (.string y)) ∧ w.grownBy (w1.drew.setCell ⟨g, 0, none⟩ (.string y)) (some g) from
          ⟨by rw [← HY.out]; exact ((HR.out.below hb).below HD1.out).set, (grown_of_below (bcall hb HD1.out) (some g)).trans (gset _)⟩)
        go_wp2
        go_ret
        exact ⟨⟨by rw [← HF2.out]; rfl, hZ.out.1⟩, hZ.out.2⟩
end Go.Proofs.YtofobjhlpgcdaaaDoor
