/- Layer pick: Known. -/
import Derived.Test.YtbnnhalbgkaedaaScal
namespace Go.Proofs.Ytbnnhalbgkaedaa
open Go.RowKit

/-- a pick's cells -/
def pc (p : Int × Int) : List Value := [.int .i64 p.1, .int .i64 p.2]
abbrev Picks (w : World) (v : Value) (l : List (Int × Int)) : Prop := Sl pc 2 w v l
theorem picks_at {w : World} {A : Option Addr} {n c : Nat} {l : List (Int × Int)} (h : Picks w (.slice A n c) l) {k : Nat} (hk : k < l.length) :
    ∃ b off, A = some ⟨b, off, none⟩ ∧ b < w.heap.size ∧ w.cell? ⟨b, off + k * 2, none⟩ = some (.int .i64 (l[k]).1) ∧ w.cell? ⟨b, off + k * 2 + 1, none⟩ = some (.int .i64 (l[k]).2) := by
  obtain ⟨A', c', e, h1, h2, h3⟩ := h
  injection e with e1 e2 e3
  subst e1
  obtain ⟨b, off, rfl, hb, hc⟩ := h3 (by omega)
  have := hc k l[k] (List.getElem?_eq_getElem hk)
  exact ⟨b, off, rfl, hb, by simpa using this 0 _ rfl, by simpa using this 1 _ rfl⟩

set_option maxHeartbeats 1000000 in
theorem Known_any (v : Value) (l : List (Int × Int)) (n m : Int) (w : World) (hl : Picks w v l) :
    Calls Try.prog 19 #[v, .int .i64 n, .int .i64 m] w fun e w' => e = .returned (.bool (l.all fun p => there p n m)) ∧ Below w.heap.size w w' := by
  have hlen := hl.len
  have hl' := hl
  obtain ⟨A, c, rfl, h1, h2, -⟩ := hl'
  unfold maxLen at h2 hlen
  have HL := hide hl
  clear hl
  go_enter Try.func19, Try.ntmps19
  go_wp2
  go_loopw [11] (fun i wr => ∃ k : Nat, k ≤ l.length ∧ i = .int .i64 k ∧ Below w.heap.size w wr ∧ (l.take k).all (fun p => there p n m) = true) (fun i _ => l.length - (intOf i).toNat)
  case atStart => exact ⟨0, Nat.zero_le _, rfl, Below.refl _ _, by simp⟩
  case round =>
    obtain ⟨k, hk, rfl, hb, hall⟩ := hrel
    by_cases hlt : k < l.length
    · obtain ⟨b, off, rfl, hbl, c0, c1⟩ := picks_at (HL.out.below hb) hlt
      have hsn : (l.take (k + 1)).all (fun p => there p n m) = there (l[k].1, l[k].2) n m := by
        rw [List.take_succ_eq_append_getElem hlt, List.all_append, hall]; simp
      have HS := hide hsn
      clear hsn
      cases htb : there (l[k].1, l[k].2) n m
      · go_wp2_with (go_at_call 32; refine (isThere_any _ _ _ _ _).mono ?_; rintro e w' ⟨rfl, hb'⟩; rw [htb])
        go_ret
        refine ⟨ret_bool ?_, ?_⟩
        · rw [htb] at HS
          symm
          rw [← Bool.not_eq_true]
          intro hall'
          have h3 : (l.take (k + 1)).all (fun p => there p n m) = true := List.all_eq_true.2 fun x hx => List.all_eq_true.1 hall' x (List.mem_of_mem_take hx)
          rw [HS.out] at h3; cases h3
        · exact bcall1 hb hb'
      · go_wp2_with (go_at_call 32; refine (isThere_any _ _ _ _ _).mono ?_; rintro e w' ⟨rfl, hb'⟩; rw [htb])
        go_roundw
        case rel => exact ⟨k + 1, by omega, by go_num, bcall1 hb hb', by rw [HS.out, htb]⟩
        case measure => simp [intOf]; omega
    · go_wp2
      go_ret
      refine ⟨ret_bool ?_, hb⟩
      rw [List.take_of_length_le (by omega)] at hall
      exact hall.symm
end Go.Proofs.Ytbnnhalbgkaedaa
