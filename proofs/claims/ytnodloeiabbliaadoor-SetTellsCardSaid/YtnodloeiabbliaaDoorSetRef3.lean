/- Layer set: the document's own answer: digits, Text. -/
import Derived.Test.YtnodloeiabbliaaDoorSetRef2
import Derived.Laws.IdiomStrings
namespace Go.Proofs.YtnodloeiabbliaaDoor
open Go.RowKit Go.Shelf Go.Proofs

theorem rconv1 (w : World) (x : Int) (h0 : 0 ≤ x) (h1 : x ≤ 255) :
    (convert 60 9 (.slice (some ⟨w.heap.size, 0, none⟩) 1 1)).run Tryd.prog (w.alloc (.cells #[.int .u8 x] 5)) = .ok (.string ⟨[x.toNat.toUInt8].toArray⟩) (w.alloc (.cells #[.int .u8 x] 5)) := by
  refine run_convert_bytes_back (w.alloc (.cells #[.int .u8 x] 5)) 60 9 5 ⟨w.heap.size, 0, none⟩ 1 [x.toNat.toUInt8] Tryd.underlying60 Tryd.underlying5 Tryd.underlying9 fun j hj => ?_
  obtain rfl : j = 0 := by simpa using hj
  rw [row_new w [.int .u8 x] 5 0 _ rfl]
  simp; omega
theorem ret_text {s : ByteArray} {l : List UInt8} (h : s = ⟨l.toArray⟩) : Ending.returned (.string s) = .returned (.string ⟨l.toArray⟩) := by rw [h]
theorem dig_small (n : Nat) (h : n < 10) : dig n = [(48 + (n : Int)).toNat.toUInt8] := by
  unfold dig; rw [if_pos (by omega), show (48 + (n : Int)).toNat = 48 + ((n : Int)).toNat by omega]
theorem dig_big (n : Nat) (h : 10 ≤ n) : dig n = [(48 + ((n / 10 : Nat) : Int)).toNat.toUInt8, (48 + (n : Int) % 10).toNat.toUInt8] := by
  unfold dig
  rw [if_neg (by omega), show (48 + ((n / 10 : Nat) : Int)).toNat = 48 + ((n : Int)).toNat / 10 by omega, show (48 + (n : Int) % 10).toNat = 48 + ((n : Int)).toNat % 10 by omega]
set_option maxRecDepth 100000 in
set_option maxHeartbeats 1000000 in
theorem rDigits_any (n : Nat) (w : World) (h : n < 100) :
    Calls Tryd.prog 41 #[.int .u64 n] w fun e w' => e = .returned (.string ⟨(dig n).toArray⟩) ∧ Below w.heap.size w w' := by
  have D1 := hide (dig_small n)
  have D2 := hide (dig_big n)
  obtain ⟨c1, hc1⟩ : ∃ c : UInt8, (48 + (n : Int) % 10).toNat.toUInt8 = c := ⟨_, rfl⟩
  obtain ⟨c2, hc2⟩ : ∃ c : UInt8, (48 + (n : Int)).toNat.toUInt8 = c := ⟨_, rfl⟩
  obtain ⟨c3, hc3⟩ : ∃ c : UInt8, (48 + ((n / 10 : Nat) : Int)).toNat.toUInt8 = c := ⟨_, rfl⟩
  rw [hc1, hc3] at D2
  rw [hc2] at D1
  have HC := hide hc1
  have HC2 := hide hc2
  have HC3 := hide hc3
  clear hc1 hc2 hc3
  go_enter Tryd.func41, Tryd.ntmps41
  go_wp2
  go_loopw [0, 3] (fun v t wr => ∃ m : Nat, ((m = n ∧ t = .string ⟨#[]⟩) ∨ (10 ≤ n ∧ m = n / 10 ∧ t = .string ⟨#[c1]⟩)) ∧ v = .int .u64 m ∧ Below w.heap.size w wr) (fun v _ _ => (Go.RowKit.intOf v).toNat)
  case atStart => exact ⟨n, .inl ⟨rfl, rfl⟩, rfl, Below.refl _ _⟩
  case round =>
    obtain ⟨m, hm, rfl, hb⟩ := hrel
    have hsz := hb.size
    rcases hm with ⟨rfl, rfl⟩ | ⟨h10, rfl, rfl⟩
    · by_cases h9 : 10 ≤ m
      · have hcv := rconv1 wr (48 + (m : Int) % 10) (by omega) (by omega)
        rw [HC.out] at hcv
        have hge : decide ((m : Int) > 9) = true := decide_eq_true (by omega)
        go_wp2
        go_roundw
        case rel => exact ⟨m / 10, .inr ⟨h9, rfl, rfl⟩, by go_num, hb.alloc hsz _⟩
        case measure => simp [Go.RowKit.intOf]; omega
      · have hd := hide (D1.out (by omega))
        have hcv := rconv1 wr (48 + (m : Int)) (by omega) (by omega)
        rw [HC2.out] at hcv
        have hge : decide ((m : Int) > 9) = false := decide_eq_false (by omega)
        go_wp2
        go_ret
        exact ⟨ret_text (by rw [hd.out]; rfl), hb.alloc hsz _⟩
    · have hd := hide (D2.out h10)
      have hcv := rconv1 wr (48 + ((n / 10 : Nat) : Int)) (by omega) (by omega)
      rw [HC3.out] at hcv
      have hge : decide (((n / 10 : Nat) : Int) > 9) = false := decide_eq_false (by omega)
      have hq : n / 10 ≤ 9 := by omega
      generalize n / 10 = q at *
      go_wp2
      go_ret
      exact ⟨ret_text (by rw [hd.out]; rfl), hb.alloc hsz _⟩
end Go.Proofs.YtnodloeiabbliaaDoor
