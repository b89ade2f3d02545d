import Derived.Laws.IdiomStrings
import Derived.Lib.ItoaNum
import Derived.Test.YtjbaiibbgplljaaGreatDoorPab
set_option maxRecDepth 100000
set_option maxHeartbeats 40000000
namespace Go.Proofs.YtjbaiibbgplljaaGreatDoor
open Go.RowKit
theorem dconv1 (w : World) (x : Int) (h0 : 0 ≤ x) (h1 : x ≤ 255) :
 (convert 31 9 (.slice (some ⟨w.heap.size, 0, none⟩) 1 1)).run Tryz.prog (w.alloc (.cells #[.int .u8 x] 5)) = .ok (.string ⟨[x.toNat.toUInt8].toArray⟩) (w.alloc (.cells #[.int .u8 x] 5)) := by
 refine run_convert_bytes_back (w.alloc (.cells #[.int .u8 x] 5)) 31 9 5 ⟨w.heap.size, 0, none⟩ 1 [x.toNat.toUInt8] Tryz.underlying31 Tryz.underlying5 Tryz.underlying9 fun j hj => ?_
 obtain rfl : j = 0 := by simpa using hj
 rw [row_new w [.int .u8 x] 5 0 _ rfl]; simp; omega
theorem dret {s : ByteArray} {l : List UInt8} (h : s = ⟨l.toArray⟩) : Ending.returned (.string s) = .returned (.string ⟨l.toArray⟩) := by rw [h]
theorem dec_low {m : Nat} (h : m < 10) : Go.Lib.decDigits m = [(48 + (m : Int)).toNat.toUInt8] := by
 rw [Go.Lib.decDigits_one h, show (48 + (m : Int)).toNat = 48 + m by omega]
theorem dec_high {m : Nat} (h : ¬ m < 10) : Go.Lib.decDigits m = Go.Lib.decDigits (m / 10) ++ [(48 + (m : Int) % 10).toNat.toUInt8] := by
 rw [Go.Lib.decDigits, dif_neg h, show (48 + (m : Int) % 10).toNat = 48 + m % 10 by omega]
theorem nd_le : ∀ (k u : Nat), u < 10 ^ (k + 1) → Go.Lib.nDigits u ≤ k + 1
 | 0, u, h => by rw [Go.Lib.nDigits_small (by simpa using h)]; omega
 | k + 1, u, h => by
   by_cases h10 : u < 10
   · rw [Go.Lib.nDigits_small h10]; omega
   · rw [Go.Lib.nDigits_big h10]
     have := nd_le k (u / 10) (by rw [Nat.pow_succ] at h; omega); omega
theorem dec_le {n : Nat} (h : n < 18446744073709551616) : (Go.Lib.decDigits n).length ≤ 20 := by
 rw [Go.Lib.decDigits_length]; exact nd_le 19 n (Nat.lt_of_lt_of_le h (by decide))
theorem rDigits_all (n : Nat) (w : World) (h : n < 18446744073709551616) :
 Calls Tryz.prog 104 #[.int .u64 n] w fun e w' => e = .returned (.string ⟨(Go.Lib.decDigits n).toArray⟩) ∧ Below w.heap.size w w' := by
 go_enter Tryz.func104, Tryz.ntmps104
 go_wp2; go_loopw [0, 3] (fun v t wr => ∃ (m : Nat) (suf : List UInt8), v = .int .u64 m ∧ t = .string ⟨suf.toArray⟩ ∧ m < 18446744073709551616 ∧ Hid (Go.Lib.decDigits n = Go.Lib.decDigits m ++ suf) ∧ suf.length ≤ 20 ∧ Below w.heap.size w wr) (fun v _ _ => (intOf v).toNat)
 case atStart => exact ⟨n, [], rfl, rfl, h, hide (by simp), by simp, Below.refl _ _⟩
 case round =>
  obtain ⟨m, suf, rfl, rfl, hm, hd, hl, hb⟩ := hrel; have hsz := hb.size; by_cases h9 : m < 10
  · have hcv := dconv1 wr (48 + (m : Int)) (by omega) (by omega)
    have hl1 := dec_low h9; obtain ⟨c, hc⟩ : ∃ c : UInt8, (48 + (m : Int)).toNat.toUInt8 = c := ⟨_, rfl⟩; rw [hc] at hcv hl1; have HF := hide (show Go.Lib.decDigits n = [c] ++ suf by rw [hd.out, hl1]); have hge : decide ((m : Int) > 9) = false := decide_eq_false (by omega); clear hc hl1 hd; go_wp2; go_ret
    exact ⟨dret (by rw [HF.out, ← ba_append]), hb.alloc hsz _⟩
  · have hcv := dconv1 wr (48 + (m : Int) % 10) (by omega) (by omega)
    have hl1 := dec_high h9; obtain ⟨c, hc⟩ : ∃ c : UInt8, (48 + (m : Int) % 10).toNat.toUInt8 = c := ⟨_, rfl⟩; rw [hc] at hcv hl1; have HF := hide (show Go.Lib.decDigits n = Go.Lib.decDigits (m / 10) ++ ([c] ++ suf) by rw [hd.out, hl1, List.append_assoc]); have hge : decide ((m : Int) > 9) = true := decide_eq_true (by omega); have hsl : ([c] ++ suf).length ≤ 20 := by have h1 := dec_le h; rw [HF.out, List.length_append] at h1; omega
    clear hc hl1 hd; go_wp2; go_roundw
    case rel => exact ⟨m / 10, [c] ++ suf, by go_num, by rw [← ba_append], by omega, HF, hsl, hb.alloc hsz _⟩
    case measure => simp [intOf]; omega
