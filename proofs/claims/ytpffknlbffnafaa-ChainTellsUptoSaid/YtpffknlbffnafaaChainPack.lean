/- Layer chain: Pack, Node, Start. -/
import Derived.Test.YtpffknlbffnafaaChainMach
import Derived.Test.YtpffknlbffnafaaDequeTurn
namespace Go.Proofs.Ytpffknlbffnafaa.ch
open Go.RowKit

theorem or_lit (a b : Nat) (ha : a < 4294967296) (hb : b < 4294967296) : bits .or .u64 ((a * 4294967296 : Nat) : Int) (b : Int) = ((a * 4294967296 + b : Nat) : Int) := by
  have hA : a * 4294967296 < 18446744073709551616 := by omega
  have e : a * 4294967296 ||| b = a * 4294967296 + b := by
    have := Nat.two_pow_add_eq_or_of_lt (i := 32) (b := b) hb a
    rw [show 2 ^ 32 = 4294967296 from rfl, Nat.mul_comm] at this
    exact this.symm
  have h1 : (BitVec.ofInt 64 ((a * 4294967296 : Nat) : Int)).toNat = a * 4294967296 := by rw [BitVec.ofInt_natCast, BitVec.toNat_ofNat]; exact Nat.mod_eq_of_lt hA
  have h2 : (BitVec.ofInt 64 ((b : Nat) : Int)).toNat = b := by rw [BitVec.ofInt_natCast, BitVec.toNat_ofNat]; exact Nat.mod_eq_of_lt (by omega)
  show IntKind.u64.wrap ((BitVec.ofInt 64 ((a * 4294967296 : Nat) : Int) ||| BitVec.ofInt 64 ((b : Nat) : Int)).toNat : Int) = _
  rw [BitVec.toNat_or, h1, h2, e]
  simp only [IntKind.wrap, IntKind.bits, IntKind.signed]
  simp
  omega
theorem pack_raw (v n : Int) (a b : Int) (ha : a = IntKind.u64.wrap (v * 4294967296)) (hb : b = n % 4294967296) : bits .or .u64 a b = v % 4294967296 * 4294967296 + n % 4294967296 := by
  obtain ⟨x, hx⟩ : ∃ x : Nat, (x : Int) = v % 4294967296 := ⟨(v % 4294967296).toNat, by omega⟩
  obtain ⟨y, hy⟩ : ∃ y : Nat, (y : Int) = n % 4294967296 := ⟨(n % 4294967296).toNat, by omega⟩
  have e1 : a = ((x * 4294967296 : Nat) : Int) := by
    rw [ha]; simp only [IntKind.wrap, IntKind.bits, IntKind.signed]; simp; omega
  rw [e1, hb, ← hy, or_lit x y (by omega) (by omega), ← hx]
  omega


set_option maxRecDepth 100000 in
theorem Pack_same (v n z : Int) (hz : packF v n = z) (w : World) : Calls Try.prog 15 #[.int .u64 v, .int .i64 n] w fun e w' => e = .returned (.int .u64 z) ∧ w' = w := by
  have e := pack_raw v n _ _ rfl rfl
  have HE := hide (e.trans hz)
  clear e hz
  go_enter Try.func15, Try.ntmps15
  go_wp2
  go_ret
  exact ⟨congrArg (fun z => Ending.returned (Value.int IntKind.u64 z)) HE.out, rfl⟩
set_option maxRecDepth 100000 in
theorem Node_same (h z : Int) (hz : nodeF h = z) (w : World) : Calls Try.prog 17 #[.int .u64 h] w fun e w' => e = .returned (.int .i64 z) ∧ w' = w := by
  subst hz
  go_enter Try.func17, Try.ntmps17
  go_wp2
  go_ret
  exact ⟨rfl, rfl⟩
theorem pack_w (b n z : Int) (hz : packF (verF b + 1) n = z) : packF (IntKind.u64.wrap (b / 4294967296 + 1)) n = z := by
  rw [← hz, wrap_w]
  unfold packF verF w64
  omega
set_option maxRecDepth 100000 in
theorem Start_any (k s c x : Int) (w : World) : Calls Try.prog 19 #[.int .i64 k, .int .i64 s, .int .i64 c, .int .i64 x] w fun e w' => e = .returned (mvv k 0 s c 0 x 0 0) ∧ Below w.heap.size w w' := by
  go_enter Try.func19, Try.ntmps19
  go_wp2
  exact bodyPost_ret (v := mvv k 0 s c 0 x 0 0) (by simp [results, Try.results19, go_sem]) rfl ⟨rfl, bal _ _⟩
end Go.Proofs.Ytpffknlbffnafaa.ch
