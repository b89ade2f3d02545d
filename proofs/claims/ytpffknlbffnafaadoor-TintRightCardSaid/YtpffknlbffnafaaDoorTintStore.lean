/- Layer tint: a box that is written anew. -/
import Derived.Test.YtpffknlbffnafaaDoorTintTied
import Derived.Laws.DeepStrings4
namespace Go.Proofs.YtpffknlbffnafaaDoor
open Go.RowKit
theorem slice_byte (s : List UInt8) (k : Nat) (c : UInt8) (hk : k < s.length) (hc : s[k] = c) (w : World) :
    (Instr.slice 9 (.string ⟨s.toArray⟩) (some (.int .i64 (k : Int))) (some (.int .i64 ((k : Int) + 1))) none).run Tryd.prog w = .ok (.string ⟨#[c]⟩) w := by
  have hz : ((⟨s.toArray⟩ : ByteArray).size : Int) = (s.length : Int) := by simp [ByteArray.size]
  rw [run_slice_string_if _ _ _ _ _ _ _ Tryd.underlying9, hz, if_pos (by omega), if_pos (by omega)]
  have e : (⟨s.toArray⟩ : ByteArray).extract (k : Int).toNat ((k : Int) + 1).toNat = ⟨#[c]⟩ := by
    rw [show ((k : Int)).toNat = k by omega, show ((k : Int) + 1).toNat = k + 1 by omega]
    apply ByteArray.ext
    rw [ByteArray.data_extract]
    apply Array.ext
    · simp; omega
    · intro i h1 h2
      have : i = 0 := by simp at h2; omega
      subst this
      simp [hc]
  rw [e]
theorem box_store {w : World} {b : Nat} {x y n v : Value} (c0 : w.cell? ⟨b, 0, none⟩ = some x) (c1 : w.cell? ⟨b, 1, none⟩ = some y) (_f0 : w.frozen? ⟨b, 0, none⟩ = false) (_f1 : w.frozen? ⟨b, 1, none⟩ = false) :
    ∃ ws, (w.setCell ⟨b, 0, none⟩ n).setCell ⟨b, 1, none⟩ v = ws ∧ ws.cell? ⟨b, 0, none⟩ = some n ∧ ws.cell? ⟨b, 1, none⟩ = some v ∧ Below b w ws ∧ ws.heap.size = w.heap.size := by
  refine ⟨_, rfl, by simp [go_sem, c0], by simp [go_sem, c1], (((Below.refl b w).setCell (p := ⟨b, 0, none⟩) (Nat.le_refl b) n).setCell (p := ⟨b, 1, none⟩) (Nat.le_refl b) v), by simp [World.setCell]⟩
theorem keeps {n : Nat} {a b : World} {p : Addr} {v : Value} (hb : Below n a b) (hp : p.block < n) (_hn : n ≤ a.heap.size) (h : a.cell? p = some v) : b.cell? p = some v := by
  rw [World.cell?_of_block (hb.block p.block hp)]; exact h
end Go.Proofs.YtpffknlbffnafaaDoor
