import Derived.Shelf.Strings.SlTrimAscii
import Derived.Test.YtjbaiibbgplljaaGreatDoorPay
namespace Go.Proofs.YtjbaiibbgplljaaGreatDoor
open Go.RowKit Go.Shelf Go.Proofs
structure EnvH (w : World) : Prop where
 pow : Lib.TabIs Tryz.prog w "internal/strconv.uint64pow10" .u64 Lib.pow10Tab
 syn : ∃ te pe, w.cell? ⟨5, 0, none⟩ = some (.iface te pe)
 rng : ∃ te pe, w.cell? ⟨6, 0, none⟩ = some (.iface te pe)
theorem EnvH.below {w w' : World} (h : EnvH w) (hb : Below w.heap.size w w') : EnvH w' := by
 obtain ⟨h1, ⟨te, pe, h2⟩, ⟨tr, pr, h3⟩⟩ := h; exact ⟨Joins.tab_stays (g := 2) (by kernel_rfl) h1 hb (Nat.le_refl _), ⟨te, pe, by rw [hb.cell (World.block_lt_of_cell? _ _ h2)]; exact h2⟩, ⟨tr, pr, by rw [hb.cell (World.block_lt_of_cell? _ _ h3)]; exact h3⟩⟩
theorem grow_below (w : World) (k : Nat) (os : Array Obj) : Below w.heap.size w (Go.Sort.grow (w.drewN k) os) := by
 refine ⟨rfl, rfl, rfl, ?_, fun i hi => ?_⟩
 · show w.heap.size ≤ (w.heap ++ os).size
   simp
 · show (w.heap ++ os)[i]? = w.heap[i]?
   rw [Array.getElem?_append_left hi]
theorem Itoa_any (n : Int) (h0 : 0 ≤ n) (h1 : n ≤ 9223372036854775807) (w : World) (hE : EnvH w) :
 Calls Tryz.prog 145 #[.int .i64 n] w fun e w' => e = .returned (.string ⟨(Go.Lib.decDigits n.toNat).toArray⟩) ∧ Below w.heap.size w w' :=
 (Tryz.strconv_Itoa n (by omega) h1 w hE.pow).mono fun e w' ⟨he, k, os, hw⟩ => ⟨by rw [he]; unfold Go.Lib.itoa; rw [if_neg (by omega)], by rw [hw]; exact grow_below w k os⟩
theorem Atoi_okHp (s : ByteArray) (hs : s.size ≤ 281474976710656) (v : Int) (h : Go.Lib.atoiAll s.data.toList = .ok v) (w : World) :
 Calls Tryz.prog 179 #[.string s] w fun e w' => e = .returned (.tuple #[.int .i64 v, .nilIface]) ∧ Below w.heap.size w w' :=
 (Tryz.strconv_Atoi_ok s (by omega) v h w).mono fun e w' ⟨he, hw⟩ => ⟨he, by
  rcases hw with rfl | ⟨t, rfl⟩
  · exact Below.refl _ _
  · exact Lib.bytesWorld_below _ _ _⟩
theorem Atoi_badHp (s : ByteArray) (hs : s.size ≤ 281474976710656) (h : ∀ v, Go.Lib.atoiAll s.data.toList ≠ .ok v) (w : World) (hE : EnvH w) :
 Calls Tryz.prog 179 #[.string s] w fun e w' => ∃ (n : Int) (N : Nat), e = .returned (.tuple #[.int .i64 n, .iface 271 (.pointer (some ⟨N, 0, none⟩))]) ∧ Below w.heap.size w w' := by
 obtain ⟨-, ⟨te, pe, h2⟩, ⟨tr, pr, h3⟩⟩ := hE; rcases ha : Go.Lib.atoiAll s.data.toList with v | _ | _
 · exact absurd ha (h v)
 · exact (Any.strconv_Atoi_syntax Tryz.laysC172 s hs ha _ w h2 (.inr ⟨_, _, rfl⟩)).mono fun e w' ⟨N, he, _, _, hb⟩ => ⟨0, N, he, hb⟩
 · exact (Any.strconv_Atoi_range Tryz.laysC172 s hs ha _ w h3 (.inr ⟨_, _, rfl⟩)).mono fun e w' ⟨N, he, _, _, hb⟩ => ⟨_, N, he, hb⟩
def digs : List UInt8 := [48, 49, 50, 51, 52, 53, 54, 55, 56, 57]
theorem TrimLeft_any (s : ByteArray) (w : World) :
 Calls Tryz.prog 228 #[.string s, .string ⟨#[48, 49, 50, 51, 52, 53, 54, 55, 56, 57]⟩] w fun e w' => e = .returned (.string ⟨(s.data.toList.dropWhile (digs.contains ·)).toArray⟩) ∧ Below w.heap.size w w' :=
 Any.strings_TrimLeft_laid Tryz.lays161 (by kernel_rfl) s ⟨#[48, 49, 50, 51, 52, 53, 54, 55, 56, 57]⟩ w (by decide) (ascii_of_all (by decide))
