import Derived.Test.YtjbaiibbgplljaaGreatDoorPad
import Derived.Test.YtjbaiibbgplljaaGreatDoorPac
import Derived.Test.YtjbaiibbgplljaaGreatDoorPao
set_option maxRecDepth 100000
set_option maxHeartbeats 40000000
namespace Go.Proofs.YtjbaiibbgplljaaGreatDoor
open Go.RowKit Go.Joins
def GridO (w : World) (v : Value) (ls : List (List Oq)) : Prop :=
 ∃ vs : List Value, Sl one 1 w v vs ∧ vs.length = ls.length ∧ ∀ (i : Nat) (u : Value) (l : List Oq), vs[i]? = some u → ls[i]? = some l → Oqs w u l
section
variable {w w' : World} {v : Value} {ls : List (List Oq)}
theorem GridO.below (h : GridO w v ls) (hb : Below w.heap.size w w') : GridO w' v ls := by
 obtain ⟨vs, h1, h2, h3⟩ := h; exact ⟨vs, h1.below hb, h2, fun i u l hu hl => (h3 i u l hu hl).below hb⟩
theorem GridO.form (h : GridO w v ls) : ∃ A c, v = .slice A ls.length c ∧ ls.length ≤ c ∧ c ≤ maxLen := by
 obtain ⟨vs, ⟨A, c, rfl, h1, h2, _⟩, hl, _⟩ := h; exact ⟨A, c, by rw [hl], by omega, h2⟩
theorem gridO_at {A : Option Addr} {n c k : Nat} (h : GridO w (.slice A n c) ls) (hk : k < ls.length) :
 ∃ b off u, A = some ⟨b, off, none⟩ ∧ b < w.heap.size ∧ w.cell? ⟨b, off + k, none⟩ = some u ∧ Oqs w u ls[k] := by
 obtain ⟨vs, ⟨A', c', e, h1, h2, h3⟩, hl, hi⟩ := h; injection e with e1 e2 e3; subst e1; obtain ⟨b, off, rfl, hb, hc⟩ := h3 (by omega); have hkv : k < vs.length := by omega
 refine ⟨b, off, vs[k], rfl, hb, ?_, hi k _ _ (List.getElem?_eq_getElem hkv) (List.getElem?_eq_getElem hk)⟩; have := hc k vs[k] (List.getElem?_eq_getElem hkv) 0 vs[k] rfl; simpa using this
end
abbrev planV (a b c d e f g h n : Int) (ob : Value) (s : Nat) (rg pg pk : Value) : Value :=
 .agg #[.int .i64 a, .int .i64 b, .int .i64 c, .int .i64 d, .int .i64 e, .int .i64 f, .int .i64 g, .int .i64 h, .int .i64 n, ob, .int .u64 (s : Int), rg, pg, pk]
abbrev planC (a b c d e f g h n : Int) (ob : Value) (s : Nat) (rg pg pk : Value) : Array Value :=
 #[.int .i64 a, .int .i64 b, .int .i64 c, .int .i64 d, .int .i64 e, .int .i64 f, .int .i64 g, .int .i64 h, .int .i64 n, ob, .int .u64 (s : Int), rg, pg, pk]
structure PlanR (w : World) (ob rg pg pk : Value) (p : Pq) : Prop where
 ob : Grid w ob p.ob
 rg : Grid w rg p.rg
 pg : GridO w pg p.pg
 pk : Picks w pk p.pk
theorem PlanR.below {w w' : World} {ob rg pg pk : Value} {p : Pq} (h : PlanR w ob rg pg pk p) (hb : Below w.heap.size w w') : PlanR w' ob rg pg pk p := ⟨h.ob.below hb, h.rg.below hb, h.pg.below hb, h.pk.below hb⟩
structure Bp (t : TypeId) (w : World) (B : Nat) (a b c d e f g h n : Int) (ob : Value) (s : Nat) (rg pg pk : Value) : Prop where
 blk : w.heap[B]? = some (.cells (planC a b c d e f g h n ob s rg pg pk) t)
section
variable {t : TypeId} {w w' : World} {B : Nat} {a b c d e f g h n : Int} {ob : Value} {s : Nat} {rg pg pk : Value}
theorem Bp.lt (k : Bp t w B a b c d e f g h n ob s rg pg pk) : B < w.heap.size := (Array.getElem?_eq_some_iff.1 k.blk).1
theorem Bp.below (k : Bp t w B a b c d e f g h n ob s rg pg pk) (hb : Below w.heap.size w w') : Bp t w' B a b c d e f g h n ob s rg pg pk := ⟨(hb.block B k.lt).trans k.blk⟩
theorem Bp.drew (k : Bp t w B a b c d e f g h n ob s rg pg pk) : Bp t w.drew B a b c d e f g h n ob s rg pg pk := ⟨k.blk⟩
theorem Bp.all (k : Bp t w B a b c d e f g h n ob s rg pg pk) : w.cell? ⟨B, 0, none⟩ = some (.int .i64 a) ∧ w.cell? ⟨B, 1, none⟩ = some (.int .i64 b) ∧ w.cell? ⟨B, 2, none⟩ = some (.int .i64 c) ∧ w.cell? ⟨B, 3, none⟩ = some (.int .i64 d) ∧
 w.cell? ⟨B, 4, none⟩ = some (.int .i64 e) ∧ w.cell? ⟨B, 5, none⟩ = some (.int .i64 f) ∧ w.cell? ⟨B, 6, none⟩ = some (.int .i64 g) ∧ w.cell? ⟨B, 7, none⟩ = some (.int .i64 h) :=
 ⟨cell_of_block k.blk 0, cell_of_block k.blk 1, cell_of_block k.blk 2, cell_of_block k.blk 3, cell_of_block k.blk 4, cell_of_block k.blk 5, cell_of_block k.blk 6, cell_of_block k.blk 7⟩
theorem Bp.all2 (k : Bp t w B a b c d e f g h n ob s rg pg pk) : w.cell? ⟨B, 8, none⟩ = some (.int .i64 n) ∧ w.cell? ⟨B, 9, none⟩ = some ob ∧ w.cell? ⟨B, 10, none⟩ = some (.int .u64 (s : Int)) ∧ w.cell? ⟨B, 11, none⟩ = some rg ∧
 w.cell? ⟨B, 12, none⟩ = some pg ∧ w.cell? ⟨B, 13, none⟩ = some pk :=
 ⟨cell_of_block k.blk 8, cell_of_block k.blk 9, cell_of_block k.blk 10, cell_of_block k.blk 11, cell_of_block k.blk 12, cell_of_block k.blk 13⟩
end
theorem bp_new (w : World) (a b c d e f g h n : Int) (ob : Value) (s : Nat) (rg pg pk : Value) (t : TypeId) : ∃ w1, w.alloc (.cells #[.int .i64 a, .int .i64 b, .int .i64 c, .int .i64 d, .int .i64 e, .int .i64 f, .int .i64 g, .int .i64 h, .int .i64 n, ob, .int .u64 (s : Int), rg, pg, pk] t) = w1 ∧
 Below w.heap.size w w1 ∧ w1.heap.size = w.heap.size + 1 ∧ Bp t w1 w.heap.size a b c d e f g h n ob s rg pg pk :=
 ⟨_, rfl, (Below.refl _ _).alloc (Nat.le_refl _) _, by simp, ⟨heap_alloc_new w _⟩⟩
end Go.Proofs.YtjbaiibbgplljaaGreatDoor
namespace Go.Proofs.YtjbaiibbgplljaaGreatDoor
open Go.RowKit
def wrF (ls : List (List Oq)) (i : Nat) : Nat := ((ls.take i).map cWrites).sum
theorem writes_take {ls : List (List Oq)} {i : Nat} (h : i < ls.length) : wrF ls (i + 1) = wrF ls i + cWrites ls[i] := by
 unfold wrF; rw [List.take_succ_eq_append_getElem h, List.map_append, List.sum_append]; simp
theorem wrap_add (x y : Nat) : wrap64 (wrap64 (x : Int) + (y : Int)) = wrap64 ((x + y : Nat) : Int) := by unfold wrap64; omega
def grF (s : Nat) (rg : Rws) (i : Nat) : Nat := (rg.take i).foldl (fun s l => s ||| ofF l) s
theorem grey_take {s : Nat} {rg : Rws} {i : Nat} (h : i < rg.length) : grF s rg (i + 1) = grF s rg i ||| ofF rg[i] := by
 unfold grF; rw [List.take_succ_eq_append_getElem h, List.foldl_append]; rfl
theorem grF_lt {s : Nat} (hs : s < 18446744073709551616) (rg : Rws) (i : Nat) : grF s rg i < 18446744073709551616 := grey_fold_lt _ hs
theorem conv1 (w : World) (x : Int) (h0 : 0 ≤ x) (h1 : x ≤ 255) :
 (convert 31 9 (.slice (some ⟨w.heap.size, 0, none⟩) 1 1)).run Tryz.prog (w.alloc (.cells #[.int .u8 x] 5)) = .ok (.string ⟨[x.toNat.toUInt8].toArray⟩) (w.alloc (.cells #[.int .u8 x] 5)) := by
 refine run_convert_bytes_back (w.alloc (.cells #[.int .u8 x] 5)) 31 9 5 ⟨w.heap.size, 0, none⟩ 1 [x.toNat.toUInt8] Tryz.underlying31 Tryz.underlying5 Tryz.underlying9 fun j hj => ?_
 obtain rfl : j = 0 := by simpa using hj
 rw [row_new w [.int .u8 x] 5 0 _ rfl]; simp; omega
theorem conv2 (w : World) (x y : Int) (h0 : 0 ≤ x) (h1 : x ≤ 255) (g0 : 0 ≤ y) (g1 : y ≤ 255) :
 (convert 31 9 (.slice (some ⟨w.heap.size, 0, none⟩) 2 2)).run Tryz.prog (w.alloc (.cells #[.int .u8 x, .int .u8 y] 5)) = .ok (.string ⟨[x.toNat.toUInt8, y.toNat.toUInt8].toArray⟩) (w.alloc (.cells #[.int .u8 x, .int .u8 y] 5)) := by
 refine run_convert_bytes_back (w.alloc (.cells #[.int .u8 x, .int .u8 y] 5)) 31 9 5 ⟨w.heap.size, 0, none⟩ 2 [x.toNat.toUInt8, y.toNat.toUInt8] Tryz.underlying31 Tryz.underlying5 Tryz.underlying9 fun j hj => ?_
 have hj' : j < 2 := by simpa using hj
 match j, hj' with
 | 0, _ => rw [row_new w [.int .u8 x, .int .u8 y] 5 0 _ rfl]; simp; omega
 | 1, _ => rw [row_new w [.int .u8 x, .int .u8 y] 5 1 _ rfl]; simp; omega
theorem ret_textPk {s : ByteArray} {l : List UInt8} (h : s = ⟨l.toArray⟩) : Ending.returned (.string s) = .returned (.string ⟨l.toArray⟩) := by rw [h]
theorem text_any (k n : Int) (w : World) :
 Calls Tryz.prog 107 #[.agg #[.int .i64 k, .int .i64 n]] w fun e w' => e = .returned (.string ⟨(textP (k, n)).toArray⟩) ∧ Below w.heap.size w w' := by
 cases hR : right (k, n)
 · have HR := hide hR
   have HT := hide (show textP (k, n) = [63] by unfold textP writeF; rw [if_pos hR]; decide); clear hR; go_enter Tryz.func107, Tryz.ntmps107
   go_wp2_with fail
   (with_reducible refine (rRight_anyPk _ _ _).mono ?_); rintro e w2 ⟨rfl, hb2⟩; rw [HR.out]; go_wp2; go_ret
   exact ⟨ret_textPk (by rw [HT.out]), bcall1 (Below.refl _ _) hb2⟩
 · have HR := hide hR
   have hR' : (!right (k, n)) = false := by rw [hR]; rfl
   by_cases h0 : k = 0
   · subst h0
     have hn : n = 0 := by simp [right] at hR; exact hR
     subst hn; have HT := hide (show textP (0, 0) = [46] by decide); clear hR hR'; go_enter Tryz.func107, Tryz.ntmps107
     go_wp2_with fail
     (with_reducible refine (rRight_anyPk _ _ _).mono ?_); rintro e w2 ⟨rfl, hb2⟩; rw [HR.out]; obtain ⟨hc, hf⟩ := bcell hb2; go_wp2; go_ret
     exact ⟨ret_textPk (by rw [HT.out]), bcall1 (Below.refl _ _) hb2⟩
   · by_cases h1 : k = 1
     · subst h1
       have hr := right_1 hR' rfl; have HT := hide (show textP (1, n) = [(97 + n - 1).toNat.toUInt8] by rw [(text_1 hR (by simp)).1]; simp [writeF, hR]; congr 2; omega); clear hR hR'; go_enter Tryz.func107, Tryz.ntmps107
       go_wp2_with fail
       (with_reducible refine (rRight_anyPk _ _ _).mono ?_); rintro e w2 ⟨rfl, hb2⟩; rw [HR.out]; obtain ⟨hc, hf⟩ := bcell hb2; have hcv := conv1 w2 (97 + n - 1) (by omega) (by omega); go_wp2; go_ret
       have hby : UInt8.ofNat ((97 + n).toNat - 1) = (97 + n - 1).toNat.toUInt8 := by rw [show (97 + n).toNat - 1 = (97 + n - 1).toNat by omega]
       exact ⟨ret_textPk (by rw [HT.out, ← hby]), (bcall1 (Below.refl _ _) hb2).alloc (by have := hb2.size; simp at this; omega) _⟩
     · have h2 : k = 2 := by simp [right] at hR; omega
       subst h2; have hr := right_2 hR' rfl; by_cases hn : n = 16
       · subst hn
         have HT := hide (show textP (2, 16) = [207, 128] by decide); clear hR hR'; go_enter Tryz.func107, Tryz.ntmps107
         go_wp2_with fail
         (with_reducible refine (rRight_anyPk _ _ _).mono ?_); rintro e w2 ⟨rfl, hb2⟩; rw [HR.out]; obtain ⟨hc, hf⟩ := bcell hb2; have hcv := conv2 w2 207 128 (by omega) (by omega) (by omega) (by omega); go_wp2; go_ret
         exact ⟨ret_textPk (by rw [HT.out]), (bcall1 (Below.refl _ _) hb2).alloc (by have := hb2.size; simp at this; omega) _⟩
       · have HT := hide (show textP (2, n) = [206, (176 + n).toNat.toUInt8] by
          rw [(text_2 hR rfl).1]; have e : writeF (2, n) = n + 944 := by simp [writeF, hR]
          rw [e, show (192 + (n + 944) / 64) = 206 by omega, show (128 + (n + 944) % 64) = 176 + n by omega]; rfl)
         have q : (n == 16) = false := by simpa using hn
         clear hR hR' hn; go_enter Tryz.func107, Tryz.ntmps107
         go_wp2_with fail
         (with_reducible refine (rRight_anyPk _ _ _).mono ?_); rintro e w2 ⟨rfl, hb2⟩; rw [HR.out]; obtain ⟨hc, hf⟩ := bcell hb2; have hcv := conv2 w2 206 (176 + n) (by omega) (by omega) (by omega) (by omega); go_wp2; go_ret
         exact ⟨ret_textPk (by rw [HT.out]), (bcall1 (Below.refl _ _) hb2).alloc (by have := hb2.size; simp at this; omega) _⟩
theorem rPrint_any (v : Value) (l : List PP) (w : World) (hl : Picks w v l) (hlen : l.length ≤ 8796093022208) :
 Calls Tryz.prog 69 #[v] w fun e w' => e = .returned (.string ⟨(printL l).toArray⟩) ∧ Below w.heap.size w w' := by
 have hl' := hl; obtain ⟨A, c, rfl, h1, h2, -⟩ := hl'; unfold maxLen at h2; have HL := hide hl; clear hl; go_enter Tryz.func69, Tryz.ntmps69
 go_wp2; go_loopw [3, 4] (fun t i wr => ∃ k : Nat, k ≤ l.length ∧ i = .int .i64 k ∧ t = .string ⟨(printL (l.take k)).toArray⟩ ∧ Below w.heap.size w wr) (fun _ i _ => l.length - (intOf i).toNat)
 case atStart => exact ⟨0, Nat.zero_le _, rfl, rfl, Below.refl _ _⟩
 case round =>
  obtain ⟨k, hk, rfl, rfl, hb⟩ := hrel; have hpl := printL_le (l.take k); have htk : (l.take k).length ≤ k := List.length_take_le _ _; by_cases hlt : k < l.length
  · obtain ⟨b, off, rfl, hbl, c0, c1⟩ := picks_at (HL.out.below hb) hlt
    have HS := hide (show printL (l.take (k + 1)) = printL (l.take k) ++ textP (l[k].1, l[k].2) by
     rw [List.take_succ_eq_append_getElem hlt, printL, List.flatMap_append]; simp [printL])
    have htp := textP_le (l[k].1, l[k].2); go_wp2_with fail
    (with_reducible refine (text_any _ _ _).mono ?_); rintro e w2 ⟨rfl, hb2⟩; go_wp2; go_roundw
    case rel => exact ⟨k + 1, by omega, by go_num, by rw [HS.out, ba_append], bcall hb hb2⟩
    case measure => simp [intOf]; omega
  · have HF := hide (show printL (l.take k) = printL l by rw [List.take_of_length_le (by omega)])
    go_wp2; go_ret
    exact ⟨ret_textPk (by rw [HF.out]), hb⟩
