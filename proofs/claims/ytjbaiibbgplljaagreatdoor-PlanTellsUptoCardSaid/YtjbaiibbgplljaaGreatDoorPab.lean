import Derived.Test.YtjbaiibbgplljaaGreatDoorRows
import Derived.WalkKit
import Derived.ProofKit
import Derived.OpenShut
import Derived.WalkSpells
import Derived.WalkLawsBesides
import Derived.Handy
import Derived.Below
import Derived.ChangeSame
import Derived.Lib.OthersKept
import Derived.Lib.SmallJoins
import Derived.Deep.MidRow
import Derived.Deep.WholeRow
import Derived.Deep.QuietTactic
set_option maxRecDepth 100000
set_option maxHeartbeats 40000000
namespace Go.Proofs.YtjbaiibbgplljaaGreatDoor
open Go.RowKit Go.WideShapes Go.ChangeShapes
theorem ret_bool {a b : Bool} (h : a = b) : Ending.returned (.bool a) = .returned (.bool b) := by rw [h]
theorem ret_int {k : IntKind} {a b : Int} (h : a = b) : Ending.returned (.int k a) = .returned (.int k b) := by rw [h]
theorem hide {p : Prop} (h : p) : Hid p := h
theorem bcell {W w1 : World} (hb : Below W.heap.size W w1) : (∀ b o, b < W.heap.size → w1.cell? ⟨b, o, none⟩ = W.cell? ⟨b, o, none⟩) ∧ (∀ b o, b < W.heap.size → w1.frozen? ⟨b, o, none⟩ = W.frozen? ⟨b, o, none⟩) :=
 ⟨fun b o h => hb.cell (p := ⟨b, o, none⟩) h, fun b o h => hb.frozen (p := ⟨b, o, none⟩) h⟩
theorem btr {B : Nat} {a b c : World} (h : Below B a b) (k : Below b.heap.size b c) (hB : B ≤ a.heap.size) : Below B a c := h.trans (k.mono (Nat.le_trans hB h.size))
theorem bdrewN {B : Nat} {a w : World} (h : Below B a w) (n : Nat) : Below B a (w.drewN n) := ⟨h.os, h.tape, h.output, h.size, h.block⟩
theorem bcall {a b c : World} (h : Below a.heap.size a b) (k : Below b.heap.size b c) : Below a.heap.size a c := btr h k (Nat.le_refl _)
theorem bcall1 {a b c : World} {o : Obj} (h : Below a.heap.size a b) (k : Below (b.alloc o).heap.size (b.alloc o) c) : Below a.heap.size a c := bcall (h.alloc h.size _) k
def Sl {α : Type} (enc : α → List Value) (size : Nat) (w : World) (v : Value) (l : List α) : Prop :=
 ∃ A c, v = .slice A l.length c ∧ l.length ≤ c ∧ c ≤ maxLen ∧
   (0 < l.length → ∃ b off, A = some ⟨b, off, none⟩ ∧ b < w.heap.size ∧ ∀ i p, l[i]? = some p → ∀ j u, (enc p)[j]? = some u → w.cell? ⟨b, off + i * size + j, none⟩ = some u)
section
variable {α : Type} {enc : α → List Value} {size : Nat} {w w' : World} {v : Value} {l : List α}
theorem Sl.keep (h : Sl enc size w v l) (hs : w.heap.size ≤ w'.heap.size) (hk : ∀ b o, b < w.heap.size → w'.cell? ⟨b, o, none⟩ = w.cell? ⟨b, o, none⟩) : Sl enc size w' v l := by
 obtain ⟨A, c, rfl, h1, h2, h3⟩ := h; refine ⟨A, c, rfl, h1, h2, fun hl => ?_⟩; obtain ⟨b, off, rfl, hb, hc⟩ := h3 hl; exact ⟨b, off, rfl, by omega, fun i p hp j u hu => (hk _ _ hb).trans (hc i p hp j u hu)⟩
theorem Sl.below (h : Sl enc size w v l) (hb : Below w.heap.size w w') : Sl enc size w' v l := h.keep hb.size (bcell hb).1
theorem Sl.nil_ : Sl enc size w (.slice none 0 0) [] := ⟨none, 0, rfl, by simp, by simp [maxLen], by simp⟩
theorem Sl.len (h : Sl enc size w v l) : l.length ≤ maxLen := by obtain ⟨A, c, rfl, h1, h2, h3⟩ := h; omega
theorem flatMap_get {enc : α → List Value} {size : Nat} (hz : ∀ p, (enc p).length = size) : ∀ (l : List α) (i : Nat) (p : α), l[i]? = some p → ∀ j u, (enc p)[j]? = some u → (l.flatMap enc)[i * size + j]? = some u
 | [], i, p, h, _, _, _ => by simp at h
 | x :: l, 0, p, h, j, u, hu => by
   simp at h; subst h
   have hj : j < (enc x).length := (List.getElem?_eq_some_iff.1 hu).1; rw [List.flatMap_cons, Nat.zero_mul, Nat.zero_add, List.getElem?_append_left hj, hu]
 | x :: l, i + 1, p, h, j, u, hu => by
   have e : (i + 1) * size + j = (enc x).length + (i * size + j) := by rw [hz, Nat.add_mul]; omega
   rw [List.flatMap_cons, e, List.getElem?_append_right (by omega)]; simp only [Nat.add_sub_cancel_left]; exact flatMap_get hz l i p (by simpa using h) j u hu
theorem Sl.of_own {base : Nat} {e : TypeId} (hz : ∀ p, (enc p).length = size) (h : w.ownsRow base e size v l.length (l.flatMap enc)) : Sl enc size w v l := by
 rcases h.2 with ⟨rfl, hn⟩ | ⟨g, cap, cur, rfl, hb, hg, hnc, hcm, hcs, ht⟩
 · have : l = [] := List.eq_nil_of_length_eq_zero hn
   subst this; exact Sl.nil_
 · refine ⟨_, cap, rfl, hnc, hcm, fun hl => ⟨g, 0, rfl, ?_, fun i p hp j u hu => ?_⟩⟩
   · rcases Nat.lt_or_ge g w.heap.size with hlt | hge
     · exact hlt
     · rw [Array.getElem?_eq_none hge] at hg; cases hg
   · have h1 := flatMap_get hz l i p hp j u hu
     have h2 := h.cells (g := g) rfl _ _ h1; unfold Addr.add at h2; by_cases h0 : i * size + j = 0
     · rw [if_pos h0] at h2; rw [show 0 + i * size + j = 0 by omega]; exact h2
     · rw [if_neg h0] at h2; simpa [Nat.add_assoc] using h2
end
theorem add_none (b off j : Nat) : (⟨b, off, none⟩ : Addr).add j = ⟨b, off + j, none⟩ := by
 unfold Addr.add; split
 · subst_vars; rfl
 · rfl
theorem row_new (w : World) (cs : List Value) (t : TypeId) : ∀ j u, cs[j]? = some u → (w.alloc (.cells cs.toArray t)).cell? ((⟨w.heap.size, 0, none⟩ : Addr).add j) = some u := by
 intro j u h; rw [add_none, cell_of_row _ _ _ cs.toArray t (0, 0) (heap_alloc_new w _)]; simpa using h
theorem row_at (w : World) (cs : List Value) (t : TypeId) {B : Nat} (hB : w.heap.size = B) : ∀ j u, cs[j]? = some u → (w.alloc (.cells cs.toArray t)).cell? ((⟨B, 0, none⟩ : Addr).add j) = some u := by subst hB; exact row_new w cs t
theorem own_new (w : World) (base : Nat) (cs : List Value) (t : TypeId) (size n : Nat) (hb : base ≤ w.heap.size) (hs : cs.length = n * size) (hn : n ≤ maxLen) :
 (w.alloc (.cells cs.toArray t)).ownsRow base t size (.slice (some ⟨w.heap.size, 0, none⟩) n n) n cs :=
 ⟨hs, .inr ⟨_, n, cs.toArray, rfl, hb, heap_alloc_new w _, Nat.le_refl _, hn, by simpa using hs, by simp [← hs]⟩⟩
theorem own_form {w : World} {base : Nat} {e : TypeId} {size n : Nat} {v : Value} {xs : List Value} (h : w.ownsRow base e size v n xs) : ∃ A c, v = .slice A n c ∧ n ≤ c ∧ c ≤ maxLen := by
 rcases h.2 with ⟨rfl, rfl⟩ | ⟨g, cap, cur, rfl, hb, hg, hnc, hcm, hcs, ht⟩
 · exact ⟨none, 0, rfl, Nat.le_refl _, by simp [maxLen]⟩
 · exact ⟨_, cap, rfl, hnc, hcm⟩
theorem own_base {w : World} {base b' : Nat} {e : TypeId} {size n : Nat} {v : Value} {xs : List Value} (h : w.ownsRow base e size v n xs) (hb : b' ≤ base) : w.ownsRow b' e size v n xs := by
 refine ⟨h.1, ?_⟩; rcases h.2 with h0 | ⟨g, cap, cur, hv, hg, hr⟩
 · exact .inl h0
 · exact .inr ⟨g, cap, cur, hv, Nat.le_trans hb hg, hr⟩
theorem own_below {w w' : World} {base : Nat} {e : TypeId} {size n : Nat} {v : Value} {xs : List Value} (h : w.ownsRow base e size v n xs) (hb : Below w.heap.size w w') : w'.ownsRow base e size v n xs := by
 refine ⟨h.1, ?_⟩; rcases h.2 with h0 | ⟨g, cap, cur, hv, hg, hh, hr⟩
 · exact .inl h0
 · refine .inr ⟨g, cap, cur, hv, hg, (hb.block g ?_).trans hh, hr⟩
   rcases Nat.lt_or_ge g w.heap.size with hlt | hge
   · exact hlt
   · rw [Array.getElem?_eq_none hge] at hh; cases hh
theorem grown_of_below {a w : World} (h : Below a.heap.size a w) (row : Option Nat) : a.grownBy w row := ⟨h.os, h.tape, h.output, h.size, fun i hi _ => h.block i hi⟩
theorem own_ge {w : World} {base : Nat} {e : TypeId} {size n : Nat} {v : Value} {xs : List Value} (h : w.ownsRow base e size v n xs) : ∀ k, v.ownBlock = some k → base ≤ k := fun k hk => (h.lt k hk).1
end Go.Proofs.YtjbaiibbgplljaaGreatDoor
namespace Go.Proofs.YtjbaiibbgplljaaGreatDoor
open Go.RowKit
def pv (p : Int × Int) : Value := .agg #[.int .i64 p.1, .int .i64 p.2]
def right (p : Int × Int) : Bool := (p.1 == 0 && p.2 == 0) || ((p.1 == 1 || p.1 == 2) && decide (1 ≤ p.2) && decide (p.2 ≤ 16))
def there (p : Int × Int) (n m : Int) : Bool := right p && (p.1 != 1 || decide (p.2 ≤ n)) && (p.1 != 2 || decide (p.2 ≤ m))
theorem Right_anyPk (k n : Int) (w : World) :
 Calls Tryz.prog 168 #[.agg #[.int .i64 k, .int .i64 n]] w fun e w' => e = .returned (.bool (right (k, n))) ∧ Below w.heap.size w w' := by
 go_enter Tryz.func168, Tryz.ntmps168
 go_wp2; all_goals go_ret
 all_goals refine ⟨ret_bool ?_, by go_grown⟩
 all_goals simp_all [right]
 all_goals omega
theorem isThere_any (k n a b : Int) (w : World) :
 Calls Tryz.prog 131 #[.agg #[.int .i64 k, .int .i64 n], .int .i64 a, .int .i64 b] w fun e w' => e = .returned (.bool (there (k, n) a b)) ∧ Below w.heap.size w w' := by
 go_enter Tryz.func131, Tryz.ntmps131
 go_wp2_with (go_at_call 168; refine (Right_anyPk _ _ _).mono ?_; rintro e w' ⟨rfl, hb⟩; obtain ⟨hc, hf⟩ := bcell hb)
 all_goals go_ret
 all_goals refine ⟨ret_bool ?_, ?_⟩
 all_goals first | exact (((Below.refl _ _).alloc (Nat.le_refl _) _).trans (hb.mono (by simp))) | (clear hb hc hf; grind [there])
def readFPk (r : Int) : (Int × Int) × Bool :=
 if r = 46 then ((0, 0), true) else if 97 ≤ r ∧ r < 113 then ((1, r - 96), true) else if 945 ≤ r ∧ r < 961 then ((2, r - 944), true) else ((0, 0), false)
def writeF (p : Int × Int) : Int := if right p = false then 63 else if p.1 = 1 then p.2 + 96 else if p.1 = 2 then p.2 + 944 else 46
theorem right_1 {k n : Int} (h : (!right (k, n)) = false) (hk : (k == 1) = true) : 1 ≤ n ∧ n ≤ 16 := by
 simp [right] at h hk; omega
theorem right_2 {k n : Int} (h : (!right (k, n)) = false) (hk : (k == 2) = true) : 1 ≤ n ∧ n ≤ 16 := by
 simp [right] at h hk; omega
theorem writeF_1 {k n : Int} (h : (!right (k, n)) = false) (hk : (k == 1) = true) : wrap32 (97 + wrap32 (wrap64 (n - 1))) = writeF (k, n) := by
 have := right_1 h hk; have e : writeF (k, n) = n + 96 := by simp at h hk; subst hk; simp [writeF, h]
 rw [e]; simp only [wrap32, wrap64]; omega
theorem writeF_2 {k n : Int} (h : (!right (k, n)) = false) (h1 : (k == 1) = false) (hk : (k == 2) = true) : wrap32 (945 + wrap32 (wrap64 (n - 1))) = writeF (k, n) := by
 have := right_2 h hk; have e : writeF (k, n) = n + 944 := by simp at h hk; subst hk; simp [writeF, h]
 rw [e]; simp only [wrap32, wrap64]; omega
theorem read_anyPk (r : Int) (w : World) (h0 : -2147483648 ≤ r) (h1 : r ≤ 2147483647) :
 Calls Tryz.prog 164 #[.int .i32 r] w fun e w' => e = .returned (.tuple #[pv (readFPk r).1, .bool (readFPk r).2]) ∧ Below w.heap.size w w' := by
 go_enter Tryz.func164, Tryz.ntmps164
 go_wp2; all_goals go_returns
 all_goals refine ⟨?_, by go_grown⟩
 all_goals (unfold readFPk pv; repeat' split)
 all_goals first | (simp; done) | (simp; omega) | (simp_all; done) | (simp_all; omega)
theorem write_any (k n : Int) (w : World) :
 Calls Tryz.prog 148 #[.agg #[.int .i64 k, .int .i64 n]] w fun e w' => e = .returned (.int .i32 (writeF (k, n))) ∧ Below w.heap.size w w' := by
 go_enter Tryz.func148, Tryz.ntmps148
 go_wp2_with (go_at_call 168; refine (Right_anyPk _ _ _).mono ?_; rintro e w' ⟨rfl, hb⟩; obtain ⟨hc, hf⟩ := bcell hb)
 all_goals go_returns
 all_goals refine ⟨ret_int ?_, ?_⟩
 all_goals first | exact (((Below.refl _ _).alloc (Nat.le_refl _) _).trans (hb.mono (by simp))) | (clear hb hc hf; first | exact writeF_1 (by assumption) (by assumption) | exact writeF_2 (by assumption) (by assumption) (by assumption) | (simp_all [writeF]; done))
abbrev PP := Int × Int
theorem cellsPick : Tryz.prog.cellsOf 98 = 2 := by kernel_rfl
theorem cellsInt : Tryz.prog.cellsOf 3 = 1 := by kernel_rfl
def Wf (p : PP) : Prop := (Lit.int .i64 p.1).wf = true ∧ (Lit.int .i64 p.2).wf = true
def pc (p : Int × Int) : List Value := [.int .i64 p.1, .int .i64 p.2]
theorem pc_len (p : Int × Int) : (pc p).length = 2 := rfl
abbrev Picks (w : World) (v : Value) (l : List (Int × Int)) : Prop := Sl pc 2 w v l
theorem picks_at {w : World} {A : Option Addr} {n c : Nat} {l : List (Int × Int)} (h : Picks w (.slice A n c) l) {k : Nat} (hk : k < l.length) :
 ∃ b off, A = some ⟨b, off, none⟩ ∧ b < w.heap.size ∧ w.cell? ⟨b, off + k * 2, none⟩ = some (.int .i64 (l[k]).1) ∧ w.cell? ⟨b, off + k * 2 + 1, none⟩ = some (.int .i64 (l[k]).2) := by
 obtain ⟨A', c', e, h1, h2, h3⟩ := h; injection e with e1 e2 e3; subst e1; obtain ⟨b, off, rfl, hb, hc⟩ := h3 (by omega); have := hc k l[k] (List.getElem?_eq_getElem hk); exact ⟨b, off, rfl, hb, by simpa using this 0 _ rfl, by simpa using this 1 _ rfl⟩
theorem Known_any (v : Value) (l : List (Int × Int)) (n m : Int) (w : World) (hl : Picks w v l) :
 Calls Tryz.prog 87 #[v, .int .i64 n, .int .i64 m] w fun e w' => e = .returned (.bool (l.all fun p => there p n m)) ∧ Below w.heap.size w w' := by
 have hlen := hl.len; have hl' := hl; obtain ⟨A, c, rfl, h1, h2, -⟩ := hl'; unfold maxLen at h2 hlen; have HL := hide hl; clear hl; go_enter Tryz.func87, Tryz.ntmps87
 go_wp2; go_loopw [11] (fun i wr => ∃ k : Nat, k ≤ l.length ∧ i = .int .i64 k ∧ Below w.heap.size w wr ∧ (l.take k).all (fun p => there p n m) = true) (fun i _ => l.length - (intOf i).toNat)
 case atStart => exact ⟨0, Nat.zero_le _, rfl, Below.refl _ _, by simp⟩
 case round =>
  obtain ⟨k, hk, rfl, hb, hall⟩ := hrel; by_cases hlt : k < l.length
  · obtain ⟨b, off, rfl, hbl, c0, c1⟩ := picks_at (HL.out.below hb) hlt
    have hsn : (l.take (k + 1)).all (fun p => there p n m) = there (l[k].1, l[k].2) n m := by
     rw [List.take_succ_eq_append_getElem hlt, List.all_append, hall]; simp
    have HS := hide hsn; clear hsn; cases htb : there (l[k].1, l[k].2) n m
    · go_wp2_with (go_at_call 131; refine (isThere_any _ _ _ _ _).mono ?_; rintro e w' ⟨rfl, hb'⟩; rw [htb])
      go_ret
      refine ⟨ret_bool ?_, ?_⟩
      · rw [htb] at HS
        symm
        rw [← Bool.not_eq_true]; intro hall'; have h3 : (l.take (k + 1)).all (fun p => there p n m) = true := List.all_eq_true.2 fun x hx => List.all_eq_true.1 hall' x (List.mem_of_mem_take hx)
        rw [HS.out] at h3; cases h3
      · exact bcall1 hb hb'
    · go_wp2_with (go_at_call 131; refine (isThere_any _ _ _ _ _).mono ?_; rintro e w' ⟨rfl, hb'⟩; rw [htb])
      go_roundw
      case rel => exact ⟨k + 1, by omega, by go_num, bcall1 hb hb', by rw [HS.out, htb]⟩
      case measure => simp [intOf]; omega
  · go_wp2
    go_ret
    refine ⟨ret_bool ?_, hb⟩; rw [List.take_of_length_le (by omega)] at hall; exact hall.symm
theorem picks_cells {w : World} {b off n c : Nat} {l : List (Int × Int)} (h : Picks w (.slice (some ⟨b, off, none⟩) n c) l) {k : Nat} (hk : k < l.length) :
 w.cell? ⟨b, off + k * 2, none⟩ = some (.int .i64 (l[k]).1) ∧ w.cell? ⟨b, off + k * 2 + 1, none⟩ = some (.int .i64 (l[k]).2) := by
 obtain ⟨b', off', e, _, h1, h2⟩ := picks_at h hk; injection e with e; injection e with e1 e2; subst e1; subst e2; exact ⟨h1, h2⟩
theorem info98 : (Tryz.prog.info? 98).map (fun i => (i.zero, i.size, i.bytes)) = some (some (.agg #[.int .i64 0, .int .i64 0]), 2, 16) := by kernel_rfl
def parseFrom (s : ByteArray) : Nat → Nat → List (Int × Int) → Bool → List (Int × Int) × Int
 | 0, _, acc, over => if over then ([], 3) else (acc, 0)
 | f + 1, pos, acc, over =>
   if pos < s.size then
    if ((Utf8.decode s pos).1 : Int) = 32 ∨ ((Utf8.decode s pos).1 : Int) = 10 then parseFrom s f (pos + (Utf8.decode s pos).2) acc over
    else if (readFPk (Utf8.decode s pos).1).2 = false then ([], 2)
    else if acc.length = 100000 then parseFrom s f (pos + (Utf8.decode s pos).2) acc true
    else parseFrom s f (pos + (Utf8.decode s pos).2) (acc ++ [(readFPk (Utf8.decode s pos).1).1]) over
   else if over then ([], 3) else (acc, 0)
def parseFPk (s : ByteArray) : List (Int × Int) × Int := parseFrom s s.size 0 [] false
theorem width_pos (s : ByteArray) (pos : Nat) (h : pos < s.size) : 1 ≤ (Utf8.decode s pos).2 := by
 by_cases ha : (s[pos]'h).toNat < 128
 · rw [decode_ascii s pos h ha]
   exact Nat.le_refl _
 · exact (decode_high s pos h (by omega)).2
theorem parseFrom_end (s : ByteArray) (f pos : Nat) (acc : List (Int × Int)) (over : Bool) (h : ¬ pos < s.size) : parseFrom s f pos acc over = if over then ([], 3) else (acc, 0) := by
 cases f with
 | zero => rfl
 | succ f => rw [parseFrom, if_neg h]
theorem Parse_anyPk (s : ByteArray) (w : World) :
 Calls Tryz.prog 124 #[.string s] w fun e w' => ∃ v, e = .returned (.tuple #[v, .int .i64 (parseFPk s).2]) ∧ w'.ownsRow w.heap.size 98 2 v (parseFPk s).1.length ((parseFPk s).1.flatMap pc) ∧ Below w.heap.size w w' := by
 obtain ⟨i0, hi, hz0, hz1, hz2⟩ := info_parts info98; go_enter Tryz.func124, Tryz.ntmps124
 go_wp2; go_loopw [4, 5] (fun v o wr => ∃ (pos f : Nat) (acc : List (Int × Int)) (over : Bool), o = .bool over ∧ wr.ownsRow (w.heap.size + 1) 98 2 v acc.length (acc.flatMap pc) ∧ acc.length ≤ 100000 ∧
  wr.heap[w.heap.size]? = some (.stringIter s pos) ∧ Below w.heap.size w wr ∧ parseFrom s f pos acc over = parseFPk s ∧ s.size ≤ pos + f) (fun _ _ wr => s.size - wr.iterPos w.heap.size)
 case atStart =>
  refine ⟨0, s.size, [], false, rfl, World.ownsRow_nil _ _ _ _, by simp, World.iter_heap w s 0, (Below.refl _ w).alloc (Nat.le_refl _) _, rfl, by omega⟩
 case round =>
  obtain ⟨pos, f, acc, over, rfl, hown, hal, hit, hb, hpf, hfu⟩ := hrel; have hsz : w.heap.size < wr.heap.size := (Array.getElem?_eq_some_iff.1 hit).1; obtain ⟨A, cp, rfl, hcp, hcm⟩ := own_form hown; by_cases hp : pos < s.size
  · have hnx : ∀ ty, (Instr.next (.pointer (some ⟨w.heap.size, 0, none⟩)) true ty).run Tryz.prog wr = _ := fun ty => Lib.run_next_any_at wr w.heap.size s pos ty hit hp
    have hwd := width_pos s pos hp; have hd1 := decode_le s pos; have hit2 := Lib.iterAt_heap wr w.heap.size s pos (pos + (Utf8.decode s pos).2) hit; have hb2 := Lib.below_iterAt hb (k := w.heap.size) (by omega) s (pos + (Utf8.decode s pos).2); have hown2 := ownsRow_iterAt hown (k := w.heap.size) (by omega) s (pos + (Utf8.decode s pos).2); have hsz2 : w.heap.size < (wr.iterAt w.heap.size s (pos + (Utf8.decode s pos).2)).heap.size := by rw [Lib.iterAt_size]; omega
    obtain ⟨f, rfl⟩ : ∃ g, f = g + 1 := ⟨f - 1, by omega⟩; rw [parseFrom, if_pos hp] at hpf; have HP := hide hpf; clear hpf; generalize wr.iterAt w.heap.size s (pos + (Utf8.decode s pos).2) = W at *; by_cases hbl : ((Utf8.decode s pos).1 : Int) = 32 ∨ ((Utf8.decode s pos).1 : Int) = 10
    · have HP' : Hid (parseFrom s f (pos + (Utf8.decode s pos).2) acc over = parseFPk s) := by have := HP.out; rw [if_pos hbl] at this; exact this
      clear HP; go_wp2; all_goals
       first
       | (exfalso; simp at *; omega)
       | (go_roundw
          case rel => exact ⟨_, f, acc, over, rfl, hown2, hal, hit2, hb2, HP'.out, by omega⟩
          case measure => simp only [World.iterPos, hit2, hit]; omega)
    · have HP' := HP.out
      clear HP; rw [if_neg hbl] at HP'; have h32 : ¬ ((Utf8.decode s pos).1 : Int) = 32 := fun h => hbl (.inl h)
      have h10 : ¬ ((Utf8.decode s pos).1 : Int) = 10 := fun h => hbl (.inr h)
      clear hbl; have b32 : (((Utf8.decode s pos).1 : Int) == 32) = false := by simpa using h32
      have b10 : (((Utf8.decode s pos).1 : Int) == 10) = false := by simpa using h10
      generalize hq : (readFPk (Utf8.decode s pos).1).1 = q at HP'; cases hok : (readFPk (Utf8.decode s pos).1).2
      · rw [if_pos hok] at HP'
        have HP := hide HP'; clear HP'; go_wp2_with (go_at_call 164; refine (read_anyPk _ _ (by omega) (by omega)).mono ?_; rintro e w' ⟨rfl, hb'⟩; rw [hok, hq]; simp only [pv])
        all_goals first | (exfalso; simp at *; omega) | skip
        go_returns
        rw [← HP.out]; exact ⟨_, rfl, by simpa using World.ownsRow_nil _ _ _ _, ((hb2.trans (hb'.mono (by omega))).alloc (by have := hb'.size; omega) _)⟩
      · rw [if_neg (by rw [hok]; simp)] at HP'
        have hsz3 : ∀ w' : World, Below W.heap.size W w' → w.heap.size < w'.heap.size := fun w' h => by have := h.size; omega
        by_cases hfull : acc.length = 100000
        · have hfb : ((acc.length : Int) == 100000) = true := by rw [hfull]; rfl
          rw [if_pos hfull] at HP'; have HP := hide HP'; clear HP'; go_wp2_with (go_at_call 164; refine (read_anyPk _ _ (by omega) (by omega)).mono ?_; rintro e w' ⟨rfl, hb'⟩; rw [hok, hq]; simp only [pv])
          go_roundw
          all_goals have hbW : Below (w.heap.size + 1) W (w'.alloc (.cells #[.int .i64 q.1, .int .i64 q.2] 98)) := (hb'.mono (by omega)).alloc (by have := hb'.size; omega) _
          all_goals have hit3 := (hbW.block _ (by omega)).trans hit2
          case rel => exact ⟨_, f, acc, true, rfl, (own_below hown2 hb').alloc _, hal, hit3, hb2.trans (hbW.mono (by omega)), HP.out, by omega⟩
          case measure => simp only [World.iterPos, hit3, hit]; omega
        · have hfb : ((acc.length : Int) == 100000) = false := by rw [beq_eq_false_iff_ne]; omega
          rw [if_neg hfull] at HP'; have HP := hide HP'; clear HP'; go_wp2_with (first
           | (go_at_call 164; refine (read_anyPk _ _ (by omega) (by omega)).mono ?_; rintro e w' ⟨rfl, hb'⟩; rw [hok, hq]; simp only [pv])
           | (at_builtin; refine wpList_append_own _ rfl _ _ 28 rfl (w.heap.size + 1) 98 i0 (.agg #[.int .i64 0, .int .i64 0]) 2 16 Tryz.underlying28 hi hz0 hz1 hz2 rfl (by decide) _ _ _ rfl (((own_below hown2 hb').alloc _).alloc _) ⟨_, 0, none⟩ 1 1 [.int .i64 q.1, .int .i64 q.2] rfl rfl (row_at _ _ _ (by simp)) (by simp [Value.oneCell']) (by simp only [maxLen]; omega) (by omega) (by have := hb'.size; simp; omega) ?_; intro v' w1 hown' hgrow _))
          go_roundw
          all_goals have hbW : Below (w.heap.size + 1) W w1 := (((hb'.mono (by omega)).alloc (by have := hb'.size; omega) _).alloc (by have := hb'.size; simp; omega) _).grown hgrow (by have := hb'.size; simp; omega) (own_ge hown2)
          all_goals have hit3 := (hbW.block _ (by omega)).trans hit2
          case rel => exact ⟨_, f, acc ++ [q], over, rfl, by rw [List.length_append, List.flatMap_append]; exact hown', by simp; omega, hit3, hb2.trans (hbW.mono (by omega)), HP.out, by omega⟩
          case measure => simp only [World.iterPos, hit3, hit]; omega
  · have hnx : ∀ ty, (Instr.next (.pointer (some ⟨w.heap.size, 0, none⟩)) true ty).run Tryz.prog wr = _ := fun ty => Lib.run_next_end_at wr w.heap.size s pos ty hit hp
    rw [parseFrom_end s f pos acc over hp] at hpf; have HP := hide hpf; clear hpf; cases over
    · go_wp2
      go_returns
      rw [← HP.out]; exact ⟨_, rfl, own_base hown (by omega), hb⟩
    · go_wp2
      go_returns
      rw [← HP.out]; exact ⟨_, rfl, by simpa using World.ownsRow_nil _ _ _ _, hb⟩
section
variable {α : Type} {enc : α → List Value} {size : Nat} {w : World} {l : List α} {A : Option Addr} {n c j : Nat}
theorem sl_len (h : Sl enc size w (.slice A n c) l) : n = l.length := by
 obtain ⟨A', c', e, _⟩ := h; injection e
theorem sl_take (h : Sl enc size w (.slice A n c) l) (hj : j ≤ n) : Sl enc size w (.slice A j c) (l.take j) := by
 have hn := sl_len h; obtain ⟨A', c', e, h1, h2, h3⟩ := h; injection e with e1 e2 e3; subst e1; subst e3; subst hn; have hl : (l.take j).length = j := by rw [List.length_take]; omega
 refine ⟨_, _, by rw [hl], by omega, h2, fun h0 => ?_⟩; rw [hl] at h0; obtain ⟨b, off, rfl, hb, hc⟩ := h3 (by omega); refine ⟨b, off, rfl, hb, fun i p hp k u hu => ?_⟩; rw [List.getElem?_take] at hp; split at hp
 · exact hc i p hp k u hu
 · cases hp
end
theorem ba_append (a b : List UInt8) : ((⟨a.toArray⟩ : ByteArray) ++ ⟨b.toArray⟩) = ⟨(a ++ b).toArray⟩ := by
 apply ByteArray.ext
 simp [ByteArray.data_append]
theorem ba_toList (a : List UInt8) : (⟨a.toArray⟩ : ByteArray).toList = a := by
 rw [ByteArray.toList_eq]
theorem ba_size (a : List UInt8) : (⟨a.toArray⟩ : ByteArray).size = a.length := by
 show a.toArray.size = _; simp
theorem step_append_own {P : Program} {ops : Array Oper} {o : Oper} {a : Act} {w : World} {K : Act → World → Prop} {Q : Exit → Act → World → Prop} {E : Prop} (hgd : o.guard = none) (s x : Operand) (t : TypeId)
 (ho : o.op = .call { callee := .builtin .append, args := #[s, x], argTypes := #[t, t] })
 (base : Nat) (e : TypeId) (i : TypeInfo) (z : Value) (size bytes : Nat) (ht : P.underlying t = some (.slice e)) (hi : P.info? e = some i) (hz : i.zero = some z)
 (hsize : i.size = size) (hby : i.bytes = bytes) (hzs : z.cells.size = size) (hsz : 0 < size)
 (v : Value) (n : Nat) (xs : List Value) (hs : a.eval s = v) (hown : w.ownsRow base e size v n xs)
 (ad : Addr) (m c : Nat) (news : List Value) (hx : a.eval x = .slice (some ad) m c) (hl : news.length = m * size) (hnews : ∀ j u, news[j]? = some u → w.cell? (ad.add j) = some u) (h1 : ∀ u ∈ news, u.oneCell' = true)
 (h63 : n + m ≤ maxLen) (hbytes : (n + m) * bytes ≤ 140737488355328) (hbase : base ≤ w.heap.size)
 (h : ∀ v' w', w'.ownsRow base e size v' (n + m) (xs ++ news) → Below base w w' → K (a.put o.dst v') w') :
 if Region.wanted o (yielded ops a.tmps) = true then Oper.wp P o a w K Q else E := by
 have hw : Region.wanted o (yielded ops a.tmps) = true := by simp [Region.wanted, hgd]
 rw [if_pos hw]; exact wp_append_own w s x t ho base e i z size bytes ht hi hz hsize hby hzs hsz v n xs hs hown ad m c news hx hl hnews h1 h63 hbytes hbase fun v' w' h2 h3 _ => h v' w' h2 ((Below.refl _ _).grown h3 hbase (own_ge hown))
theorem step_append_own_g {P : Program} {ops : Array Oper} {o : Oper} {a : Act} {w : World} {K : Act → World → Prop} {Q : Exit → Act → World → Prop} {E : Prop} (hgd : o.guard = none) (s x : Operand) (t : TypeId)
 (ho : o.op = .call { callee := .builtin .append, args := #[s, x], argTypes := #[t, t] })
 (base : Nat) (e : TypeId) (i : TypeInfo) (z : Value) (size bytes : Nat) (ht : P.underlying t = some (.slice e)) (hi : P.info? e = some i) (hz : i.zero = some z)
 (hsize : i.size = size) (hby : i.bytes = bytes) (hzs : z.cells.size = size) (hsz : 0 < size)
 (v : Value) (n : Nat) (xs : List Value) (hs : a.eval s = v) (hown : w.ownsRow base e size v n xs)
 (ad : Addr) (m c : Nat) (news : List Value) (hx : a.eval x = .slice (some ad) m c) (hl : news.length = m * size) (hnews : ∀ j u, news[j]? = some u → w.cell? (ad.add j) = some u) (h1 : ∀ u ∈ news, u.oneCell' = true)
 (h63 : n + m ≤ maxLen) (hbytes : (n + m) * bytes ≤ 140737488355328) (hbase : base ≤ w.heap.size)
 (h : ∀ v' w', w'.ownsRow base e size v' (n + m) (xs ++ news) → w.grownBy w' v.ownBlock → K (a.put o.dst v') w') :
 if Region.wanted o (yielded ops a.tmps) = true then Oper.wp P o a w K Q else E := by
 have hw : Region.wanted o (yielded ops a.tmps) = true := by simp [Region.wanted, hgd]
 rw [if_pos hw]; exact wp_append_own w s x t ho base e i z size bytes ht hi hz hsize hby hzs hsz v n xs hs hown ad m c news hx hl hnews h1 h63 hbytes hbase fun v' w' h2 h3 _ => h v' w' h2 h3
open Go.Joins
structure B4 (t : TypeId) (w : World) (B : Nat) (x y z u : Value) : Prop where
 blk : w.heap[B]? = some (.cells #[x, y, z, u] t)
section
variable {t : TypeId} {w w' : World} {B : Nat} {x y z u : Value}
theorem B4.lt (h : B4 t w B x y z u) : B < w.heap.size := (Array.getElem?_eq_some_iff.1 h.blk).1
theorem B4.below (h : B4 t w B x y z u) (hb : Below w.heap.size w w') : B4 t w' B x y z u := ⟨(hb.block B h.lt).trans h.blk⟩
theorem B4.all (h : B4 t w B x y z u) : w.cell? ⟨B, 0, none⟩ = some x ∧ w.cell? ⟨B, 1, none⟩ = some y ∧ w.cell? ⟨B, 2, none⟩ = some z ∧ w.cell? ⟨B, 3, none⟩ = some u :=
 ⟨cell_of_block h.blk 0, cell_of_block h.blk 1, cell_of_block h.blk 2, cell_of_block h.blk 3⟩
theorem B4.free (h : B4 t w B x y z u) : w.frozen? ⟨B, 0, none⟩ = false ∧ w.frozen? ⟨B, 1, none⟩ = false ∧ w.frozen? ⟨B, 2, none⟩ = false ∧ w.frozen? ⟨B, 3, none⟩ = false :=
 ⟨unfrozen_of_block h.blk 0, unfrozen_of_block h.blk 1, unfrozen_of_block h.blk 2, unfrozen_of_block h.blk 3⟩
theorem B4.other (h : B4 t w B x y z u) {g o : Nat} (v : Value) (hne : B ≠ g) : B4 t (w.setCell ⟨g, o, none⟩ v) B x y z u := ⟨(Below.heap_setCell w ⟨g, o, none⟩ v B hne).trans h.blk⟩
end
theorem b4_new (w : World) (x y z u : Value) (t : TypeId) : ∃ w1, w.alloc (.cells #[x, y, z, u] t) = w1 ∧ Below w.heap.size w w1 ∧ w1.heap.size = w.heap.size + 1 ∧ B4 t w1 w.heap.size x y z u :=
 ⟨_, rfl, (Below.refl _ _).alloc (Nat.le_refl _) _, by simp, ⟨heap_alloc_new w _⟩⟩
structure B2 (t : TypeId) (w : World) (B : Nat) (x y : Value) : Prop where
 blk : w.heap[B]? = some (.cells #[x, y] t)
theorem grown_set2 (w : World) (B i : Nat) (x : Value) : w.grownBy (w.setCell ⟨B, i, none⟩ x) (some B) :=
 ⟨rfl, rfl, rfl, by simp [World.setCell], fun k _ hk => Below.heap_setCell w ⟨B, i, none⟩ x k (by intro e; exact hk (by rw [e]))⟩
theorem grown_trans2 {w w1 w2 : World} {row : Option Nat} (h : w.grownBy w1 row) (k : w1.grownBy w2 row) : w.grownBy w2 row :=
 ⟨k.os.trans h.os, k.tape.trans h.tape, k.output.trans h.output, Nat.le_trans h.size k.size, fun i hi hr => (k.block i (Nat.lt_of_lt_of_le hi h.size) hr).trans (h.block i hi hr)⟩
theorem grown_refl2 (w : World) (row : Option Nat) : w.grownBy w row := ⟨rfl, rfl, rfl, Nat.le_refl _, fun _ _ _ => rfl⟩
theorem grown_bel2 {w w' : World} {B n : Nat} (h : w.grownBy w' (some B)) (hn : n ≤ B) (hs : n ≤ w.heap.size) : Below n w w' :=
 ⟨h.os, h.tape, h.output, h.size, fun k hk => h.block k (by omega) (by intro e; injection e with e; omega)⟩
theorem grown_drew2 {w w' : World} {row : Option Nat} (h : w.grownBy w' row) (n : Nat) : w.grownBy (w'.drewN n) row := ⟨h.os, h.tape, h.output, h.size, h.block⟩
theorem grown_from2 {w w' : World} {row : Option Nat} {n : Nat} (h : (w.drewN n).grownBy w' row) : w.grownBy w' row := ⟨h.os, h.tape, h.output, h.size, h.block⟩
section
variable {t : TypeId} {w w' : World} {B : Nat} {x y : Value}
theorem B2.lt (h : B2 t w B x y) : B < w.heap.size := (Array.getElem?_eq_some_iff.1 h.blk).1
theorem B2.below (h : B2 t w B x y) (hb : Below w.heap.size w w') : B2 t w' B x y := ⟨(hb.block B h.lt).trans h.blk⟩
theorem B2.all (h : B2 t w B x y) : w.cell? ⟨B, 0, none⟩ = some x ∧ w.cell? ⟨B, 1, none⟩ = some y := ⟨cell_of_block h.blk 0, cell_of_block h.blk 1⟩
theorem B2.free (h : B2 t w B x y) : w.frozen? ⟨B, 0, none⟩ = false ∧ w.frozen? ⟨B, 1, none⟩ = false := ⟨unfrozen_of_block h.blk 0, unfrozen_of_block h.blk 1⟩
theorem B2.drewN (h : B2 t w B x y) (n : Nat) : B2 t (w.drewN n) B x y := ⟨h.blk⟩
theorem B2.set1 (h : B2 t w B x y) (v : Value) : B2 t (w.setCell ⟨B, 1, none⟩ v) B x v := ⟨by rw [block_setCell h.blk v]; rfl⟩
end
theorem b2_new (w : World) (x y : Value) (t : TypeId) : ∃ w1, w.alloc (.cells #[x, y] t) = w1 ∧ Below w.heap.size w w1 ∧ w1.heap.size = w.heap.size + 1 ∧ B2 t w1 w.heap.size x y :=
 ⟨_, rfl, (Below.refl _ _).alloc (Nat.le_refl _) _, by simp, ⟨heap_alloc_new w _⟩⟩
end Go.Proofs.YtjbaiibbgplljaaGreatDoor
namespace Go.Proofs.YtjbaiibbgplljaaGreatDoor
open Go.RowKit
section
variable {P : Program}
theorem wpList_load_row {ops : Array Oper} {rest : List Oper} {op : Oper} {a : Act} {w : World} {Q : Exit → Act → World → Prop} (hgd : op.guard = none) (ty : TypeId) (x : Operand) (ho : op.op = .load ty x)
 (b : Nat) (hx : a.eval x = .pointer (some ⟨b, 0, none⟩)) (cs : Array Value) (t : TypeId) (fr : Nat × Nat) (d : TypeDesc) (hg : w.heap[b]? = some (.cells cs t fr))
 (hu : P.underlying ty = some d) (hd : (match d with | .struct _ | .array _ _ => true | _ => false) = true) (hi : (P.info? ty).map (·.size) = some cs.size)
 (h : wpList P ops Q rest (a.put op.dst (.agg cs)) w) : wpList P ops Q (op :: rest) a w :=
 wpList_plain hgd fun _ hK => by
  unfold Oper.wp execOp; simp only [ho, hx, Instr.loadAt, Instr.sureAddr, Sem.run_bind, Sem.run_pure, Result.andThen_ok, run_loadVar_row w b t ty cs fr d hg hu hd hi]; exact hK _ _ h
theorem wpList_store_row {ops : Array Oper} {rest : List Oper} {op : Oper} {a : Act} {w : World} {Q : Exit → Act → World → Prop} (hgd : op.guard = none) (ty : TypeId) (x y : Operand) (ho : op.op = .store ty x y)
 (b : Nat) (hx : a.eval x = .pointer (some ⟨b, 0, none⟩)) (cells : Array Value) (hy : a.eval y = .agg cells) (old : Array Value) (t : TypeId) (hg : w.heap[b]? = some (.cells old t (0, 0)))
 (hi : (P.info? ty).map (·.size) = some cells.size) (hs : old.size = cells.size) (h1 : cells.all (·.oneCell') = true)
 (h : wpList P ops Q rest (a.put op.dst undef) (w.setRow b cells)) : wpList P ops Q (op :: rest) a w :=
 wpList_plain hgd fun _ hK => by
  unfold Oper.wp execOp; simp only [ho, hx, hy, Instr.storeAt, Instr.sureAddr, Sem.run_bind, Sem.run_pure, Result.andThen_ok, run_storeVar_row w b t ty old cells hg hi hs h1]; exact hK _ _ h
theorem results_row {fn : Func} {tmps : Array Value} {w : World} {s : Nat} {ty : TypeId} (hr : fn.results = #[.cell s ty]) (b : Nat) (hs : tmps.getD s undef = .pointer (some ⟨b, 0, none⟩)) (cs : Array Value) (t : TypeId) (fr : Nat × Nat) (d : TypeDesc)
 (hg : w.heap[b]? = some (.cells cs t fr)) (hu : P.underlying ty = some d) (hd : (match d with | .struct _ | .array _ _ => true | _ => false) = true) (hi : (P.info? ty).map (·.size) = some cs.size) : (results fn tmps).run P w = .ok (.agg cs) w := by
 have hl := run_loadVar_row (P := P) w b t ty cs fr d hg hu hd hi; rw [Array.getD_eq_getD_getElem?] at hs; simp [results, hr, hs, asAddr, hl]
end
theorem below_setRow {B : Nat} {a w : World} (h : Below B a w) {g : Nat} (hg : B ≤ g) (cs : Array Value) : Below B a (w.setRow g cs) :=
 h.trans ⟨rfl, rfl, rfl, by simp, fun k hk => setRow_other w g k cs (by omega)⟩
theorem two_new (w : World) (y z : Array Value) (s t : TypeId) : ∃ w1, (w.alloc (.cells y s)).alloc (.cells z t) = w1 ∧ w1.heap[w.heap.size]? = some (.cells y s (0, 0)) ∧ w1.heap[w.heap.size + 1]? = some (.cells z t (0, 0)) ∧ Below w.heap.size w w1 ∧ w1.heap.size = w.heap.size + 2 := by
 have hs : (w.alloc (.cells y s)).heap.size = w.heap.size + 1 := by simp
 refine ⟨_, rfl, ?_, ?_, ((Below.refl _ _).alloc (Nat.le_refl _) _).alloc (by simp) _, by simp⟩
 · rw [Go.heap_alloc_old (h := by omega)]; exact heap_alloc_new w _
 · rw [← hs]; exact heap_alloc_new _ _
def OwnsQ (w : World) (base : Nat) (e : TypeId) (v : Value) (xs : List Value) : Prop :=
 (v = .slice none 0 0 ∧ xs = []) ∨
 ∃ g off cap cur, v = .slice (some ⟨g, off, none⟩) xs.length cap ∧ base ≤ g ∧ w.heap[g]? = some (.cells cur e (0, 0)) ∧ xs.length ≤ cap ∧ cap ≤ maxLen ∧ off + cap ≤ cur.size ∧ (cur.toList.drop off).take xs.length = xs
section
variable {w w' : World} {base : Nat} {e : TypeId} {v : Value} {xs : List Value}
theorem OwnsQ.nil_ : OwnsQ w base e (.slice none 0 0) [] := .inl ⟨rfl, rfl⟩
theorem OwnsQ.form (h : OwnsQ w base e v xs) : ∃ A c, v = .slice A xs.length c ∧ xs.length ≤ c ∧ c ≤ maxLen := by
 rcases h with ⟨rfl, rfl⟩ | ⟨g, off, cap, cur, rfl, hb, hg, h1, h2, h3, h4⟩
 · exact ⟨none, 0, rfl, Nat.le_refl _, by simp [maxLen]⟩
 · exact ⟨_, cap, rfl, h1, h2⟩
theorem OwnsQ.ge (h : OwnsQ w base e v xs) : ∀ k, v.ownBlock = some k → base ≤ k := by
 rcases h with ⟨rfl, rfl⟩ | ⟨g, off, cap, cur, rfl, hb, _⟩
 · intro k hk; simp [Value.ownBlock] at hk
 · intro k hk; simp [Value.ownBlock] at hk; omega
theorem OwnsQ.kept (h : OwnsQ w base e v xs) (hk : ∀ g, v.ownBlock = some g → w'.heap[g]? = w.heap[g]?) : OwnsQ w' base e v xs := by
 rcases h with h | ⟨g, off, cap, cur, rfl, hb, hg, r⟩
 · exact .inl h
 · exact .inr ⟨g, off, cap, cur, rfl, hb, (hk g rfl).trans hg, r⟩
theorem OwnsQ.lt (h : OwnsQ w base e v xs) : ∀ g, v.ownBlock = some g → g < w.heap.size := by
 rcases h with ⟨rfl, rfl⟩ | ⟨g, off, cap, cur, rfl, hb, hg, r⟩
 · intro k hk; simp [Value.ownBlock] at hk
 · intro k hk
   simp [Value.ownBlock] at hk
   subst hk; exact (Array.getElem?_eq_some_iff.1 hg).1
theorem OwnsQ.below (h : OwnsQ w base e v xs) (hb : Below w.heap.size w w') : OwnsQ w' base e v xs := h.kept fun g hg => hb.block g (h.lt g hg)
theorem OwnsQ.setCell_other (h : OwnsQ w base e v xs) {p : Addr} (hp : p.block < base) (u : Value) : OwnsQ (w.setCell p u) base e v xs :=
 h.kept fun g hg => heap_setCell_other _ _ _ _ (by have := h.ge g hg; omega)
theorem OwnsQ.cell {A : Option Addr} {n c k : Nat} {x : Value} (h : OwnsQ w base e (.slice A n c) xs) (hk : xs[k]? = some x) : ∃ g off, A = some ⟨g, off, none⟩ ∧ w.cell? ⟨g, off + k, none⟩ = some x := by
 rcases h with ⟨h, rfl⟩ | ⟨g, off, cap, cur, hv, hb, hg, h1, h2, h3, h4⟩
 · simp at hk
 · injection hv with e1 e2 e3
   refine ⟨g, off, e1, ?_⟩; rw [cell_of_row _ _ _ _ _ _ hg]; have hlt : k < xs.length := (List.getElem?_eq_some_iff.1 hk).1; rw [← h4, List.getElem?_take, if_pos hlt, List.getElem?_drop] at hk; simpa using hk
theorem OwnsQ.tail {A : Option Addr} {n c : Nat} {x : Value} (h : OwnsQ w base e (.slice A n c) (x :: xs)) : OwnsQ w base e (.slice (A.map fun a => a.add 1) (n - 1) (c - 1)) xs := by
 rcases h with ⟨h, h0⟩ | ⟨g, off, cap, cur, hv, hb, hg, h1, h2, h3, h4⟩
 · cases h0
 · injection hv with e1 e2 e3
   subst e1; subst e2; subst e3; simp only [List.length_cons] at h1 h4; refine .inr ⟨g, off + 1, c - 1, cur, by simp [add_none], hb, hg, by omega, by omega, by omega, ?_⟩; have hd : cur.toList.drop off = x :: cur.toList.drop (off + 1) := by
    have hlt : off < cur.toList.length := by simp; omega
    rw [List.drop_eq_getElem_cons hlt] at h4 ⊢; rw [List.take_succ_cons] at h4; injection h4 with h5 h6; rw [h5]
   rw [hd, List.take_succ_cons] at h4; injection h4
theorem OwnsQ.tail0 {A : Option Addr} {n : Nat} {x : Value} (h : OwnsQ w base e (.slice A n 1) (x :: xs)) : OwnsQ w base e (.slice A (n - 1) 0) xs := by
 rcases h with ⟨h, h0⟩ | ⟨g, off, cap, cur, hv, hb, hg, h1, h2, h3, h4⟩
 · cases h0
 · injection hv with e1 e2 e3
   subst e1; subst e2; subst e3; simp only [List.length_cons] at h1 h4; have hx : xs = [] := List.eq_nil_of_length_eq_zero (by omega); subst hx; exact .inr ⟨g, off, 0, cur, by simp, hb, hg, by simp, by simp [maxLen], by omega, by simp⟩
end
section
variable {P : Program}
theorem run_append_q (w : World) (base : Nat) (t ty e : TypeId) (i : TypeInfo) (z : Value) (bytes : Nat) (ht : P.underlying t = some (.slice e)) (hi : P.info? e = some i) (hz : i.zero = some z)
 (hsize : i.size = 1) (hby : i.bytes = bytes) (hzs : z.cells.size = 1)
 (v : Value) (xs : List Value) (hown : OwnsQ w base e v xs) (ad : Addr) (c : Nat) (x : Value) (hx : w.cell? ad = some x) (h1 : x.oneCell' = true)
 (h63 : xs.length + 1 ≤ maxLen) (hbytes : (xs.length + 1) * bytes ≤ 140737488355328) (hbase : base ≤ w.heap.size) :
 ∃ v' w', (Builtin.append_ #[t, t] ty #[v, .slice (some ad) 1 c]).run P w = .ok v' w' ∧ OwnsQ w' base e v' (xs ++ [x]) ∧ w.grownBy w' v.ownBlock := by
 subst hby; have hsmall : xs.length + 1 ≤ 9223372036854775807 := by simp only [maxLen] at h63; omega
 have hnews : ∀ j u, [x][j]? = some u → w.cell? (ad.add j) = some u := fun j u hu => by
  have : j = 0 := by have := (List.getElem?_eq_some_iff.1 hu).1; simpa using this
  subst this; simp at hu; subst hu; simpa [Addr.add] using hx
 have h1' : ∀ u ∈ [x], u.oneCell' = true := fun u hu => by rw [List.mem_singleton] at hu; subst hu; exact h1
 have grown : ∀ (old : Nat), old < xs.length + 1 → ∀ (row : Option Nat),
  OwnsQ (w.drew.alloc (.cells (xs.toArray ++ [x].toArray ++ Builtin.zeroCells z.cells (grownCap w (xs.length + 1) old e - (xs.length + 1))) e)) base e
   (.slice (some ⟨w.heap.size, 0, none⟩) (xs.length + 1) (grownCap w (xs.length + 1) old e)) (xs ++ [x]) ∧
  w.grownBy (w.drew.alloc (.cells (xs.toArray ++ [x].toArray ++ Builtin.zeroCells z.cells (grownCap w (xs.length + 1) old e - (xs.length + 1))) e)) row := by
  intro old ho row; have hge := grownCap_ge w (xs.length + 1) old e; have hcm : grownCap w (xs.length + 1) old e ≤ maxLen := grownCap_le_maxLen w (xs.length + 1) old e h63; refine ⟨.inr ⟨w.heap.size, 0, _, _, by simp, hbase, Go.heap_alloc_new w.drew _, by simpa using hge, hcm, ?_, ?_⟩, ⟨rfl, rfl, rfl, by simp, fun k hk _ => Go.heap_alloc_old (w := w.drew) (h := hk) ..⟩⟩
  · simp only [Array.size_append, List.size_toArray, size_zeroCells, hzs, List.length_singleton]; omega
  · simp only [Array.toList_append, List.append_assoc, List.drop_zero]
    rw [← List.append_assoc]; exact List.take_left
 rcases hown with ⟨rfl, rfl⟩ | ⟨g, off, cap, cur, rfl, hbg, hg, hnc, hcm, hcs, htake⟩
 · have hr := run_append_nil (P := P) w t ty e i z ht hi hz ad 1 c [x] (by simp [hsize]) hnews (by decide) (by omega) (by have hb := hbytes; simp only [List.length_nil, Nat.zero_add, Nat.one_mul] at hb ⊢; omega)
   have hgr := grown 0 (by omega) (Value.ownBlock (.slice none 0 0)); simp only [List.length_nil, Nat.zero_add, List.nil_append, Array.empty_append] at hgr ⊢; exact ⟨_, _, hr, hgr.1, hgr.2⟩
 · by_cases hroom : xs.length + 1 ≤ cap
   · have hf := run_firstCells_some (P := P) w i.size 1 ad 1 c [x] (by simp [hsize]) hnews
     have hst := run_storeCells_at (P := P) g (off + xs.length) e [x] 0 cur w hg (by simp; omega) h1'; simp only [Nat.add_zero, List.length_singleton] at hst; have hr : (Builtin.append_ #[t, t] ty #[.slice (some ⟨g, off, none⟩) xs.length cap, .slice (some ad) 1 c]).run P w = .ok (.slice (some ⟨g, off, none⟩) (xs.length + 1) cap) (w.setRow g (cur.toList.take (off + xs.length) ++ [x] ++ cur.toList.drop (off + xs.length + 1)).toArray) := by
      rw [hsize] at hf; simp [Builtin.append_, run_underlying ht, sizeOf, typeInfo, hi, hsize, Builtin.lenOf, hroom, hf, Addr.add_lit] at hst ⊢
      rw [hst]; rfl
     refine ⟨_, _, hr, .inr ⟨g, off, cap, _, by simp, hbg, setRow_heap w g cur _ e _ hg, by simpa using hroom, hcm, ?_, ?_⟩, ⟨rfl, rfl, rfl, by simp, fun k _ hk => setRow_other w g k _ (fun e => hk (by simp [Value.ownBlock, e]))⟩⟩
     · simp only [List.size_toArray, List.length_append, List.length_take, List.length_drop, Array.length_toList, List.length_singleton]
       omega
     · have hl1 : (cur.toList.take (off + xs.length)).length = off + xs.length := by simp; omega
       rw [List.append_assoc, List.drop_append_of_le_length (by omega), List.drop_take, show off + xs.length - off = xs.length by omega, htake, ← List.append_assoc]; exact List.take_left
   · have holds : ∀ j u, xs[j]? = some u → w.cell? ((⟨g, off, none⟩ : Addr).add j) = some u := fun j u hu => by
      rw [add_none, cell_of_row _ _ _ _ _ _ hg]; have hlt : j < xs.length := (List.getElem?_eq_some_iff.1 hu).1; rw [← htake, List.getElem?_take, if_pos hlt, List.getElem?_drop] at hu; simpa using hu
     have hr := run_append_grow (P := P) w t ty e i z ht hi hz ⟨g, off, none⟩ xs.length cap xs (by simp [hsize]) holds ad 1 c [x] (by simp [hsize]) hnews (by omega) (by omega) (growslice_fits (by omega) hbytes); have hgr := grown cap (by omega) (Value.ownBlock (.slice (some ⟨g, off, none⟩) xs.length cap)); exact ⟨_, _, hr, hgr.1, hgr.2⟩
theorem wpList_append_q (w : World) {ops : Array Oper} {rest : List Oper} {o : Oper} {a : Act} {Q : Exit → Act → World → Prop} (hgd : o.guard = none) (s y : Operand) (t : TypeId)
 (ho : o.op = .call { callee := .builtin .append, args := #[s, y], argTypes := #[t, t] })
 (base : Nat) (e : TypeId) (i : TypeInfo) (z : Value) (bytes : Nat) (ht : P.underlying t = some (.slice e)) (hi : P.info? e = some i) (hz : i.zero = some z)
 (hsize : i.size = 1) (hby : i.bytes = bytes) (hzs : z.cells.size = 1)
 (v : Value) (xs : List Value) (hs : a.eval s = v) (hown : OwnsQ w base e v xs) (ad : Addr) (c : Nat) (x : Value) (hy : a.eval y = .slice (some ad) 1 c) (hx : w.cell? ad = some x) (h1 : x.oneCell' = true)
 (h63 : xs.length + 1 ≤ maxLen) (hbytes : (xs.length + 1) * bytes ≤ 140737488355328) (hbase : base ≤ w.heap.size)
 (h : ∀ v' w', OwnsQ w' base e v' (xs ++ [x]) → w.grownBy w' v.ownBlock → wpList P ops Q rest (a.put o.dst v') w') : wpList P ops Q (o :: rest) a w :=
 wpList_plain hgd fun _ hK => by
  obtain ⟨v', w', hrun, h2, h3⟩ := run_append_q (P := P) w base t o.type e i z bytes ht hi hz hsize hby hzs v xs hown ad c x hx h1 h63 hbytes hbase; unfold Oper.wp execOp; simp only [ho, resolve, invoke, builtin, Sem.run_bind, Sem.run_pure, Result.andThen_ok, List.map_toArray, List.map_cons, List.map_nil, hs, hy, hrun]; exact hK _ _ (h v' w' h2 h3)
end
structure BW (W : World) where
 w : World
 b : Below W.heap.size W w
instance inhabBW (W : World) : Inhabited (BW W) := ⟨⟨W, Below.refl _ _⟩⟩
theorem wp_region_below {P : Program} {id : Nat} {Q : Exit → Act → World → Prop} {a : Act} {W : World} {l : List Oper} (hm : P.follows .mixedOrders = true) (hB : Region.lexB .any l.toArray = true)
 (h : wpQuiet P l.toArray (fun w' => ∃ p : BW W, w' = p.w) (fun a' => ∀ w', (∃ p : BW W, w' = p.w) → Q .normal a' w') l a) : (Code.region id l.toArray true).wp P Q a W :=
 wp_region_quiet (C := fun w' => ∃ p : BW W, w' = p.w) hm hB ⟨⟨W.drew, (Below.refl _ _).drew⟩, rfl⟩ (by simpa using h)
theorem below_of {P : Program} {f : FuncId} {args : Array Value} {W : World} {p : BW W} {v : Value} (h : Calls P f args p.w fun e w' => e = .returned v ∧ Below p.w.heap.size p.w w') :
 Calls P f args p.w fun e w'' => e = .returned v ∧ ∃ q : BW W, w'' = q.w :=
 h.mono fun _ w'' ⟨he, hb⟩ => ⟨he, ⟨⟨w'', bcall p.b hb⟩, rfl⟩⟩
