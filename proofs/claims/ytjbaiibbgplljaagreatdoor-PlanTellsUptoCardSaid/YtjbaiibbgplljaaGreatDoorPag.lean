import Derived.Laws.OwnMore
import Derived.OneCell
import Derived.Lib.SliceRun
import Derived.Deep.AppendLies
import Derived.Deep.OwnRows
import Derived.Deep.Cut
import Derived.Deep.CutRange
import Derived.Test.YtjbaiibbgplljaaGreatDoorPad
set_option maxRecDepth 100000
set_option maxHeartbeats 40000000
namespace Go.Proofs.YtjbaiibbgplljaaGreatDoor
open Go.RowKit
theorem flat_one (l : List Value) : l.flatMap one = l := by induction l with | nil => rfl | cons a l ih => rw [List.flatMap_cons, ih]; rfl
structure OwnGrid (T U : TypeId) (base : Nat) (w : World) (v : Value) (vs : List Value) (ls : List (List Int)) : Prop where
 top : w.ownsRow base T 1 v vs.length vs
 len : vs.length = ls.length
 rows : ∀ (i : Nat) (u : Value) (l : List Int), vs[i]? = some u → ls[i]? = some l → w.ownsRow base U 1 u l.length (l.flatMap ic)
 apart : ∀ (i j : Nat) (u u' : Value) (g : Nat), i ≠ j → vs[i]? = some u → vs[j]? = some u' → u.ownBlock = some g → u'.ownBlock ≠ some g
 off : ∀ (i : Nat) (u : Value) (g : Nat), vs[i]? = some u → u.ownBlock = some g → v.ownBlock ≠ some g
section
variable {T U : TypeId} {base : Nat} {w w' : World} {v : Value} {vs : List Value} {ls : List (List Int)}
theorem OwnGrid.grid (h : OwnGrid T U base w v vs ls) : Grid w v ls :=
 ⟨vs, Sl.of_own (enc := one) (size := 1) one_len (by rw [flat_one]; exact h.top), h.len, fun i u l hu hl => Sl.of_own ic_len (h.rows i u l hu hl)⟩
theorem OwnGrid.below (h : OwnGrid T U base w v vs ls) (hb : Below w.heap.size w w') : OwnGrid T U base w' v vs ls :=
 ⟨own_below h.top hb, h.len, fun i u l hu hl => own_below (h.rows i u l hu hl) hb, h.apart, h.off⟩
theorem OwnGrid.alloc (h : OwnGrid T U base w v vs ls) (o : Obj) : OwnGrid T U base (w.alloc o) v vs ls := h.below ((Below.refl _ _).alloc (Nat.le_refl _) _)
theorem OwnGrid.setCell_below (h : OwnGrid T U base w v vs ls) {a : Addr} (ha : a.block < base) (u : Value) : OwnGrid T U base (w.setCell a u) v vs ls :=
 ⟨ownsRow_setCell_below h.top ha u, h.len, fun i u' l hu hl => ownsRow_setCell_below (h.rows i u' l hu hl) ha u, h.apart, h.off⟩
def OwnRows (T U : TypeId) (base : Nat) (w : World) (v : Value) (ls : List (List Int)) : Prop :=
 ∃ vs : List Value, w.ownsRow base T 1 v vs.length vs ∧ vs.length = ls.length ∧ ∀ (i : Nat) (u : Value) (l : List Int), vs[i]? = some u → ls[i]? = some l → w.ownsRow base U 1 u l.length (l.flatMap ic)
theorem OwnRows.grid (h : OwnRows T U base w v ls) : Grid w v ls := by
 obtain ⟨vs, h1, h2, h3⟩ := h; exact ⟨vs, Sl.of_own (enc := one) (size := 1) one_len (by rw [flat_one]; exact h1), h2, fun i u l hu hl => Sl.of_own ic_len (h3 i u l hu hl)⟩
theorem OwnRows.setCell_below (h : OwnRows T U base w v ls) {a : Addr} (ha : a.block < base) (u : Value) : OwnRows T U base (w.setCell a u) v ls := by
 obtain ⟨vs, h1, h2, h3⟩ := h; exact ⟨vs, ownsRow_setCell_below h1 ha u, h2, fun i u' l hu hl => ownsRow_setCell_below (h3 i u' l hu hl) ha u⟩
end
theorem own_type {w : World} {base b : Nat} {e t : TypeId} {size n : Nat} {v : Value} {xs : List Value} {cs : Array Value} {fz : Nat × Nat} (h : w.ownsRow base e size v n xs) (hb : w.heap[b]? = some (.cells cs t fz)) (hne : e ≠ t) : v.ownBlock ≠ some b := by
 intro he; rcases h.2 with ⟨rfl, _⟩ | ⟨g, cap, cur, rfl, _, hg, _⟩
 · simp [Value.ownBlock] at he
 · simp only [Value.ownBlock, Option.some.injEq] at he
   subst he; rw [hb] at hg; cases hg
   exact hne rfl
theorem OwnRows.below {T U : TypeId} {base : Nat} {w w' : World} {v : Value} {ls : List (List Int)} (h : OwnRows T U base w v ls) (hb : Below w.heap.size w w') : OwnRows T U base w' v ls := by
 obtain ⟨vs, h1, h2, h3⟩ := h; exact ⟨vs, own_below h1 hb, h2, fun i u l hu hl => own_below (h3 i u l hu hl) hb⟩
theorem OwnGrid.own {T U : TypeId} {base b : Nat} {w : World} {v : Value} {vs : List Value} {ls : List (List Int)} (h : OwnGrid T U base w v vs ls) (hb : b ≤ base) : OwnRows T U b w v ls :=
 ⟨vs, own_base h.top hb, h.len, fun i u l hu hl => own_base (h.rows i u l hu hl) hb⟩
theorem OwnRows.le {T U : TypeId} {base b : Nat} {w : World} {v : Value} {ls : List (List Int)} (h : OwnRows T U base w v ls) (hb : b ≤ base) : OwnRows T U b w v ls := by
 obtain ⟨vs, h1, h2, h3⟩ := h; exact ⟨vs, own_base h1 hb, h2, fun i u l hu hl => own_base (h3 i u l hu hl) hb⟩
theorem OwnRows.nil_ {T U : TypeId} {base : Nat} {w : World} : OwnRows T U base w (.slice none 0 0) [] := ⟨[], World.ownsRow_nil _ _ _ _, rfl, by simp⟩
theorem OwnRows.form {T U : TypeId} {base : Nat} {w : World} {v : Value} {ls : List (List Int)} (h : OwnRows T U base w v ls) : ∃ A c, v = .slice A ls.length c ∧ ls.length ≤ c ∧ c ≤ maxLen := h.grid.form
theorem OwnRows.snoc {T U : TypeId} {base : Nat} {w w' : World} {v v' u : Value} {vs : List Value} {ls : List (List Int)} {l : List Int} (hTU : T ≠ U) (hl : vs.length = ls.length) (htop : w.ownsRow base T 1 v vs.length vs) (hrows : ∀ (i : Nat) (u : Value) (l : List Int), vs[i]? = some u → ls[i]? = some l → w.ownsRow base U 1 u l.length (l.flatMap ic))
 (hu : w.ownsRow base U 1 u l.length (l.flatMap ic)) (ht : w'.ownsRow base T 1 v' (vs.length + 1) (vs ++ [u])) (hg : w.grownBy w' v.ownBlock) : OwnRows T U base w' v' (ls ++ [l]) := by
 have hk : ∀ {u : Value} {l : List Int}, w.ownsRow base U 1 u l.length (l.flatMap ic) → w'.ownsRow base U 1 u l.length (l.flatMap ic) := fun {u l} h => h.kept hg (by
  rcases e : v.ownBlock with _ | b
  · cases u.ownBlock <;> simp
  · refine .inr ?_
    rcases htop.2 with ⟨rfl, _⟩ | ⟨g, cap, cur, rfl, _, hgg, _⟩
    · simp [Value.ownBlock] at e
    · simp only [Value.ownBlock, Option.some.injEq] at e
      subst e; exact own_type h hgg (fun e => hTU e.symm))
 refine ⟨vs ++ [u], by rw [List.length_append]; exact ht, by rw [List.length_append, List.length_append, hl]; rfl, fun i u' l' hu' hl' => ?_⟩; by_cases hi : i < vs.length
 · rw [List.getElem?_append_left hi] at hu'
   rw [List.getElem?_append_left (by rw [← hl]; exact hi)] at hl'; exact hk (hrows i u' l' hu' hl')
 · have hlt : i < (vs ++ [u]).length := (List.getElem?_eq_some_iff.1 hu').1
   rw [List.length_append] at hlt; obtain rfl : i = vs.length := by simp at hlt; omega
   rw [List.getElem?_concat_length] at hu'; rw [hl, List.getElem?_concat_length] at hl'; cases hu'; cases hl'
   exact hk hu
theorem infoRow : (Tryz.prog.info? 67).map (fun i => (i.zero, i.size, i.bytes)) = some (some (.slice none 0 0), 1, 24) := by kernel_rfl
theorem infoInt : (Tryz.prog.info? 3).map (fun i => (i.zero, i.size, i.bytes)) = some (some (.int .i64 0), 1, 8) := by kernel_rfl
theorem keepcHp {a b : World} {p : Addr} {v : Value} (hb : Below a.heap.size a b) (h : a.cell? p = some v) : b.cell? p = some v := by
 rw [hb.cell (World.block_lt_of_cell? _ _ h)]; exact h
theorem keepfHp {a b : World} {p : Addr} {v : Value} (hb : Below a.heap.size a b) (h : a.cell? p = some v) (hf : a.frozen? p = false) : b.frozen? p = false := by
 rw [hb.frozen (World.block_lt_of_cell? _ _ h)]; exact hf
abbrev OwnR (base : Nat) (w : World) (v : Value) (ls : Rws) : Prop := OwnRows 67 3 base w v ls
theorem own_slice {base : Nat} {w : World} {v : Value} {ls : Rws} (h : OwnR base w v ls) : ∃ A c, v = .slice A ls.length c ∧ ls.length ≤ c ∧ c ≤ 9223372036854775807 := by
 obtain ⟨A, c, e, h1, h2⟩ := h.form; unfold maxLen at h2; exact ⟨A, c, e, h1, by omega⟩
theorem Right_cHp (n : Int) (v : Value) (ls : Rws) (w : World) (h : Grid w v ls) (b : Bool) (hb : rightF n ls = b) :
 Calls Tryz.prog 82 #[hv n v] w fun e w' => e = .returned (.bool b) ∧ Below w.heap.size w w' := by
 subst hb; exact Right_anyHp n v ls w h
def tcRf (p : B8) : List Value := [.string ⟨p.toArray⟩]
theorem tc_len (p : B8) : (tcRf p).length = 1 := rfl
abbrev Pcs (w : World) (v : Value) (l : List B8) : Prop := Sl tcRf 1 w v l
theorem infoStr : (Tryz.prog.info? 9).map (fun i => (i.zero, i.size, i.bytes)) = some (some (.string ⟨#[]⟩), 1, 16) := by kernel_rfl
theorem ext_sub (t : ByteArray) (a b : Nat) : t.extract a b = ⟨((t.data.toList.drop a).take (b - a)).toArray⟩ := by
 apply ByteArray.ext
 apply Array.ext'
 rw [ByteArray.data_extract, Array.toList_extract]
theorem rCut_any (t : ByteArray) (c : UInt8) (w : World) (ht : t.size ≤ 1048576) :
 Calls Tryz.prog 26 #[.string t, .int .u8 c.toNat] w fun e w' => ∃ v, e = .returned v ∧ w'.ownsRow w.heap.size 9 1 v (cutG c [] t.data.toList).length ((cutG c [] t.data.toList).flatMap tcRf) ∧ Below w.heap.size w w' := by
 obtain ⟨i0, hi, hz0, hz1, hz2⟩ := info_parts infoStr; have htl : t.data.toList.length = t.size := by rw [Array.length_toList]; rfl
 obtain ⟨sb, hsb, hsr⟩ : ∃ sb : Nat → Int, (∀ n (h : n < t.size), ((t[n]'h).toNat : Int) = sb n) ∧ ∀ n, 0 ≤ sb n ∧ sb n ≤ 255 := by
  refine ⟨fun n => if h : n < t.size then ((t[n]'h).toNat : Int) else 0, fun n h => by simp [h], fun n => ?_⟩; dsimp only; split
  · next h => have := UInt8.toNat_lt (t[n]'h); omega
  · omega
 obtain ⟨R, hR⟩ : ∃ R, cutG c [] t.data.toList = R := ⟨_, rfl⟩; have HR := hide hR; obtain ⟨L, hL⟩ : ∃ L, t.data.toList = L := ⟨_, rfl⟩; rw [hL] at HR htl; rw [hR]; have HL := hide hL; have HTL := hide htl; clear hR hL htl; go_enter Tryz.func26, Tryz.ntmps26
 go_wp2; go_loopw [5, 6, 7] (fun v f i wr => ∃ (k fr : Nat) (acc : List B8), i = .int .i64 k ∧ f = .int .i64 fr ∧ fr ≤ k ∧ acc.length ≤ fr ∧ fr ≤ t.size + 1 ∧ wr.ownsRow w.heap.size 9 1 v acc.length (acc.flatMap tcRf) ∧ Below w.heap.size w wr ∧
  ((k ≤ t.size ∧ fr ≤ t.size ∧ Hid (acc ++ cutG c ((L.drop fr).take (k - fr)) (L.drop k) = R)) ∨ (k = t.size + 1 ∧ Hid (acc = R)))) (fun _ _ i _ => t.size + 1 - (intOf i).toNat)
 case atStart => exact ⟨0, 0, [], rfl, rfl, Nat.le_refl _, Nat.le_refl _, Nat.zero_le _, World.ownsRow_nil _ _ _ _, Below.refl _ _, .inl ⟨Nat.zero_le _, Nat.zero_le _, hide (by simpa using HR.out)⟩⟩
 case round =>
  obtain ⟨k, fr, acc, rfl, rfl, hfk, hal, hft, hown, hb, hrel⟩ := hrel; obtain ⟨A, cp, rfl, hcp, hcm⟩ := own_form hown; have hwa := hb.size; rcases hrel with ⟨hk, hf2, hinv⟩ | ⟨rfl, hinv⟩
  · by_cases hlt : k < t.size
    · have hkL : k < L.length := by rw [HTL.out]; exact hlt
      obtain ⟨b, hbd, hbx⟩ : ∃ b : UInt8, L.drop k = b :: L.drop (k + 1) ∧ (b.toNat : Int) = sb k := by
       refine ⟨t[k]'hlt, ?_, hsb k hlt⟩; rw [List.drop_eq_getElem_cons hkL]; congr 1
       simp only [← HL.out]; rfl
      have htk : (L.drop fr).take (k + 1 - fr) = (L.drop fr).take (k - fr) ++ [b] := by
       have hb0 : L[k]? = some b := by
        have := congrArg (fun x => x[0]?) hbd; simpa [List.getElem?_drop] using this
       rw [show k + 1 - fr = (k - fr) + 1 by omega, List.take_add_one]; congr 1
       rw [List.getElem?_drop, show fr + (k - fr) = k by omega, hb0]; rfl
      have hinv := hinv.out; rw [hbd] at hinv; have q0 : (k == t.size) = false := by simp; omega
      obtain ⟨r0, r1⟩ := hsr k; by_cases hc : b = c
      · rw [cutG, if_pos hc] at hinv
        have HI := hide hinv; have HX := hide (ext_sub t fr k); have q1 : (sb k == (c.toNat : Int)) = true := by rw [← hbx, hc]; simp
        clear hc hbd htk hinv hbx; go_wp2_with (at_builtin; refine wpList_append_own _ rfl _ _ 63 rfl w.heap.size 9 i0 (.string ⟨#[]⟩) 1 16 Tryz.underlying63 hi hz0 hz1 hz2 rfl (by decide) _ _ _ rfl (hown.alloc _) ⟨_, 0, none⟩ 1 1 [.string (t.extract fr k)] rfl rfl (row_at _ _ _ (by simp)) (by simp [Value.oneCell']) (by simp only [maxLen]; omega) (by omega) (by simp; omega) ?_; intro v' w1 hown' hgrow _)
        rw [HX.out] at hown'; go_roundw
        case rel => exact ⟨k + 1, k + 1, acc ++ [(L.drop fr).take (k - fr)], by go_num, by go_num, by omega, by simp; omega, by omega, by rw [List.length_append, List.flatMap_append]; rw [HL.out] at hown'; exact hown', (hb.alloc hwa _).grown hgrow (by simp; omega) (own_ge hown), .inl ⟨by omega, by omega, hide (by rw [← HI.out]; simp)⟩⟩
        case measure => simp [intOf]; omega
      · rw [cutG, if_neg hc, ← htk] at hinv
        have HI := hide hinv; have q1 : (sb k == (c.toNat : Int)) = false := by
         rw [beq_eq_false_iff_ne, ← hbx]; intro e; exact hc (UInt8.toNat_inj.1 (by omega))
        clear hc hbd htk hinv hbx; go_wp2; go_roundw
        case rel => exact ⟨k + 1, fr, acc, by go_num, rfl, by omega, hal, hft, hown, hb, .inl ⟨by omega, hf2, HI⟩⟩
        case measure => simp [intOf]; omega
    · obtain rfl : k = t.size := by omega
      have hinv := hinv.out; rw [List.drop_eq_nil_of_le (show L.length ≤ t.size by rw [HTL.out]; exact Nat.le_refl _), cutG] at hinv; have HI := hide hinv; have HX := hide (ext_sub t fr t.size); have q0 : (t.size == t.size) = true := by simp
      clear hinv; go_wp2_with (at_builtin; refine wpList_append_own _ rfl _ _ 63 rfl w.heap.size 9 i0 (.string ⟨#[]⟩) 1 16 Tryz.underlying63 hi hz0 hz1 hz2 rfl (by decide) _ _ _ rfl (hown.alloc _) ⟨_, 0, none⟩ 1 1 [.string (t.extract fr t.size)] rfl rfl (row_at _ _ _ (by simp)) (by simp [Value.oneCell']) (by simp only [maxLen]; omega) (by omega) (by simp; omega) ?_; intro v' w1 hown' hgrow _)
      rw [HX.out] at hown'; go_roundw
      case rel => exact ⟨t.size + 1, t.size + 1, acc ++ [(L.drop fr).take (t.size - fr)], by go_num, by go_num, by omega, by simp; omega, by omega, by rw [List.length_append, List.flatMap_append]; rw [HL.out] at hown'; exact hown', (hb.alloc hwa _).grown hgrow (by simp; omega) (own_ge hown), .inr ⟨rfl, HI⟩⟩
      case measure => simp [intOf]
  · go_wp2
    go_ret
    have hi2 := hinv.out; subst hi2; exact ⟨_, rfl, hown, hb⟩
theorem keepg {a b : World} {p : Addr} {v : Value} {row : Option Nat} (hg : a.grownBy b row) (h : a.cell? p = some v) (hr : row ≠ some p.block) : b.cell? p = some v := by
 rw [World.cell?_of_block (w := a) (hg.block p.block (World.block_lt_of_cell? _ _ h) (fun e => hr e.symm))]; exact h
theorem keepgf {a b : World} {p : Addr} {v : Value} {row : Option Nat} (hg : a.grownBy b row) (h : a.cell? p = some v) (hf : a.frozen? p = false) (hr : row ≠ some p.block) : b.frozen? p = false := by
 rw [World.frozen?_of_block (w := a) (hg.block p.block (World.block_lt_of_cell? _ _ h) (fun e => hr e.symm))]; exact hf
def slotOk (k : Nat) (v : Int) : Bool := decide (0 ≤ v ∧ v ≤ k)
theorem rowOk_of {n : Int} {k : Nat} {l : List Int} (h : (l.length : Int) = n) (h2 : l.all (slotOk k) = true) : rowOk n k l = true := by
 unfold rowOk; rw [decide_eq_true h, Bool.true_and]; exact h2
theorem rowOk_len {n : Int} {k : Nat} {l : List Int} (h : ¬ (l.length : Int) = n) : rowOk n k l = false := by unfold rowOk; rw [decide_eq_false h]; rfl
theorem rowOk_bad {n : Int} {k : Nat} {l : List Int} (j : Nat) (hj : j < l.length) (h : slotOk k l[j] = false) : rowOk n k l = false := by
 unfold rowOk; have := all_false (slotOk k) l j hj h; unfold slotOk at this; rw [this, Bool.and_false]
theorem rRight_anyRf (n : Int) (v : Value) (ls : Rws) (w : World) (h : Grid w v ls) :
 Calls Tryz.prog 52 #[hv n v] w fun e w' => e = .returned (.bool (rightF n ls)) ∧ Below w.heap.size w w' := by
 have HG := hide h; obtain ⟨A, c, rfl, h1, h2⟩ := h.form; unfold maxLen at h2; clear h; by_cases hA : 1 ≤ n ∧ n ≤ 4 ∧ ls.length ≤ 64
 · have hR := hide (show rightF n ls = ls.all (rowOk n ls.length) by unfold rightF; rw [decide_eq_true hA, Bool.true_and])
   obtain ⟨a1, a2, a3⟩ := hA; have q1 : decide (n < 1) = false := decide_eq_false (by omega); have q2 : decide (4 < n) = false := decide_eq_false (by omega); have q3 : decide (64 < (ls.length : Int)) = false := decide_eq_false (by omega); obtain ⟨w1, ew, hB1, hlt1, hold, k0, k1⟩ := box1Hp w (.int .i64 n) (.slice A ls.length c) 36; have HE := hide ew; have HG1 := hide (HG.out.below hB1); clear ew; go_enter Tryz.func52, Tryz.ntmps52
   go_wp2; rw [HE.out]; clear HE; go_loopw [3] (fun i wi => ∃ k : Nat, k ≤ ls.length ∧ i = .int .i64 k ∧ Below w1.heap.size w1 wi ∧ Hid ((ls.take k).all (rowOk n ls.length) = true)) (fun i _ => ls.length - (intOf i).toNat)
   case atStart => exact ⟨0, Nat.zero_le _, rfl, Below.refl _ _, hide (by simp)⟩
   case round =>
    obtain ⟨k, hk, rfl, hb, HA⟩ := hrel; have c0 := ((bcell hb).1 _ 0 hlt1).trans k0; have c1 := ((bcell hb).1 _ 1 hlt1).trans k1; by_cases hlt : k < ls.length
    · obtain ⟨b, off, u, rfl, hbw, hc, hr⟩ := grid_at (HG1.out.below hb) hlt
      obtain ⟨l, hl⟩ : ∃ l, ls[k] = l := ⟨_, rfl⟩; rw [hl] at hr; have HL := hide hl; have HR := hide hr; obtain ⟨B, d, rfl, h3, h4, -⟩ := hr; unfold maxLen at h4; have c0q : ∀ p : BW wr, p.w.cell? ⟨w.heap.size, 0, none⟩ = some (.int .i64 n) := fun p => keepcHp p.b c0
      have c1q : ∀ p : BW wr, p.w.cell? ⟨w.heap.size, 1, none⟩ = some (.slice (some ⟨b, off, none⟩) ls.length c) := fun p => keepcHp p.b c1
      have cgq : ∀ p : BW wr, p.w.cell? ⟨b, off + k, none⟩ = some (.slice B l.length d) := fun p => keepcHp p.b hc
      clear hl; by_cases hn : (l.length : Int) = n
      · have HN := hide hn
        have e1 : ((l.length : Int) != n) = false := by rw [bne_eq_false_iff_eq]; exact hn
        obtain ⟨m, hm⟩ : ∃ m, l.length = m := ⟨_, rfl⟩; rw [hm] at HN HR h3 e1 cgq; have HM := hide hm; clear hn hm; go_wp2; refine wp_region_below (by kernel_rfl) (by kernel_rfl) ?_; repeat (go_big_quiet_step (fail))
        refine wpQuiet_nil ?_; intro wq hw'; obtain ⟨⟨wz, bq⟩, hw''⟩ := hw'; subst hw''; rw [HM.out] at hc; have d0 := keepcHp bq c0; have d1 := keepcHp bq c1; have dg := keepcHp bq hc; have HRq := hide (HR.out.below bq); clear c0q c1q cgq c0 c1 hc; go_wp2; go_loopw [4] (fun i wi => ∃ j : Nat, j ≤ m ∧ i = .int .i64 j ∧ Below wq.heap.size wq wi ∧ Hid ((l.take j).all (slotOk ls.length) = true)) (fun i _ => m - (intOf i).toNat)
        case atStart => exact ⟨0, Nat.zero_le _, rfl, Below.refl _ _, hide (by simp)⟩
        case round =>
         obtain ⟨j, hj, rfl, hbj, HJ⟩ := hrel; have c0 := keepcHp hbj d0; have c1 := keepcHp hbj d1; have cg := keepcHp hbj dg; by_cases hlj : j < m
         · have hjl : j < l.length := by rw [HM.out]; exact hlj
           obtain ⟨b2, off2, rfl, -, hx⟩ := ints_at (HRq.out.below hbj) hjl; have HS := hide (all_snoc (slotOk ls.length) l j hjl); have HBad := hide (fun h => rowOk_bad (n := n) (k := ls.length) (l := l) j hjl h); obtain ⟨x, hxx⟩ : ∃ x, l[j] = x := ⟨_, rfl⟩; rw [hxx] at hx HS HBad; have c1q : ∀ p : BW wr, p.w.cell? ⟨w.heap.size, 1, none⟩ = some (.slice (some ⟨b, off, none⟩) ls.length c) := fun p => keepcHp p.b c1
           have cgq : ∀ p : BW wr, p.w.cell? ⟨b, off + k, none⟩ = some (.slice (some ⟨b2, off2, none⟩) m d) := fun p => keepcHp p.b cg
           have cxq : ∀ p : BW wr, p.w.cell? ⟨b2, off2 + j, none⟩ = some (.int .i64 x) := fun p => keepcHp p.b hx
           clear hxx hjl; by_cases hx0 : x < 0
           · have q4 : decide (x < 0) = true := decide_eq_true hx0
             have HF := hide (show rightF n ls = false from right_row_false k hlt (by rw [HL.out]; exact HBad.out (by unfold slotOk; rw [decide_eq_false]; omega))); clear hx0; go_wp2; refine wp_region_below (by kernel_rfl) (by kernel_rfl) ?_; repeat (go_big_quiet_step (fail))
             refine wpQuiet_nil ?_; intro wy hw'; obtain ⟨⟨wz, by_⟩, hw''⟩ := hw'; subst hw''; go_wp2; go_ret
             exact ⟨ret_bool (by rw [HF.out]), bcall hB1 (bcall hb (bcall bq (bcall hbj by_)))⟩
           · have q4 : decide (x < 0) = false := decide_eq_false hx0
             by_cases hx1 : (ls.length : Int) < x
             · have q5 : decide ((ls.length : Int) < x) = true := decide_eq_true hx1
               have HF := hide (show rightF n ls = false from right_row_false k hlt (by rw [HL.out]; exact HBad.out (by unfold slotOk; rw [decide_eq_false]; omega))); clear hx0 hx1; go_wp2; refine wp_region_below (by kernel_rfl) (by kernel_rfl) ?_; repeat (go_big_quiet_step (fail))
               refine wpQuiet_nil ?_; intro wy hw'; obtain ⟨⟨wz, by_⟩, hw''⟩ := hw'; subst hw''; go_wp2; go_ret
               exact ⟨ret_bool (by rw [HF.out]), bcall hB1 (bcall hb (bcall bq (bcall hbj by_)))⟩
             · have q5 : decide ((ls.length : Int) < x) = false := decide_eq_false hx1
               have HK := hide (show slotOk ls.length x = true by unfold slotOk; rw [decide_eq_true]; omega); clear hx0 hx1; go_wp2; refine wp_region_below (by kernel_rfl) (by kernel_rfl) ?_; repeat (go_big_quiet_step (fail))
               refine wpQuiet_nil ?_; intro wy hw'; obtain ⟨⟨wz, by_⟩, hw''⟩ := hw'; subst hw''; go_wp2; go_roundw
               case rel => exact ⟨j + 1, by omega, by go_num, bcall hbj by_, hide (by rw [HS.out, HJ.out, HK.out]; rfl)⟩
               case measure => simp [intOf]; omega
         · have HK := hide (show (ls.take (k + 1)).all (rowOk n ls.length) = true by
            have h5 := HJ.out; rw [List.take_of_length_le (by rw [HM.out]; omega)] at h5; rw [all_snoc _ _ _ hlt, HA.out, HL.out, rowOk_of (by rw [HM.out]; exact HN.out) h5]; rfl)
           go_wp2; go_roundw
           case rel => exact ⟨k + 1, by omega, by go_num, bcall hb (bcall bq hbj), HK⟩
           case measure => simp [intOf]; omega
      · have e1 : ((l.length : Int) != n) = true := by rw [bne_iff_ne]; exact hn
        have HF := hide (show rightF n ls = false from right_row_false k hlt (by rw [HL.out]; exact rowOk_len hn)); clear hn; go_wp2; refine wp_region_below (by kernel_rfl) (by kernel_rfl) ?_; repeat (go_big_quiet_step (fail))
        refine wpQuiet_nil ?_; intro wq hw'; obtain ⟨⟨wz, bq⟩, hw''⟩ := hw'; subst hw''; go_wp2; go_ret
        exact ⟨ret_bool (by rw [HF.out]), bcall hB1 (bcall hb bq)⟩
    · have HK := hide (show rightF n ls = true by
       have h5 := HA.out; rw [List.take_of_length_le (by omega)] at h5; rw [hR.out]; exact h5)
      go_wp2; go_ret
      exact ⟨ret_bool (by rw [HK.out]), bcall hB1 hb⟩
 · have HF := hide (right_false hA)
   by_cases hA1 : n < 1
   · have q1 : decide (n < 1) = true := decide_eq_true hA1
     go_enter Tryz.func52, Tryz.ntmps52
     go_wp2; go_ret
     exact ⟨ret_bool (by rw [HF.out]), balHp _ _⟩
   · have q1 : decide (n < 1) = false := decide_eq_false hA1
     by_cases hA2 : 4 < n
     · have q2 : decide (4 < n) = true := decide_eq_true hA2
       go_enter Tryz.func52, Tryz.ntmps52
       go_wp2; go_ret
       exact ⟨ret_bool (by rw [HF.out]), balHp _ _⟩
     · have q2 : decide (4 < n) = false := decide_eq_false hA2
       have q3 : decide (64 < (ls.length : Int)) = true := decide_eq_true (by omega); go_enter Tryz.func52, Tryz.ntmps52
       go_wp2; go_ret
       exact ⟨ret_bool (by rw [HF.out]), balHp _ _⟩
theorem OwnGrid.snoc {T U : TypeId} {base H : Nat} {w w' : World} {v v' u : Value} {vs : List Value} {ls : List (List Int)} {l : List Int} (h : OwnGrid T U base w v vs ls) (hTU : U ≠ T) (hbH : base ≤ H) (hold : ∀ (i : Nat) (u' : Value) (g : Nat), vs[i]? = some u' → u'.ownBlock = some g → g < H)
 (hu : w.ownsRow H U 1 u l.length (l.flatMap ic)) (ht : w'.ownsRow base T 1 v' (vs.length + 1) (vs ++ [u])) (hg : w.grownBy w' v.ownBlock) : OwnGrid T U base w' v' (vs ++ [u]) (ls ++ [l]) := by
 have hR := OwnRows.snoc (fun e => hTU e.symm) h.len h.top h.rows (own_base hu hbH) ht hg; have hrows : ∀ (i : Nat) (u' : Value) (l' : List Int), (vs ++ [u])[i]? = some u' → (ls ++ [l])[i]? = some l' → w'.ownsRow base U 1 u' l'.length (l'.flatMap ic) := by
  intro i u' l' hu' hl'; have hk : ∀ {u0 : Value} {l0 : List Int} {b0 : Nat}, w.ownsRow b0 U 1 u0 l0.length (l0.flatMap ic) → w'.ownsRow b0 U 1 u0 l0.length (l0.flatMap ic) := fun {u0 l0 b0} h0 => h0.kept hg (by
   rcases e : v.ownBlock with _ | b
   · cases u0.ownBlock <;> simp
   · refine .inr ?_
     rcases h.top.2 with ⟨e0, _⟩ | ⟨g, cap, cur, e0, _, hgg, _⟩
     · rw [e0] at e; simp [Value.ownBlock] at e
     · rw [e0] at e
       simp only [Value.ownBlock, Option.some.injEq] at e; subst e; exact own_type h0 hgg hTU)
  by_cases hi : i < vs.length
  · rw [List.getElem?_append_left hi] at hu'
    rw [List.getElem?_append_left (by rw [← h.len]; exact hi)] at hl'; exact hk (h.rows i u' l' hu' hl')
  · have hlt : i < (vs ++ [u]).length := (List.getElem?_eq_some_iff.1 hu').1
    rw [List.length_append] at hlt; obtain rfl : i = vs.length := by simp at hlt; omega
    rw [List.getElem?_concat_length] at hu'; rw [h.len, List.getElem?_concat_length] at hl'; cases hu'; cases hl'
    exact own_base (hk hu) hbH
 have hlen : (vs ++ [u]).length = (ls ++ [l]).length := by rw [List.length_append, List.length_append, h.len]; rfl
 have hnew : ∀ g, u.ownBlock = some g → H ≤ g := fun g e => (hu.lt g e).1
 have hsplit : ∀ (i : Nat) (u' : Value), (vs ++ [u])[i]? = some u' → (i < vs.length ∧ vs[i]? = some u') ∨ (i = vs.length ∧ u' = u) := by
  intro i u' hi; by_cases hlt : i < vs.length
  · rw [List.getElem?_append_left hlt] at hi; exact .inl ⟨hlt, hi⟩
  · have hl2 : i < (vs ++ [u]).length := (List.getElem?_eq_some_iff.1 hi).1
    rw [List.length_append] at hl2; obtain rfl : i = vs.length := by simp at hl2; omega
    rw [List.getElem?_concat_length] at hi; cases hi
    exact .inr ⟨rfl, rfl⟩
 refine ⟨by rw [List.length_append]; exact ht, hlen, hrows, fun i j u1 u2 g hij h1 h2 e1 e2 => ?_, fun i u1 g h1 e1 e2 => ?_⟩
 · rcases hsplit i u1 h1 with ⟨a1, a2⟩ | ⟨a1, a2⟩
   · rcases hsplit j u2 h2 with ⟨b1, b2⟩ | ⟨b1, b2⟩
     · exact h.apart i j u1 u2 g hij a2 b2 e1 e2
     · subst b2; have := hnew g e2; have := hold i u1 g a2 e1; omega
   · rcases hsplit j u2 h2 with ⟨b1, b2⟩ | ⟨b1, b2⟩
     · subst a2; have := hnew g e1; have := hold j u2 g b2 e2; omega
     · omega
 · have hlt : i < (ls ++ [l]).length := by rw [← hlen]; exact (List.getElem?_eq_some_iff.1 h1).1
   have hr := hrows i u1 _ h1 (List.getElem?_eq_getElem hlt); rcases ht.2 with ⟨e0, _⟩ | ⟨g', cap, cur, e0, _, hgg, _⟩
   · rw [e0] at e2; simp [Value.ownBlock] at e2
   · rw [e0] at e2
     simp only [Value.ownBlock, Option.some.injEq] at e2; subst e2; exact own_type hr hgg hTU e1
theorem rsame_of {n : Int} {a b : Rws} (h : a = b) : sameF n a n b = true := by unfold sameF; rw [decide_eq_true]; exact ⟨rfl, h⟩
theorem rsame_no {n m : Int} {a b : Rws} (h : ¬ (n = m ∧ a = b)) : sameF n a m b = false := by unfold sameF; rw [decide_eq_false h]
theorem rtake_more {α : Type} {a b : List α} {k : Nat} (ha : k < a.length) (hb : k < b.length) (h : a.take k = b.take k) (he : a[k] = b[k]) : a.take (k + 1) = b.take (k + 1) := by
 rw [List.take_succ_eq_append_getElem ha, List.take_succ_eq_append_getElem hb, h, he]
theorem rSame_anyRf (n m : Int) (va vb : Value) (a b : Rws) (w : World) (hga : Grid w va a) (hgb : Grid w vb b) :
 Calls Tryz.prog 33 #[hv n va, hv m vb] w fun e w' => e = .returned (.bool (sameF n a m b)) ∧ Below w.heap.size w w' := by
 have GA := hide hga; have GB := hide hgb; obtain ⟨A, c, rfl, h1, h2⟩ := hga.form; obtain ⟨B, d, rfl, h3, h4⟩ := hgb.form; unfold maxLen at h2 h4; obtain ⟨w1, ew, b0, b1, hB1, hS1⟩ := two_new w #[.int .i64 n, .slice A a.length c] #[.int .i64 m, .slice B b.length d] 36 36; have HE := hide ew; have X0 := hide (show w1.cell? ⟨w.heap.size, 0, none⟩ = some (.int .i64 n) by rw [cell_of_row _ _ _ _ _ _ b0]; rfl); have X1 := hide (show w1.cell? ⟨w.heap.size, 1, none⟩ = some (.slice A a.length c) by rw [cell_of_row _ _ _ _ _ _ b0]; rfl); have Y0 := hide (show w1.cell? ⟨w.heap.size + 1, 0, none⟩ = some (.int .i64 m) by rw [cell_of_row _ _ _ _ _ _ b1]; rfl); have Y1 := hide (show w1.cell? ⟨w.heap.size + 1, 1, none⟩ = some (.slice B b.length d) by rw [cell_of_row _ _ _ _ _ _ b1]; rfl); clear hga hgb ew b0 b1; by_cases hnm : n = m
 · subst hnm
   by_cases hl : a.length = b.length
   · obtain ⟨L, hL⟩ : ∃ L, a.length = L := ⟨_, rfl⟩
     have hLb : b.length = L := by rw [← hl]; exact hL
     rw [hL] at HE X1 h1 GA; rw [hLb] at HE Y1 h3 GB; rw [hL, hLb]; have HL := hide hL; have HLb := hide hLb; clear hl hL hLb; go_enter Tryz.func33, Tryz.ntmps33
     go_wp2_with (rw [HE.out]; have x0 := X0.out; have x1 := X1.out; have y0 := Y0.out; have y1 := Y1.out)
     go_loopw [5] (fun i wi => ∃ k : Nat, k ≤ L ∧ i = .int .i64 k ∧ Below w1.heap.size w1 wi ∧ Hid (a.take k = b.take k)) (fun i _ => L - (intOf i).toNat)
     case atStart => exact ⟨0, Nat.zero_le _, rfl, Below.refl _ _, hide rfl⟩
     case round =>
      obtain ⟨k, hk, rfl, hb, HT⟩ := hrel; have hbw := bcall hB1 hb; have x1 := keepcHp hb X1.out; have y1 := keepcHp hb Y1.out; by_cases hlt : k < L
      · have hka : k < a.length := by rw [HL.out]; exact hlt
        have hkb : k < b.length := by rw [HLb.out]; exact hlt
        obtain ⟨ba, oa, ua, rfl, -, hca, hra⟩ := grid_at (GA.out.below hbw) hka; obtain ⟨bb, ob, ub, rfl, -, hcb, hrb⟩ := grid_at (GB.out.below hbw) hkb; have HTm := hide (fun he => rtake_more hka hkb HT.out he); have HNo := hide (show a[k] ≠ b[k] → sameF n a n b = false from fun hne => rsame_no fun h => hne (by have := h.2; subst this; rfl)); obtain ⟨la, hla⟩ : ∃ l, a[k] = l := ⟨_, rfl⟩; obtain ⟨lb, hlb⟩ : ∃ l, b[k] = l := ⟨_, rfl⟩; rw [hla] at hra HTm HNo; rw [hlb] at hrb HTm HNo; have RA := hide hra; have RB := hide hrb; obtain ⟨Aa, ca, rfl, ha3, ha4, -⟩ := hra; obtain ⟨Ab, cb, rfl, -, hb4, -⟩ := hrb; unfold maxLen at ha4 hb4; have x1q : ∀ p : BW wr, p.w.cell? ⟨w.heap.size, 1, none⟩ = some (.slice (some ⟨ba, oa, none⟩) L c) := fun p => keepcHp p.b x1
        have y1q : ∀ p : BW wr, p.w.cell? ⟨w.heap.size + 1, 1, none⟩ = some (.slice (some ⟨bb, ob, none⟩) L d) := fun p => keepcHp p.b y1
        have xaq : ∀ p : BW wr, p.w.cell? ⟨ba, oa + k, none⟩ = some (.slice Aa la.length ca) := fun p => keepcHp p.b hca
        have xbq : ∀ p : BW wr, p.w.cell? ⟨bb, ob + k, none⟩ = some (.slice Ab lb.length cb) := fun p => keepcHp p.b hcb
        clear hla hlb hka hkb; by_cases hl2 : la.length = lb.length
        · obtain ⟨M, hM⟩ : ∃ M, la.length = M := ⟨_, rfl⟩
          have hMb : lb.length = M := by rw [← hl2]; exact hM
          rw [hM] at xaq hca RA ha3; rw [hMb] at xbq hcb RB; have HM := hide hM; have HMb := hide hMb; clear hl2 hM hMb; go_wp2; refine wp_region_below (by kernel_rfl) (by kernel_rfl) ?_; repeat (go_big_quiet_step (fail))
          refine wpQuiet_nil ?_; intro wq hw'; obtain ⟨⟨wz, bq⟩, hw''⟩ := hw'; subst hw''; have d1 := keepcHp bq x1; have e1 := keepcHp bq y1; have da := keepcHp bq hca; have db := keepcHp bq hcb; have RA := hide (RA.out.below bq); have RB := hide (RB.out.below bq); clear x1q y1q xaq xbq x1 y1 hca hcb; go_wp2; go_loopw [6] (fun i wi => ∃ j : Nat, j ≤ M ∧ i = .int .i64 j ∧ Below wq.heap.size wq wi ∧ Hid (la.take j = lb.take j)) (fun i _ => M - (intOf i).toNat)
          case atStart => exact ⟨0, Nat.zero_le _, rfl, Below.refl _ _, hide rfl⟩
          case round =>
           obtain ⟨j, hj, rfl, hbj, HJ⟩ := hrel; have x1 := keepcHp hbj d1; have y1 := keepcHp hbj e1; have xa := keepcHp hbj da; have xb := keepcHp hbj db; by_cases hlj : j < M
           · have hja : j < la.length := by rw [HM.out]; exact hlj
             have hjb : j < lb.length := by rw [HMb.out]; exact hlj
             obtain ⟨b2, o2, rfl, -, hx⟩ := ints_at (RA.out.below hbj) hja; obtain ⟨b3, o3, rfl, -, hy⟩ := ints_at (RB.out.below hbj) hjb; have HJm := hide (fun he => rtake_more hja hjb HJ.out he); have HN2 := hide (show la[j] ≠ lb[j] → sameF n a n b = false from fun hne => HNo.out fun h => hne (by subst h; rfl)); obtain ⟨x, hxx⟩ : ∃ x, la[j] = x := ⟨_, rfl⟩; obtain ⟨y, hyy⟩ : ∃ x, lb[j] = x := ⟨_, rfl⟩; rw [hxx] at hx HJm HN2; rw [hyy] at hy HJm HN2; have x1q : ∀ p : BW wr, p.w.cell? ⟨w.heap.size, 1, none⟩ = some (.slice (some ⟨ba, oa, none⟩) L c) := fun p => keepcHp p.b x1
             have y1q : ∀ p : BW wr, p.w.cell? ⟨w.heap.size + 1, 1, none⟩ = some (.slice (some ⟨bb, ob, none⟩) L d) := fun p => keepcHp p.b y1
             have xaq : ∀ p : BW wr, p.w.cell? ⟨ba, oa + k, none⟩ = some (.slice (some ⟨b2, o2, none⟩) M ca) := fun p => keepcHp p.b xa
             have xbq : ∀ p : BW wr, p.w.cell? ⟨bb, ob + k, none⟩ = some (.slice (some ⟨b3, o3, none⟩) M cb) := fun p => keepcHp p.b xb
             have xxq : ∀ p : BW wr, p.w.cell? ⟨b2, o2 + j, none⟩ = some (.int .i64 x) := fun p => keepcHp p.b hx
             have xyq : ∀ p : BW wr, p.w.cell? ⟨b3, o3 + j, none⟩ = some (.int .i64 y) := fun p => keepcHp p.b hy
             clear hxx hyy hja hjb; by_cases hxy : x = y
             · have e4 : (x != y) = false := by rw [bne_eq_false_iff_eq]; exact hxy
               have HK := hide (HJm.out hxy); clear hxy; go_wp2; refine wp_region_below (by kernel_rfl) (by kernel_rfl) ?_; repeat (go_big_quiet_step (fail))
               refine wpQuiet_nil ?_; intro wy hw'; obtain ⟨⟨wz, by_⟩, hw''⟩ := hw'; subst hw''; go_wp2; go_roundw
               case rel => exact ⟨j + 1, by omega, by go_num, bcall hbj by_, HK⟩
               case measure => simp [intOf]; omega
             · have e4 : (x != y) = true := by rw [bne_iff_ne]; exact hxy
               have HF := hide (HN2.out hxy); clear hxy; go_wp2; refine wp_region_below (by kernel_rfl) (by kernel_rfl) ?_; repeat (go_big_quiet_step (fail))
               refine wpQuiet_nil ?_; intro wy hw'; obtain ⟨⟨wz, by_⟩, hw''⟩ := hw'; subst hw''; go_wp2; go_ret
               exact ⟨ret_bool (by rw [HF.out]), bcall hbw (bcall bq (bcall hbj by_))⟩
           · have HK := hide (show a.take (k + 1) = b.take (k + 1) from HTm.out (by
              have h5 := HJ.out; rw [List.take_of_length_le (by rw [HM.out]; omega), List.take_of_length_le (by rw [HMb.out]; omega)] at h5; exact h5))
             go_wp2; go_roundw
             case rel => exact ⟨k + 1, by omega, by go_num, bcall hb (bcall bq hbj), HK⟩
             case measure => simp [intOf]; omega
        · have e4 : ((la.length : Int) != (lb.length : Int)) = true := by rw [bne_iff_ne]; omega
          have HF := hide (HNo.out fun h => hl2 (by rw [h])); clear hl2; go_wp2; refine wp_region_below (by kernel_rfl) (by kernel_rfl) ?_; repeat (go_big_quiet_step (fail))
          refine wpQuiet_nil ?_; intro wq hw'; obtain ⟨⟨wz, bq⟩, hw''⟩ := hw'; subst hw''; go_wp2; go_ret
          exact ⟨ret_bool (by rw [HF.out]), bcall hbw bq⟩
      · have HF := hide (show sameF n a n b = true from rsame_of (by
         have h5 := HT.out; rw [List.take_of_length_le (by rw [HL.out]; omega), List.take_of_length_le (by rw [HLb.out]; omega)] at h5; exact h5))
        go_wp2; go_ret
        exact ⟨ret_bool (by rw [HF.out]), hbw⟩
   · have e4 : ((a.length : Int) != (b.length : Int)) = true := by rw [bne_iff_ne]; omega
     have HF := hide (show sameF n a n b = false from rsame_no fun h => hl (by rw [h.2])); clear hl; go_enter Tryz.func33, Tryz.ntmps33
     go_wp2_with (rw [HE.out]; have x0 := X0.out; have x1 := X1.out; have y0 := Y0.out; have y1 := Y1.out)
     go_ret
     exact ⟨ret_bool (by rw [HF.out]), hB1⟩
 · have e4 : (n != m) = true := by rw [bne_iff_ne]; exact hnm
   have HF := hide (show sameF n a m b = false from rsame_no fun h => hnm h.1); clear hnm; go_enter Tryz.func33, Tryz.ntmps33
   go_wp2_with (rw [HE.out]; have x0 := X0.out; have x1 := X1.out; have y0 := Y0.out; have y1 := Y1.out)
   go_ret
   exact ⟨ret_bool (by rw [HF.out]), hB1⟩
