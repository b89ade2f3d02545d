import Derived.Lib.ItoaWalk
import Derived.Test.YtjbaiibbgplljaaGreatDoorPbl
import Derived.Test.YtjbaiibbgplljaaGreatDoorPaj
import Derived.Test.YtjbaiibbgplljaaGreatDoorPau
set_option maxRecDepth 100000
set_option maxHeartbeats 40000000
namespace Go.Proofs.YtjbaiibbgplljaaGreatDoor
open Go.RowKit Go.Shelf Go.Proofs
attribute [local go_sem] Oper.semAt_some
structure NumsAt (c : UInt8) (w : World) (acc : List Int) (v x : Value) (rec : Loop) (W : World) : Prop where
 bl : Boxed W w.heap.size 67 v
 row : W.ownsRow (w.heap.size + 6) 3 1 v acc.length (acc.flatMap ic)
 bs : Boxed W (w.heap.size + 1) 9 x
 bp : Boxed W (w.heap.size + 2) 9 (.string ⟨#[c]⟩)
 bv : Boxed W (w.heap.size + 3) 3 (.int .i64 0)
 df : W.heap[w.heap.size + 4]? = some (.deferred (some []))
 lp : W.heap[w.heap.size + 5]? = some (.loop rec)
 bw : Below w.heap.size w W
section
variable {c : UInt8} {w W : World} {acc : List Int} {v x : Value} {rec : Loop}
theorem NumsAt.setS (h : NumsAt c w acc v x rec W) (y : Value) : NumsAt c w acc v y rec (W.setCell ⟨w.heap.size + 1, 0, none⟩ y) :=
 have ko := KeepsOthers.setCell W ⟨w.heap.size + 1, 0, none⟩ y; ⟨h.bl.other (by omega) y, h.row.kept (grownBy_setCell' W _ y) (Or.inr (h.bs.not_row (by decide) h.row).symm), h.bs.set y, h.bp.other (by omega) y, h.bv.other (by omega) y,
  ko.same _ _ h.df rfl, ko.same _ _ h.lp rfl, h.bw.setCell (p := ⟨w.heap.size + 1, 0, none⟩) (by simp) y⟩
theorem NumsAt.putL (h : NumsAt c w acc v x rec W) (rec' : Loop) : NumsAt c w acc v x rec' (W.putObj (w.heap.size + 5) (.loop rec')) :=
 have g := grownBy_putObj' W (w.heap.size + 5) (.loop rec'); have hn : ∀ B : Nat, B ≠ w.heap.size + 5 → some B ≠ some (w.heap.size + 5) := fun B hB e => hB (by injection e)
 ⟨h.bl.kept g (hn _ (by omega)), ownsRow_putObj h.row _ h.lp rfl, h.bs.kept g (hn _ (by omega)), h.bp.kept g (hn _ (by omega)), h.bv.kept g (hn _ (by omega)),
  (World.putObj_heap_other (by omega)).trans h.df, World.putObj_heap_same (Array.getElem?_eq_some_iff.1 h.lp).1, h.bw.grown g h.bw.size (fun j e => by injection e with e; omega)⟩
theorem NumsAt.below {W' : World} (h : NumsAt c w acc v x rec W) (hb : Below W.heap.size W W') : NumsAt c w acc v x rec W' :=
 have g := grown_of_below hb none; ⟨h.bl.kept g (by simp), h.row.kept g (by cases v.ownBlock <;> simp), h.bs.kept g (by simp), h.bp.kept g (by simp), h.bv.kept g (by simp),
  (hb.block _ (Array.getElem?_eq_some_iff.1 h.df).1).trans h.df, (hb.block _ (Array.getElem?_eq_some_iff.1 h.lp).1).trans h.lp, bcall h.bw hb⟩
theorem NumsAt.drew (h : NumsAt c w acc v x rec W) : NumsAt c w acc v x rec W.drew := h.below ⟨rfl, rfl, rfl, Nat.le_refl _, fun _ _ => rfl⟩
theorem NumsAt.size (h : NumsAt c w acc v x rec W) : w.heap.size + 6 ≤ W.heap.size := (Array.getElem?_eq_some_iff.1 h.lp).1
theorem NumsAt.app {w1 : World} {v' : Value} {tmp : Obj} {q : Int} (h : NumsAt c w acc v x rec W) {n : Nat} (hk : acc.length = n)
 (hown : w1.ownsRow (w.heap.size + 6) 3 1 v' (n + 1) (acc.flatMap ic ++ [.int .i64 q])) (hgrow : (W.alloc tmp).grownBy w1 v.ownBlock) :
 w1.cell? ⟨w.heap.size, 0, none⟩ = some v ∧ w1.frozen? ⟨w.heap.size, 0, none⟩ = false ∧ NumsAt c w (acc ++ [q]) v' x rec (w1.setCell ⟨w.heap.size, 0, none⟩ v') := by
 subst hk; have hge := own_ge h.row; obtain ⟨hv1, hv2, hr2, hk2, hb2⟩ := h.bl.appended (by decide) (own_base h.row (show w.heap.size ≤ _ by omega)) h.bw.size (Nat.le_refl _) (own_base hown (by omega)) hgrow; have keep : ∀ {B : Nat} {t : TypeId} {u : Value}, Boxed W B t u → B ≠ w.heap.size → B < w.heap.size + 6 → Boxed (w1.setCell ⟨w.heap.size, 0, none⟩ v') B t u := fun {B t u} hB hne hlt => ((hB.alloc tmp).kept hgrow (fun e => by have := hge B e.symm; omega)).other hne _
 refine ⟨hv1.cell, hv1.frozen, ⟨hv2, ?_, keep h.bs (by omega) (by omega), keep h.bp (by omega) (by omega), keep h.bv (by omega) (by omega), hk2.same _ _ h.df rfl, hk2.same _ _ h.lp rfl, h.bw.trans hb2⟩⟩; have hr3 := hown.kept (grownBy_setCell' w1 w.heap.size v') (.inr fun e => by have := own_ge hown _ e; omega); rw [List.length_append, List.flatMap_append]; simpa [ic] using hr3
end
theorem nums_start (c : UInt8) (w : World) (s : ByteArray) : ∃ W4, ((((w.alloc (.cells #[.slice none 0 0] 67)).alloc (.cells #[.string s] 9)).alloc (.cells #[.string ⟨#[c]⟩] 9)).alloc (.cells #[.int .i64 0] 3)) = W4 ∧ W4.heap.size = w.heap.size + 4 ∧
 ∀ rec, NumsAt c w [] (.slice none 0 0) (.string s) rec ((W4.alloc (.deferred (some []))).alloc (.loop rec)) := by
 refine ⟨_, rfl, by simp, fun rec => ?_⟩; have b0 := ((((Boxed.new w 67 (.slice none 0 0)).alloc (.cells #[.string s] 9)).alloc (.cells #[.string ⟨#[c]⟩] 9)).alloc (.cells #[.int .i64 0] 3)); have b1 := (((Boxed.new (w.alloc (.cells #[.slice none 0 0] 67)) 9 (.string s)).alloc (.cells #[.string ⟨#[c]⟩] 9)).alloc (.cells #[.int .i64 0] 3)); have b2 := ((Boxed.new ((w.alloc (.cells #[.slice none 0 0] 67)).alloc (.cells #[.string s] 9)) 9 (.string ⟨#[c]⟩)).alloc (.cells #[.int .i64 0] 3)); have b3 := (Boxed.new (((w.alloc (.cells #[.slice none 0 0] 67)).alloc (.cells #[.string s] 9)).alloc (.cells #[.string ⟨#[c]⟩] 9)) 3 (.int .i64 0)); simp only [World.size_alloc] at b1 b2 b3; obtain ⟨W4, hW⟩ : ∃ W4, ((((w.alloc (.cells #[.slice none 0 0] 67)).alloc (.cells #[.string s] 9)).alloc (.cells #[.string ⟨#[c]⟩] 9)).alloc (.cells #[.int .i64 0] 3)) = W4 := ⟨_, rfl⟩; have hs : W4.heap.size = w.heap.size + 4 := by rw [← hW]; simp
 have hB : Below w.heap.size w W4 := by
  rw [← hW]; exact ((((Below.refl _ w).alloc (Nat.le_refl _) _).alloc (by simp) _).alloc (by simp; omega) _).alloc (by simp; omega) _
 rw [hW] at b0 b1 b2 b3 ⊢; have d0 : ((W4.alloc (.deferred (some []))).alloc (.loop rec)).heap[w.heap.size + 4]? = some (.deferred (some [])) := by rw [← hs]; exact (Below.heap_alloc _ _ _ (by simp)).trans (World.alloc_heap_new W4 _)
 have d1 : ((W4.alloc (.deferred (some []))).alloc (.loop rec)).heap[w.heap.size + 5]? = some (.loop rec) := by
  have := World.alloc_heap_new (W4.alloc (.deferred (some []))) (.loop rec); rw [World.size_alloc, hs] at this; exact this
 exact ⟨(b0.alloc _).alloc _, World.ownsRow_nil _ _ _ _, (b1.alloc _).alloc _, (b2.alloc _).alloc _, (b3.alloc _).alloc _, d0, d1, (hB.alloc (by omega) _).alloc (by simp; omega) _⟩
def NumsF (pre : List B8) (acc : List Int) : Prop := acc = pre.map numN ∧ ∀ p ∈ pre, 0 ≤ numN p
theorem numsF_end {pre : List B8} {p : B8} {acc : List Int} {q : Int} (h : NumsF pre acc) (hq : numN p = q) (h0 : ¬ q < 0) : NumsF (pre ++ [p]) (acc ++ [q]) := by
 obtain ⟨rfl, h2⟩ := h; refine ⟨by rw [List.map_append, ← hq]; rfl, fun x hx => ?_⟩; rcases List.mem_append.1 hx with hx | hx
 · exact h2 x hx
 · rw [List.mem_singleton] at hx; subst hx; omega
theorem listF_bad {c : UInt8} {s p : B8} (hp : p ∈ cut c s) (h : numN p < 0) : listFPl c s = none := by
 unfold listFPl; rw [if_neg]; rw [List.all_eq_true]; intro ha; have := ha (numN p) (List.mem_map_of_mem hp); rw [decide_eq_true_eq] at this; omega
theorem listF_ok {c : UInt8} {s : B8} {acc : List Int} (h : NumsF (cut c s) acc) : listFPl c s = some acc := by
 obtain ⟨rfl, h2⟩ := h; unfold listFPl; rw [if_pos]; rw [List.all_eq_true]; intro x hx; obtain ⟨p, hp, rfl⟩ := List.mem_map.1 hx; rw [decide_eq_true_eq]; exact h2 p hp
def ch2 : List PanicEntry := [{ v := .iface 33 (.int .i64 2), recovered := false }]
def NumsX (c : UInt8) (w : World) (acc : List Int) (v xx : Value) (rec : Loop) (q : Int) (e : Exit) (a3 : Act) (W3 : World) : Prop :=
 (e = .normal ∧ ¬ q < 0 ∧ ∃ v', NumsAt c w (acc ++ [q]) v' xx rec W3) ∨ ∃ ch, e = .panic ch ∧ a3.defers = [] ∧ ch = ch2 ∧ q < 0 ∧ NumsAt c w acc v xx rec W3
theorem nums_loop {tmps : Array Value} {assign body : Code} (c : UInt8) (act : ByteArray → Act) (w W4 : World) (t0 : ByteArray) (hs : t0.size ≤ 281474976710656) (h4 : W4.heap.size = w.heap.size + 4)
 (h0 : ∀ rec, NumsAt c w [] (.slice none 0 0) (.string t0) rec ((W4.alloc (.deferred (some []))).alloc (.loop rec)))
 (ha : ∀ (l : Nat) (x : ByteArray) (W : World) (K : Act → World → Prop), K (act x) W → assign.wpIn (Fence.wide.inRound l) 3 Tryz.prog (Exit.then K (fun _ _ _ => False)) { tmps := (#[10].zip #[Value.string x]).foldl (fun t (p, v) => t.setIfInBounds p v) tmps, defers := [] } W)
 (hb : ∀ (l : Nat) (acc : List Int) (v xx : Value) (rec : Loop) (x : ByteArray) (W : World), NumsAt c w acc v xx rec W → acc.length ≤ t0.size → x.size ≤ 281474976710656 →
  body.wpIn (Fence.wide.inRound l) 3 Tryz.prog (NumsX c w acc v xx rec (numN x.data.toList)) (act x) W) :
 CallsIn Fence.wide 0 Tryz.prog 194 (#[.func (.yield (W4.heap.size + 1)) #[] #[]] ++ #[.pointer (some ⟨w.heap.size + 2, 0, none⟩), .pointer (some ⟨w.heap.size + 1, 0, none⟩), .pointer (some ⟨w.heap.size + 3, 0, none⟩)])
  ((W4.alloc (.deferred (some []))).alloc (.loop { state := .ready, pending := none, fn := 108, tmps := tmps, params := #[10], assign := assign, body := body, defers := W4.heap.size }))
  (fun e w3 => ((∃ v, e = .returned v) ∧ ∃ acc v x rec, NumsF (cut c t0.data.toList) acc ∧ rec.state = .ready ∧ rec.pending = none ∧ NumsAt c w acc v x rec w3) ∨
   ∃ ch, e = .panicked ch ∧ ch = ch2 ∧ listFPl c t0.data.toList = none ∧ w3.heap[w.heap.size + 4]? = some (.deferred (some [])) ∧ Below w.heap.size w w3) := by
 obtain ⟨rec, hrec⟩ : ∃ rec : LoopState → Loop, rec = fun st => { state := st, pending := none, fn := 108, tmps := tmps, params := #[10], assign := assign, body := body, defers := W4.heap.size } := ⟨_, rfl⟩
 have e1 : ({ state := .ready, pending := none, fn := 108, tmps := tmps, params := #[10], assign := assign, body := body, defers := W4.heap.size } : Loop) = rec .ready := by rw [hrec]
 rw [e1, h4]; have hst : (rec .ready).state = .ready := by rw [hrec]
 have hJ0 := h0 (rec .ready); have hcl : (cut c t0.data.toList).length ≤ t0.size + 1 := by rw [cut_count, ← ba_len t0]; have := List.count_le_length (a := c) (l := t0.data.toList); omega
 refine CallsIn.mono (callsIn_wide.2 ((callsIn_wide (n := 4)).1 (split_inC c 4 (by decide) (w.heap.size + 4 + 1) (w.heap.size + 2) (w.heap.size + 1) (w.heap.size + 3) t0 (by omega)
  (fun pre W => ∃ acc v x, NumsF pre acc ∧ NumsAt c w acc v x (rec .ready) W)
  (fun ch W => ch = ch2 ∧ listFPl c t0.data.toList = none ∧ W.heap[w.heap.size + 4]? = some (.deferred (some [])) ∧ Below w.heap.size w W)
  ?_ ?_ ?_ _ ?_ hJ0.bs.cell))) ?_
 · rintro pre W v ⟨acc, v', x, h1, h3⟩
   exact ⟨acc, v', v, h1, h3.setS v⟩
 · rintro pre W ⟨acc, v', x, h1, h3⟩
   exact ⟨h3.bp.cell, h3.bv.cell, h3.bs.frozen⟩
 · rintro pre rest x t W ⟨acc, v', xx, h1, h3⟩ hc hx hcut
   have hxx : xx = .string t := by have := h3.bs.cell.symm.trans hc; injection this
   subst hxx; have hL := h3.lp; have hy := run_yield (P := Tryz.prog) (args := #[Value.string x]) hL (by rw [hrec]; rfl); have hal : acc.length ≤ t0.size := by
    rw [← hcut] at hcl; rw [h1.1, List.length_map]; simp at hcl
    omega
   refine ⟨_, _, _, _, hy, ?_⟩; rw [hrec]; refine roundP Tryz.func108 ?_; refine ha _ x W _ ?_; refine ⟨_, run_beginRound hL (by rw [hrec]), ?_⟩; refine wpIn_mono (hb _ acc v' (.string t) _ x _ (h3.putL _) hal (by omega)) ?_; rintro e a3 W3 (⟨rfl, hq, v2, h4⟩ | ⟨ch, rfl, hd, hp, hq, h4⟩)
   · refine Or.inl ⟨rfl, _, _, run_endRound none h4.lp, Or.inl ⟨rfl, ⟨_, v2, .string t, numsF_end h1 rfl hq, ?_⟩, ?_⟩⟩
     · have h6 := h4.putL { rec .busy with state := .ready, pending := none }
       rw [hrec] at h6 ⊢; exact h6
     · exact (h4.putL _).bs.cell
   · exact Or.inr ⟨ch, rfl, hd, Or.inr ⟨ch, rfl, hp, listF_bad (p := x.data.toList) (by rw [← hcut]; simp) hq, h4.df, h4.bw⟩⟩
 · exact ⟨[], _, _, ⟨rfl, by simp⟩, hJ0⟩
 · rintro e w3 (⟨hv, acc, v, x, h1, h3⟩ | h)
   · exact Or.inl ⟨hv, acc, v, x, rec .ready, h1, by rw [hrec], by rw [hrec], h3⟩
   · exact Or.inr h
def NumsP (c : UInt8) (t : B8) (w : World) (e : Ending) (w' : World) : Prop :=
 (match listFPl c t with
  | none => e = .panicked ch2
  | some l => ∃ v, e = .returned v ∧ w'.ownsRow w.heap.size 3 1 v l.length (l.flatMap ic)) ∧ Below w.heap.size w w'
theorem nums_body (c : UInt8) (w : World) (s : ByteArray) (hs : s.size ≤ 8796093022208) (hE : EnvP w) (l : Nat) (acc : List Int) (v xx : Value) (rec : Loop) (x : ByteArray) (W : World) (hO : NumsAt c w acc v xx rec W) (hal : acc.length ≤ s.size) (hx : x.size ≤ 281474976710656) (k : Nat) :
 (Code.region k #[{ dst := some 11, op := Op.load 67 (Operand.tmp 5), type := 67, pos := "reader.go:122", after := #[], guard := none }, { dst := some 12, op := Op.move (Operand.tmp 6), type := 9, pos := "reader.go:122", after := #[], guard := none }, { dst := some 13, op := Op.call { callee := Callee.value (Operand.func 152), args := #[Operand.tmp 12], argTypes := #[9] }, type := 3, pos := "reader.go:122", after := #[{ on := 1, ground := Ground.data }], guard := none }, { dst := some 14, op := Op.buildSlice 67 1 #[(0, Operand.tmp 13)], type := 67, pos := "reader.go:122", after := #[{ on := 2, ground := Ground.data }], guard := none }, { dst := some 15, op := Op.call { callee := Callee.builtin Builtin.append, args := #[Operand.tmp 11, Operand.tmp 14], argTypes := #[67, 67] }, type := 67, pos := "reader.go:122", after := #[{ on := 0, ground := Ground.data }, { on := 3, ground := Ground.data }, { on := 2, ground := Ground.chain }], guard := none }, { dst := none, op := Op.store 67 (Operand.tmp 5) (Operand.tmp 15), type := 0, pos := "reader.go:122", after := #[{ on := 4, ground := Ground.data }, { on := 4, ground := Ground.chain }, { on := 0, ground := Ground.phase }, { on := 1, ground := Ground.phase }, { on := 2, ground := Ground.phase }, { on := 3, ground := Ground.phase }, { on := 4, ground := Ground.phase }], guard := none }] true).wpIn (Fence.wide.inRound l) 3 Tryz.prog (NumsX c w acc v xx rec (numN x.data.toList))
  { tmps := #[.string s, .string ⟨#[c]⟩, undef, undef, .slice none 0 0, .pointer (some ⟨w.heap.size, 0, none⟩), .string x, .string s, .string ⟨#[c]⟩,
    .func (.func 194) #[] #[.pointer (some ⟨w.heap.size + 1 + 1, 0, none⟩), .pointer (some ⟨w.heap.size + 1, 0, none⟩), .pointer (some ⟨w.heap.size + 1 + 2, 0, none⟩)], .string x, undef, undef, undef, undef, undef, undef], defers := [] } W := by
 obtain ⟨i0, hi, hz0, hz1, hz2⟩ := info_parts info3; obtain ⟨q, hq⟩ : ∃ q, numN x.data.toList = q := ⟨_, rfl⟩; have HN := Go.Lib.hid (fun (w' : World) (h : Below w.heap.size w w') => number_any x w' hx (hE.below h)); rw [hq] at HN ⊢; obtain ⟨A, cp, hv, hc1, hc2⟩ := own_form hO.row; subst hv; obtain ⟨n, hn⟩ : ∃ n, acc.length = n := ⟨_, rfl⟩; have hal2 := hal; rw [hn] at hal hc1 hO ⊢; have HO := Go.Lib.hid hO.drew; have c0 := HO.out.bl.cell; have HAL := Go.Lib.hid hn; clear hO hE hq hn; refine wpIn_region_orders (L := [[0, 1, 2, 3, 4, 5], [1, 0, 2, 3, 4, 5], [1, 2, 0, 3, 4, 5], [1, 2, 3, 0, 4, 5]]) (by kernel_rfl) (by kernel_rfl) ?_; intro o ho; by_cases hg : q < 0
 · have HG := Go.Lib.hid hg
   clear hg; simp only [List.mem_cons, List.not_mem_nil, or_false] at ho; rcases ho with rfl | rfl | rfl | rfl
   · show wpListIn _ _ _ _ _ [{ dst := some 11, op := Op.load 67 (Operand.tmp 5), type := 67, pos := "reader.go:122", after := #[], guard := none }, { dst := some 12, op := Op.move (Operand.tmp 6), type := 9, pos := "reader.go:122", after := #[], guard := none }, { dst := some 13, op := Op.call { callee := Callee.value (Operand.func 152), args := #[Operand.tmp 12], argTypes := #[9] }, type := 3, pos := "reader.go:122", after := #[{ on := 1, ground := Ground.data }], guard := none }, { dst := some 14, op := Op.buildSlice 67 1 #[(0, Operand.tmp 13)], type := 67, pos := "reader.go:122", after := #[{ on := 2, ground := Ground.data }], guard := none }, { dst := some 15, op := Op.call { callee := Callee.builtin Builtin.append, args := #[Operand.tmp 11, Operand.tmp 14], argTypes := #[67, 67] }, type := 67, pos := "reader.go:122", after := #[{ on := 0, ground := Ground.data }, { on := 3, ground := Ground.data }, { on := 2, ground := Ground.chain }], guard := none }, { dst := none, op := Op.store 67 (Operand.tmp 5) (Operand.tmp 15), type := 0, pos := "reader.go:122", after := #[{ on := 4, ground := Ground.data }, { on := 4, ground := Ground.chain }, { on := 0, ground := Ground.phase }, { on := 1, ground := Ground.phase }, { on := 2, ground := Ground.phase }, { on := 3, ground := Ground.phase }, { on := 4, ground := Ground.phase }], guard := none }] _ _
     gi_wp2_with (refine ⟨trivial, ?_⟩; gi_at_call 152; refine (CallsIn.inRound l (callsIn_wide.2 (HN.out _ HO.out.bw))).mono ?_; rintro e w1 ⟨he, hb1⟩; unfold NumE at he; rw [if_pos HG.out] at he; unfold PanQ at he; subst he)
     exact Or.inr ⟨_, rfl, rfl, rfl, HG.out, HO.out.below hb1⟩
   · show wpListIn _ _ _ _ _ [{ dst := some 12, op := Op.move (Operand.tmp 6), type := 9, pos := "reader.go:122", after := #[], guard := none }, { dst := some 11, op := Op.load 67 (Operand.tmp 5), type := 67, pos := "reader.go:122", after := #[], guard := none }, { dst := some 13, op := Op.call { callee := Callee.value (Operand.func 152), args := #[Operand.tmp 12], argTypes := #[9] }, type := 3, pos := "reader.go:122", after := #[{ on := 1, ground := Ground.data }], guard := none }, { dst := some 14, op := Op.buildSlice 67 1 #[(0, Operand.tmp 13)], type := 67, pos := "reader.go:122", after := #[{ on := 2, ground := Ground.data }], guard := none }, { dst := some 15, op := Op.call { callee := Callee.builtin Builtin.append, args := #[Operand.tmp 11, Operand.tmp 14], argTypes := #[67, 67] }, type := 67, pos := "reader.go:122", after := #[{ on := 0, ground := Ground.data }, { on := 3, ground := Ground.data }, { on := 2, ground := Ground.chain }], guard := none }, { dst := none, op := Op.store 67 (Operand.tmp 5) (Operand.tmp 15), type := 0, pos := "reader.go:122", after := #[{ on := 4, ground := Ground.data }, { on := 4, ground := Ground.chain }, { on := 0, ground := Ground.phase }, { on := 1, ground := Ground.phase }, { on := 2, ground := Ground.phase }, { on := 3, ground := Ground.phase }, { on := 4, ground := Ground.phase }], guard := none }] _ _
     gi_wp2_with (refine ⟨trivial, ?_⟩; gi_at_call 152; refine (CallsIn.inRound l (callsIn_wide.2 (HN.out _ HO.out.bw))).mono ?_; rintro e w1 ⟨he, hb1⟩; unfold NumE at he; rw [if_pos HG.out] at he; unfold PanQ at he; subst he)
     exact Or.inr ⟨_, rfl, rfl, rfl, HG.out, HO.out.below hb1⟩
   · show wpListIn _ _ _ _ _ [{ dst := some 12, op := Op.move (Operand.tmp 6), type := 9, pos := "reader.go:122", after := #[], guard := none }, { dst := some 13, op := Op.call { callee := Callee.value (Operand.func 152), args := #[Operand.tmp 12], argTypes := #[9] }, type := 3, pos := "reader.go:122", after := #[{ on := 1, ground := Ground.data }], guard := none }, { dst := some 11, op := Op.load 67 (Operand.tmp 5), type := 67, pos := "reader.go:122", after := #[], guard := none }, { dst := some 14, op := Op.buildSlice 67 1 #[(0, Operand.tmp 13)], type := 67, pos := "reader.go:122", after := #[{ on := 2, ground := Ground.data }], guard := none }, { dst := some 15, op := Op.call { callee := Callee.builtin Builtin.append, args := #[Operand.tmp 11, Operand.tmp 14], argTypes := #[67, 67] }, type := 67, pos := "reader.go:122", after := #[{ on := 0, ground := Ground.data }, { on := 3, ground := Ground.data }, { on := 2, ground := Ground.chain }], guard := none }, { dst := none, op := Op.store 67 (Operand.tmp 5) (Operand.tmp 15), type := 0, pos := "reader.go:122", after := #[{ on := 4, ground := Ground.data }, { on := 4, ground := Ground.chain }, { on := 0, ground := Ground.phase }, { on := 1, ground := Ground.phase }, { on := 2, ground := Ground.phase }, { on := 3, ground := Ground.phase }, { on := 4, ground := Ground.phase }], guard := none }] _ _
     gi_wp2_with (refine ⟨trivial, ?_⟩; gi_at_call 152; refine (CallsIn.inRound l (callsIn_wide.2 (HN.out _ HO.out.bw))).mono ?_; rintro e w1 ⟨he, hb1⟩; unfold NumE at he; rw [if_pos HG.out] at he; unfold PanQ at he; subst he)
     exact Or.inr ⟨_, rfl, rfl, rfl, HG.out, HO.out.below hb1⟩
   · show wpListIn _ _ _ _ _ [{ dst := some 12, op := Op.move (Operand.tmp 6), type := 9, pos := "reader.go:122", after := #[], guard := none }, { dst := some 13, op := Op.call { callee := Callee.value (Operand.func 152), args := #[Operand.tmp 12], argTypes := #[9] }, type := 3, pos := "reader.go:122", after := #[{ on := 1, ground := Ground.data }], guard := none }, { dst := some 14, op := Op.buildSlice 67 1 #[(0, Operand.tmp 13)], type := 67, pos := "reader.go:122", after := #[{ on := 2, ground := Ground.data }], guard := none }, { dst := some 11, op := Op.load 67 (Operand.tmp 5), type := 67, pos := "reader.go:122", after := #[], guard := none }, { dst := some 15, op := Op.call { callee := Callee.builtin Builtin.append, args := #[Operand.tmp 11, Operand.tmp 14], argTypes := #[67, 67] }, type := 67, pos := "reader.go:122", after := #[{ on := 0, ground := Ground.data }, { on := 3, ground := Ground.data }, { on := 2, ground := Ground.chain }], guard := none }, { dst := none, op := Op.store 67 (Operand.tmp 5) (Operand.tmp 15), type := 0, pos := "reader.go:122", after := #[{ on := 4, ground := Ground.data }, { on := 4, ground := Ground.chain }, { on := 0, ground := Ground.phase }, { on := 1, ground := Ground.phase }, { on := 2, ground := Ground.phase }, { on := 3, ground := Ground.phase }, { on := 4, ground := Ground.phase }], guard := none }] _ _
     gi_wp2_with (refine ⟨trivial, ?_⟩; gi_at_call 152; refine (CallsIn.inRound l (callsIn_wide.2 (HN.out _ HO.out.bw))).mono ?_; rintro e w1 ⟨he, hb1⟩; unfold NumE at he; rw [if_pos HG.out] at he; unfold PanQ at he; subst he)
     exact Or.inr ⟨_, rfl, rfl, rfl, HG.out, HO.out.below hb1⟩
 · have HG := Go.Lib.hid hg
   clear hg; simp only [List.mem_cons, List.not_mem_nil, or_false] at ho; rcases ho with rfl | rfl | rfl | rfl
   · show wpListIn _ _ _ _ _ [{ dst := some 11, op := Op.load 67 (Operand.tmp 5), type := 67, pos := "reader.go:122", after := #[], guard := none }, { dst := some 12, op := Op.move (Operand.tmp 6), type := 9, pos := "reader.go:122", after := #[], guard := none }, { dst := some 13, op := Op.call { callee := Callee.value (Operand.func 152), args := #[Operand.tmp 12], argTypes := #[9] }, type := 3, pos := "reader.go:122", after := #[{ on := 1, ground := Ground.data }], guard := none }, { dst := some 14, op := Op.buildSlice 67 1 #[(0, Operand.tmp 13)], type := 67, pos := "reader.go:122", after := #[{ on := 2, ground := Ground.data }], guard := none }, { dst := some 15, op := Op.call { callee := Callee.builtin Builtin.append, args := #[Operand.tmp 11, Operand.tmp 14], argTypes := #[67, 67] }, type := 67, pos := "reader.go:122", after := #[{ on := 0, ground := Ground.data }, { on := 3, ground := Ground.data }, { on := 2, ground := Ground.chain }], guard := none }, { dst := none, op := Op.store 67 (Operand.tmp 5) (Operand.tmp 15), type := 0, pos := "reader.go:122", after := #[{ on := 4, ground := Ground.data }, { on := 4, ground := Ground.chain }, { on := 0, ground := Ground.phase }, { on := 1, ground := Ground.phase }, { on := 2, ground := Ground.phase }, { on := 3, ground := Ground.phase }, { on := 4, ground := Ground.phase }], guard := none }] _ _
     gi_wp2_with (first
      | (refine ⟨trivial, ?_⟩; gi_at_call 152; refine (CallsIn.inRound l (callsIn_wide.2 (HN.out _ HO.out.bw))).mono ?_; rintro e w1 ⟨he, hb1⟩; unfold NumE at he; rw [if_neg HG.out] at he; subst he; have hO2 := HO.out.below hb1; have hsz := hO2.size; have g1 := hO2.bl.cell; have g2 := hO2.bl.frozen; have g3 := fun o => (hO2.below ((Below.refl _ _).alloc (Nat.le_refl _) o)).bl.cell; have hR := Go.Lib.hid hO2.row; replace hO2 := Go.Lib.hid hO2; replace hsz := Go.Lib.hid hsz)
      | (gi_at_builtin; refine wpListIn_append_own _ rfl _ _ 67 rfl (w.heap.size + 6) 3 i0 (.int .i64 0) 1 8 Tryz.underlying67 hi hz0 hz1 hz2 rfl (by decide) _ _ _ rfl (hR.out.alloc _) ⟨_, 0, none⟩ 1 1 [.int .i64 q] rfl rfl (row_at _ _ _ (by first | rfl | (have := hsz.out; first | (simp; omega) | omega))) (by simp [Value.oneCell']) (by simp only [maxLen]; omega) (by omega) (by have := hsz.out; first | (simp; omega) | omega) ?_; intro v' w3 hown' hgrow _; obtain ⟨g', cap', rfl⟩ := ownsRow_succ hown'; obtain ⟨hc1, hf1, hO3⟩ := hO2.out.app rfl hown' hgrow; replace hO3 := Go.Lib.hid hO3))
     exact Or.inl ⟨rfl, by have := HG.out; omega, _, hO3.out⟩
   · show wpListIn _ _ _ _ _ [{ dst := some 12, op := Op.move (Operand.tmp 6), type := 9, pos := "reader.go:122", after := #[], guard := none }, { dst := some 11, op := Op.load 67 (Operand.tmp 5), type := 67, pos := "reader.go:122", after := #[], guard := none }, { dst := some 13, op := Op.call { callee := Callee.value (Operand.func 152), args := #[Operand.tmp 12], argTypes := #[9] }, type := 3, pos := "reader.go:122", after := #[{ on := 1, ground := Ground.data }], guard := none }, { dst := some 14, op := Op.buildSlice 67 1 #[(0, Operand.tmp 13)], type := 67, pos := "reader.go:122", after := #[{ on := 2, ground := Ground.data }], guard := none }, { dst := some 15, op := Op.call { callee := Callee.builtin Builtin.append, args := #[Operand.tmp 11, Operand.tmp 14], argTypes := #[67, 67] }, type := 67, pos := "reader.go:122", after := #[{ on := 0, ground := Ground.data }, { on := 3, ground := Ground.data }, { on := 2, ground := Ground.chain }], guard := none }, { dst := none, op := Op.store 67 (Operand.tmp 5) (Operand.tmp 15), type := 0, pos := "reader.go:122", after := #[{ on := 4, ground := Ground.data }, { on := 4, ground := Ground.chain }, { on := 0, ground := Ground.phase }, { on := 1, ground := Ground.phase }, { on := 2, ground := Ground.phase }, { on := 3, ground := Ground.phase }, { on := 4, ground := Ground.phase }], guard := none }] _ _
     gi_wp2_with (first
      | (refine ⟨trivial, ?_⟩; gi_at_call 152; refine (CallsIn.inRound l (callsIn_wide.2 (HN.out _ HO.out.bw))).mono ?_; rintro e w1 ⟨he, hb1⟩; unfold NumE at he; rw [if_neg HG.out] at he; subst he; have hO2 := HO.out.below hb1; have hsz := hO2.size; have g1 := hO2.bl.cell; have g2 := hO2.bl.frozen; have g3 := fun o => (hO2.below ((Below.refl _ _).alloc (Nat.le_refl _) o)).bl.cell; have hR := Go.Lib.hid hO2.row; replace hO2 := Go.Lib.hid hO2; replace hsz := Go.Lib.hid hsz)
      | (gi_at_builtin; refine wpListIn_append_own _ rfl _ _ 67 rfl (w.heap.size + 6) 3 i0 (.int .i64 0) 1 8 Tryz.underlying67 hi hz0 hz1 hz2 rfl (by decide) _ _ _ rfl (hR.out.alloc _) ⟨_, 0, none⟩ 1 1 [.int .i64 q] rfl rfl (row_at _ _ _ (by first | rfl | (have := hsz.out; first | (simp; omega) | omega))) (by simp [Value.oneCell']) (by simp only [maxLen]; omega) (by omega) (by have := hsz.out; first | (simp; omega) | omega) ?_; intro v' w3 hown' hgrow _; obtain ⟨g', cap', rfl⟩ := ownsRow_succ hown'; obtain ⟨hc1, hf1, hO3⟩ := hO2.out.app rfl hown' hgrow; replace hO3 := Go.Lib.hid hO3))
     exact Or.inl ⟨rfl, by have := HG.out; omega, _, hO3.out⟩
   · show wpListIn _ _ _ _ _ [{ dst := some 12, op := Op.move (Operand.tmp 6), type := 9, pos := "reader.go:122", after := #[], guard := none }, { dst := some 13, op := Op.call { callee := Callee.value (Operand.func 152), args := #[Operand.tmp 12], argTypes := #[9] }, type := 3, pos := "reader.go:122", after := #[{ on := 1, ground := Ground.data }], guard := none }, { dst := some 11, op := Op.load 67 (Operand.tmp 5), type := 67, pos := "reader.go:122", after := #[], guard := none }, { dst := some 14, op := Op.buildSlice 67 1 #[(0, Operand.tmp 13)], type := 67, pos := "reader.go:122", after := #[{ on := 2, ground := Ground.data }], guard := none }, { dst := some 15, op := Op.call { callee := Callee.builtin Builtin.append, args := #[Operand.tmp 11, Operand.tmp 14], argTypes := #[67, 67] }, type := 67, pos := "reader.go:122", after := #[{ on := 0, ground := Ground.data }, { on := 3, ground := Ground.data }, { on := 2, ground := Ground.chain }], guard := none }, { dst := none, op := Op.store 67 (Operand.tmp 5) (Operand.tmp 15), type := 0, pos := "reader.go:122", after := #[{ on := 4, ground := Ground.data }, { on := 4, ground := Ground.chain }, { on := 0, ground := Ground.phase }, { on := 1, ground := Ground.phase }, { on := 2, ground := Ground.phase }, { on := 3, ground := Ground.phase }, { on := 4, ground := Ground.phase }], guard := none }] _ _
     gi_wp2_with (first
      | (refine ⟨trivial, ?_⟩; gi_at_call 152; refine (CallsIn.inRound l (callsIn_wide.2 (HN.out _ HO.out.bw))).mono ?_; rintro e w1 ⟨he, hb1⟩; unfold NumE at he; rw [if_neg HG.out] at he; subst he; have hO2 := HO.out.below hb1; have hsz := hO2.size; have g1 := hO2.bl.cell; have g2 := hO2.bl.frozen; have g3 := fun o => (hO2.below ((Below.refl _ _).alloc (Nat.le_refl _) o)).bl.cell; have hR := Go.Lib.hid hO2.row; replace hO2 := Go.Lib.hid hO2; replace hsz := Go.Lib.hid hsz)
      | (gi_at_builtin; refine wpListIn_append_own _ rfl _ _ 67 rfl (w.heap.size + 6) 3 i0 (.int .i64 0) 1 8 Tryz.underlying67 hi hz0 hz1 hz2 rfl (by decide) _ _ _ rfl (hR.out.alloc _) ⟨_, 0, none⟩ 1 1 [.int .i64 q] rfl rfl (row_at _ _ _ (by first | rfl | (have := hsz.out; first | (simp; omega) | omega))) (by simp [Value.oneCell']) (by simp only [maxLen]; omega) (by omega) (by have := hsz.out; first | (simp; omega) | omega) ?_; intro v' w3 hown' hgrow _; obtain ⟨g', cap', rfl⟩ := ownsRow_succ hown'; obtain ⟨hc1, hf1, hO3⟩ := hO2.out.app rfl hown' hgrow; replace hO3 := Go.Lib.hid hO3))
     exact Or.inl ⟨rfl, by have := HG.out; omega, _, hO3.out⟩
   · show wpListIn _ _ _ _ _ [{ dst := some 12, op := Op.move (Operand.tmp 6), type := 9, pos := "reader.go:122", after := #[], guard := none }, { dst := some 13, op := Op.call { callee := Callee.value (Operand.func 152), args := #[Operand.tmp 12], argTypes := #[9] }, type := 3, pos := "reader.go:122", after := #[{ on := 1, ground := Ground.data }], guard := none }, { dst := some 14, op := Op.buildSlice 67 1 #[(0, Operand.tmp 13)], type := 67, pos := "reader.go:122", after := #[{ on := 2, ground := Ground.data }], guard := none }, { dst := some 11, op := Op.load 67 (Operand.tmp 5), type := 67, pos := "reader.go:122", after := #[], guard := none }, { dst := some 15, op := Op.call { callee := Callee.builtin Builtin.append, args := #[Operand.tmp 11, Operand.tmp 14], argTypes := #[67, 67] }, type := 67, pos := "reader.go:122", after := #[{ on := 0, ground := Ground.data }, { on := 3, ground := Ground.data }, { on := 2, ground := Ground.chain }], guard := none }, { dst := none, op := Op.store 67 (Operand.tmp 5) (Operand.tmp 15), type := 0, pos := "reader.go:122", after := #[{ on := 4, ground := Ground.data }, { on := 4, ground := Ground.chain }, { on := 0, ground := Ground.phase }, { on := 1, ground := Ground.phase }, { on := 2, ground := Ground.phase }, { on := 3, ground := Ground.phase }, { on := 4, ground := Ground.phase }], guard := none }] _ _
     gi_wp2_with (first
      | (refine ⟨trivial, ?_⟩; gi_at_call 152; refine (CallsIn.inRound l (callsIn_wide.2 (HN.out _ HO.out.bw))).mono ?_; rintro e w1 ⟨he, hb1⟩; unfold NumE at he; rw [if_neg HG.out] at he; subst he; have hO2 := HO.out.below hb1; have hsz := hO2.size; have g1 := hO2.bl.cell; have g2 := hO2.bl.frozen; have g3 := fun o => (hO2.below ((Below.refl _ _).alloc (Nat.le_refl _) o)).bl.cell; have hR := Go.Lib.hid hO2.row; replace hO2 := Go.Lib.hid hO2; replace hsz := Go.Lib.hid hsz)
      | (gi_at_builtin; refine wpListIn_append_own _ rfl _ _ 67 rfl (w.heap.size + 6) 3 i0 (.int .i64 0) 1 8 Tryz.underlying67 hi hz0 hz1 hz2 rfl (by decide) _ _ _ rfl (hR.out.alloc _) ⟨_, 0, none⟩ 1 1 [.int .i64 q] rfl rfl (row_at _ _ _ (by first | rfl | (have := hsz.out; first | (simp; omega) | omega))) (by simp [Value.oneCell']) (by simp only [maxLen]; omega) (by omega) (by have := hsz.out; first | (simp; omega) | omega) ?_; intro v' w3 hown' hgrow _; obtain ⟨g', cap', rfl⟩ := ownsRow_succ hown'; obtain ⟨hc1, hf1, hO3⟩ := hO2.out.app rfl hown' hgrow; replace hO3 := Go.Lib.hid hO3))
     exact Or.inl ⟨rfl, by have := HG.out; omega, _, hO3.out⟩
theorem numsIn_any (c : UInt8) (s : ByteArray) (w : World) (hs : s.size ≤ 8796093022208) (hE : EnvP w) : CallsIn Fence.wide 4 Tryz.prog 108 #[.string s, .string ⟨#[c]⟩] w (NumsP c s.data.toList w) := by
 obtain ⟨W4, eW, h4, h0⟩ := nums_start c w s; refine callsAt Tryz.func108 rfl ?_; simp only [Tryz.ntmps108, List.size_toArray, List.length_cons, List.length_nil, Nat.reduceAdd, Nat.reduceSub, Array.replicate_succ, Array.replicate_zero, List.push_toArray, List.append_toArray, List.nil_append, List.cons_append]; refine WpAt.seq (WpAt.of_wp (n := 4) ?_); gi_wp2
 refine WpAt.seq (WpAt.of_wp (n := 4) ?_); gi_wp2
 refine WpAt.seq ?_; refine WpAt.seq (WpAt.of_wp (n := 4) ?_); gi_wp2_with (refine ⟨trivial, ?_⟩; gi_at_call 151; refine (callsIn_wide.2 (SplitSeqC_any c _ _)).mono ?_; rintro e w' ⟨rfl, rfl⟩)
 refine WpAt.block ?_; refine WpAt.rangeFunc (gf := 194) (lb := #[.pointer (some ⟨w.heap.size + 2, 0, none⟩), .pointer (some ⟨w.heap.size + 1, 0, none⟩), .pointer (some ⟨w.heap.size + 3, 0, none⟩)]) rfl (enters_of Tryz.func194 (by kernel_rfl) rfl) ?_
 refine CallsIn.mono (nums_loop c (fun x => { tmps := #[.string s, .string ⟨#[c]⟩, undef, undef, .slice none 0 0, .pointer (some ⟨w.heap.size, 0, none⟩), .string x, .string s, .string ⟨#[c]⟩,
  .func (.func 194) #[] #[.pointer (some ⟨w.heap.size + 1 + 1, 0, none⟩), .pointer (some ⟨w.heap.size + 1, 0, none⟩), .pointer (some ⟨w.heap.size + 1 + 2, 0, none⟩)], .string x, undef, undef, undef, undef, undef, undef], defers := [] }) w W4 s (by omega) h4 h0 ?ha ?hb) ?post
 case ha =>
  intro l x W K hK; gi_wp2
  exact hK
 case hb =>
  intro l acc v xx rec x W hO hal hx; refine wpIn_block (wpIn_mono (nums_body c w s hs hE l acc v xx rec x W hO hal hx _) ?_); rintro e a3 W3 (⟨rfl, h⟩ | ⟨ch, rfl, h⟩)
  · exact Or.inl ⟨rfl, h⟩
  · exact Or.inr ⟨ch, rfl, h⟩
 case post =>
  rintro e w3 (⟨⟨v, rfl⟩, acc, v', x, rec, h1, hst, hpe, hO⟩ | ⟨ch, rfl, hp, h1, hd, hb⟩)
  · have hlp := hO.lp
    rw [show w.heap.size + 5 = W4.heap.size + 1 by omega] at hlp; refine Or.inl ⟨_, _, rfl, (run_endLoop (P := Tryz.prog) hlp (by rw [hst]; simp)).trans (by rw [hpe]), Or.inl ⟨rfl, ?_⟩⟩; refine WpAt.of_wp (n := 4) ?_; rw [h4]; have hO4 := hO.putL { rec with state := .exhausted, pending := none }; obtain ⟨w4, e4⟩ : ∃ w4, w3.putObj (w.heap.size + 5) (.loop { rec with state := .exhausted, pending := none }) = w4 := ⟨_, rfl⟩; rw [e4] at hO4; rw [show w.heap.size + 4 + 1 = w.heap.size + 5 from rfl, e4]; obtain ⟨A, cp, hv, hc1, hc2⟩ := own_form hO4.row; subst hv; have g1 := hO4.bl.cell; have HO4 := Go.Lib.hid hO4; have H1 := Go.Lib.hid (listF_ok h1); clear hO4 hO hlp e4 h0 eW h1; gi_wp2
    refine ⟨by simp, .inl ⟨_, _, rfl, run_takeDeferred HO4.out.df, ?_⟩⟩; refine ⟨.slice A acc.length cp, by simp [results, Tryz.results108, go_sem], ?_⟩; unfold NumsP; rw [H1.out]; exact ⟨⟨_, rfl, ownsRow_putObj (own_base HO4.out.row (by omega)) _ HO4.out.df rfl⟩, HO4.out.bw.trans (belowK_b (w := w) (Nat.le_refl _) _ _ _ _ (by omega) HO4.out.df rfl rfl)⟩
  · refine Or.inr ⟨ch, rfl, Or.inr ⟨ch, rfl, Or.inr ⟨ch, rfl, ?_⟩⟩⟩
    rw [h4]; refine ⟨by simp, .inl ⟨_, _, rfl, run_takeDeferred hd, ?_⟩⟩; show NumsP c s.data.toList w (.panicked ch) _
    unfold NumsP; rw [h1]; exact ⟨by rw [hp], belowK_b (w := w) (Nat.le_refl _) _ _ _ _ (by omega) hd rfl rfl |> hb.trans⟩
open Go.Joins
def RdAt (g : Nat) (s : ByteArray) (w : World) : Prop := w.heap[g]? = some (.cells #[.string s] 59)
theorem RdAt.cell {g : Nat} {s : ByteArray} {w : World} (h : RdAt g s w) : w.cell? ⟨g, 0, none⟩ = some (.string s) := cell_of_block h 0
theorem RdAt.unf {g : Nat} {s : ByteArray} {w : World} (h : RdAt g s w) : w.frozen? ⟨g, 0, none⟩ = false := unfrozen_of_block h 0
theorem RdAt.lt {g : Nat} {s : ByteArray} {w : World} (h : RdAt g s w) : g < w.heap.size := (Array.getElem?_eq_some_iff.1 h).1
theorem RdAt.below {g : Nat} {s : ByteArray} {w w' : World} (h : RdAt g s w) (hb : Below w.heap.size w w') : RdAt g s w' := (hb.block g h.lt).trans h
theorem RdAt.set {g : Nat} {s : ByteArray} {w : World} (h : RdAt g s w) (t : ByteArray) : RdAt g t (w.setCell ⟨g, 0, none⟩ (.string t)) := by
 unfold RdAt; rw [block_setCell h (.string t)]; rfl
def LineP (g : Nat) (s W : ByteArray) (w : World) (e : Ending) (w' : World) : Prop :=
 w.grownBy w' (some g) ∧
  match lineF W.data.toList (cut 10 s.data.toList) with
  | none => PanQ 2 e
  | some (t, r) => ∃ T s' : ByteArray, e = .returned (.string T) ∧ T.data.toList = t ∧ T.size ≤ s.size ∧ RdAt g s' w' ∧ cut 10 s'.data.toList = r ∧ s'.size ≤ s.size
theorem lineP_no {g : Nat} {s W : ByteArray} {w w' : World} {e : Ending} (h : lineF W.data.toList (cut 10 s.data.toList) = none) (hg : w.grownBy w' (some g)) (he : PanQ 2 e) : LineP g s W w e w' := by
 refine ⟨hg, ?_⟩; rw [h]; exact he
theorem lineP_yes {g : Nat} {s W : ByteArray} {w w' : World} {T s' : ByteArray} {t : B8} {r : List B8} (h : lineF W.data.toList (cut 10 s.data.toList) = some (t, r)) (hg : w.grownBy w' (some g)) (h1 : T.data.toList = t) (h2 : T.size ≤ s.size) (h3 : RdAt g s' w') (h4 : cut 10 s'.data.toList = r) (h5 : s'.size ≤ s.size) : LineP g s W w (.returned (.string T)) w' := by
 refine ⟨hg, ?_⟩; rw [h]; exact ⟨T, s', rfl, h1, h2, h3, h4, h5⟩
theorem line_any (g : Nat) (s W : ByteArray) (w : World) (hR : RdAt g s w) (hs : s.size ≤ 8796093022208) (hW : W.size ≤ 8796093022208) :
 Calls Tryz.prog 109 #[.pointer (some ⟨g, 0, none⟩), .string W] w (LineP g s W w) := by
 have HC := hide (CutC_any 10 s · (by omega)); have c0 := hR.cell; have HR := hide hR; clear hR; obtain ⟨P, hP⟩ : ∃ P : ByteArray, (W ++ ⟨#[32]⟩ : ByteArray) = P := ⟨_, rfl⟩; have hPl : P.data.toList = W.data.toList ++ [32] := by rw [← hP]; simp
 have HX := hide (fun x w => Tryz.strings_CutPrefix x P w); by_cases hm : (10 : UInt8) ∈ s.data.toList
 · obtain ⟨p, r, hsp, hp⟩ := split_at hm
   have hcut : cut 10 s.data.toList = p :: cut 10 r := by rw [hsp]; exact cut_pre _ _ _ hp
   have hsep : sepC 10 s.data.toList = (p, r) := by rw [hsp]; exact sepC_some hp
   have hl : lineF W.data.toList (cut 10 s.data.toList) = match afterF W.data.toList p with | some t => some (t, cut 10 r) | none => none := by rw [hcut]; exact lineF_cons (cut_ne 10 r)
   have hdm : decide ((10 : UInt8) ∈ s.data.toList) = true := decide_eq_true hm; cases hpre : (W.data.toList ++ [32]).isPrefixOf p with
   | false =>
     have HL := hide (show lineF W.data.toList (cut 10 s.data.toList) = none by rw [hl]; unfold afterF; rw [hpre]; rfl); have HPRE := hide (show Go.Lib.hasPrefix p P.data.toList = false by rw [hPl]; exact hpre); have HS := hide hsep; have HD := hide hdm; clear hm hsp hp hcut hsep hl hdm hpre hPl; go_enter Tryz.func109, Tryz.ntmps109
     go_wp2_with fail
     (with_reducible refine (HC.out _).mono ?_); rintro e w1 ⟨x, y, b, rfl, hxy, hb, hxl, hyl, hb1⟩; rw [HS.out] at hxy; rw [HD.out] at hb; subst hb; have hx : x.data.toList = p := congrArg Prod.fst hxy; have HX1 := hide (show Go.Lib.hasPrefix x.data.toList P.data.toList = false by rw [hx]; exact HPRE.out); clear hxy hx; go_wp2_with fail
     refine (HX.out _ _).mono ?_; rintro e w2 ⟨rfl, hw2⟩; obtain rfl := hw2.symm; rw [HX1.out]; go_wp2; exact ⟨rfl, lineP_no HL.out (grown_of_below hb1 _) rfl⟩
   | true =>
     have HL := hide (show lineF W.data.toList (cut 10 s.data.toList) = some (p.drop (W.data.toList.length + 1), cut 10 r) by rw [hl]; unfold afterF; rw [hpre]; rfl); have HPRE := hide (show Go.Lib.hasPrefix p P.data.toList = true by rw [hPl]; exact hpre); have HTR := hide (show Go.Lib.trimPrefix p P.data.toList = p.drop (W.data.toList.length + 1) by unfold Go.Lib.trimPrefix; rw [HPRE.out, if_pos rfl, hPl]; simp); have HPL := hide (show p.length ≤ s.size by rw [← ba_len s, hsp]; simp); have HS := hide hsep; have HD := hide hdm; clear hm hsp hp hcut hsep hl hdm hpre hPl; go_enter Tryz.func109, Tryz.ntmps109
     go_wp2_with fail
     (with_reducible refine (HC.out _).mono ?_); rintro e w1 ⟨x, y, b, rfl, hxy, hb, hxl, hyl, hb1⟩; rw [HS.out] at hxy; rw [HD.out] at hb; subst hb; have hx : x.data.toList = p := congrArg Prod.fst hxy; have HY := hide (show y.data.toList = r from congrArg Prod.snd hxy); have HX1 := hide (show Go.Lib.hasPrefix x.data.toList P.data.toList = true by rw [hx]; exact HPRE.out); obtain ⟨T, hT⟩ : ∃ T : ByteArray, (⟨(Go.Lib.trimPrefix x.data.toList P.data.toList).toArray⟩ : ByteArray) = T := ⟨_, rfl⟩; have HT := hide (show T.data.toList = p.drop (W.data.toList.length + 1) by rw [← hT, hx, HTR.out]); have HTE := hide hT; have HR1 := hide (HR.out.below hb1); have d0 := HR1.out.cell; have d1 := HR1.out.unf; clear hxy hx hT; go_wp2_with fail
     refine (HX.out _ _).mono ?_; rintro e w2 ⟨rfl, hw2⟩; obtain rfl := hw2.symm; rw [HX1.out, HTE.out]; go_wp2; go_ret
     exact lineP_yes HL.out ((grown_of_below hb1 _).trans (grown_set2 _ g 0 _)) HT.out (by rw [← ba_len T, HT.out, List.length_drop]; have := HPL.out; omega) (HR1.out.set y) (by rw [HY.out]) hyl
 · have HS := hide (sepC_none hm)
   have HL := hide (show lineF W.data.toList (cut 10 s.data.toList) = none by rw [cut_all _ _ hm]; rfl); have HD := hide (decide_eq_false hm); clear hm hPl; go_enter Tryz.func109, Tryz.ntmps109
   go_wp2_with fail
   (with_reducible refine (HC.out _).mono ?_); rintro e w1 ⟨x, y, b, rfl, hxy, hb, hxl, hyl, hb1⟩; rw [HD.out] at hb; subst hb; clear hxy; go_wp2_with fail
   refine (HX.out _ _).mono ?_; rintro e w2 ⟨rfl, hw2⟩; obtain rfl := hw2.symm; go_wp2; exact ⟨rfl, lineP_no HL.out (grown_of_below hb1 _) rfl⟩
theorem need_any (g : Nat) (s : ByteArray) (m : Int) (w : World) (hR : RdAt g s w) (hs : s.size ≤ 8796093022208) (B : Bool) (hB : decide (((cut 10 s.data.toList).length : Int) = m + 1 ∧ (cut 10 s.data.toList).getLast? = some []) = B) (h1 : 1 ≤ m) :
 Calls Tryz.prog 71 #[.pointer (some ⟨g, 0, none⟩), .int .i64 m] w fun e w' => w' = w ∧ (if B = true then e = .returned (.tuple #[]) else PanQ 2 e) := by
 have c0 := hR.cell; have hcc := cut_count 10 s.data.toList; have hls := cut_last 10 s.data.toList; rw [← suffix_last] at hls; have HCT := hide (fun w => Tryz.strings_Count_one s 10 w); have HSF := hide (fun w => Tryz.strings_HasSuffix s ⟨#[10]⟩ w (by omega)); obtain ⟨k, hk⟩ : ∃ k : Nat, Go.Lib.countByte s.data.toList 10 = k := ⟨_, rfl⟩; have hk' : s.data.toList.count 10 = k := hk; rw [hk'] at hcc; obtain ⟨b, hb⟩ : ∃ b, Go.Lib.hasSuffix s.data.toList [10] = b := ⟨_, rfl⟩; have HK := hide hk; have HSB := hide (show Go.Lib.hasSuffix s.data.toList (⟨#[10]⟩ : ByteArray).data.toList = b from hb); rw [hb] at hls; by_cases hkm : (k : Int) = m
 · cases b with
   | true =>
     have hBt : B = true := by rw [← hB, decide_eq_true_eq]; exact ⟨by omega, (hls.2 rfl).1⟩
     have q1 : ((k : Int) != m) = false := by rw [bne_eq_false_iff_eq]; exact hkm
     subst hBt; clear hB hcc hls hk hk' hb hkm h1; go_enter Tryz.func71, Tryz.ntmps71
     go_wp2_with fail
     refine (HCT.out _).mono ?_; rintro e w2 ⟨rfl, hw2⟩; obtain rfl := hw2.symm; rw [HK.out]; go_wp2_with fail
     refine (HSF.out _).mono ?_; rintro e w2 ⟨rfl, hw2⟩; obtain rfl := hw2.symm; rw [HSB.out]; go_wp2; go_end0
     exact ⟨rfl, rfl⟩
   | false =>
     have hBf : B = false := by
      rw [← hB, decide_eq_false_iff_not]; rintro ⟨h2, h3⟩; have := hls.1 ⟨h3, by omega⟩; cases this
     have q1 : ((k : Int) != m) = false := by rw [bne_eq_false_iff_eq]; exact hkm
     subst hBf; clear hB hcc hls hk hk' hb hkm h1; go_enter Tryz.func71, Tryz.ntmps71
     go_wp2_with fail
     refine (HCT.out _).mono ?_; rintro e w2 ⟨rfl, hw2⟩; obtain rfl := hw2.symm; rw [HK.out]; go_wp2_with fail
     refine (HSF.out _).mono ?_; rintro e w2 ⟨rfl, hw2⟩; obtain rfl := hw2.symm; rw [HSB.out]; go_wp2; exact ⟨rfl, rfl, rfl⟩
 · have hBf : B = false := by
    rw [← hB, decide_eq_false_iff_not]; rintro ⟨h2, h3⟩; omega
   have q1 : ((k : Int) != m) = true := by rw [bne_iff_ne]; exact hkm
   subst hBf; clear hB hcc hls hk hk' hb hkm h1; go_enter Tryz.func71, Tryz.ntmps71
   go_wp2_with fail
   refine (HCT.out _).mono ?_; rintro e w2 ⟨rfl, hw2⟩; obtain rfl := hw2.symm; rw [HK.out]; go_wp2; exact ⟨rfl, rfl, rfl⟩
def FineP (v : Value) (k : Int) (w : World) (e : Ending) (w' : World) : Prop := Below w.heap.size w w' ∧ if k = 0 then e = .returned v else PanQ k e
theorem fine_heap (n k : Int) (A : Option Addr) (L c : Nat) (w : World) : Calls Tryz.prog 113 #[hv n (.slice A L c), .int .i64 k] w (FineP (hv n (.slice A L c)) k w) := by
 by_cases hk : k = 0
 · subst hk
   go_enter Tryz.func113, Tryz.ntmps113
   go_wp2; refine bodyPost_ret (v := hv n (.slice A L c)) (by simp [results, Tryz.results113, go_sem]) rfl ⟨?_, by first | rfl | rw [if_pos rfl]⟩; exact ((Below.refl _ _).alloc (Nat.le_refl _) _).alloc (by simp) _
 · have q1 : (k != 0) = true := by rw [bne_iff_ne]; exact hk
   go_enter Tryz.func113, Tryz.ntmps113
   go_wp2; exact ⟨rfl, by first | exact (Below.refl _ _).alloc (Nat.le_refl _) _ | exact ((Below.refl _ _).alloc (Nat.le_refl _) _).alloc (by simp) _, by first | rfl | (rw [if_neg hk]; rfl)⟩
theorem fine_set (s k : Int) (w : World) : Calls Tryz.prog 116 #[.int .u64 s, .int .i64 k] w (FineP (.int .u64 s) k w) := by
 by_cases hk : k = 0
 · subst hk
   go_enter Tryz.func116, Tryz.ntmps116
   go_wp2; go_ret
   exact ⟨Below.refl _ _, rfl⟩
 · have q1 : (k != 0) = true := by rw [bne_iff_ne]; exact hk
   go_enter Tryz.func116, Tryz.ntmps116
   go_wp2; exact ⟨rfl, Below.refl _ _, by first | rfl | (rw [if_neg hk]; rfl)⟩
theorem fine_ops (A : Option Addr) (n c : Nat) (k : Int) (w : World) : Calls Tryz.prog 120 #[.slice A n c, .int .i64 k] w (FineP (.slice A n c) k w) := by
 by_cases hk : k = 0
 · subst hk
   go_enter Tryz.func120, Tryz.ntmps120
   go_wp2; go_ret
   exact ⟨Below.refl _ _, rfl⟩
 · have q1 : (k != 0) = true := by rw [bne_iff_ne]; exact hk
   go_enter Tryz.func120, Tryz.ntmps120
   go_wp2; exact ⟨rfl, Below.refl _ _, by first | rfl | (rw [if_neg hk]; rfl)⟩
theorem fine_picks (A : Option Addr) (n c : Nat) (k : Int) (w : World) : Calls Tryz.prog 123 #[.slice A n c, .int .i64 k] w (FineP (.slice A n c) k w) := by
 by_cases hk : k = 0
 · subst hk
   go_enter Tryz.func123, Tryz.ntmps123
   go_wp2; go_ret
   exact ⟨Below.refl _ _, rfl⟩
 · have q1 : (k != 0) = true := by rw [bne_iff_ne]; exact hk
   go_enter Tryz.func123, Tryz.ntmps123
   go_wp2; exact ⟨rfl, Below.refl _ _, by first | rfl | (rw [if_neg hk]; rfl)⟩
def RowsI (b0 : Nat) (w : World) (vr : List Value) (l : Rws) : Prop := vr.length = l.length ∧ ∀ (i : Nat) (u : Value) (x : List Int), vr[i]? = some u → l[i]? = some x → w.ownsRow b0 3 1 u x.length (x.flatMap ic)
def RowsO (b0 : Nat) (w : World) (vr : List Value) (l : List (List Oq)) : Prop := vr.length = l.length ∧ ∀ (i : Nat) (u : Value) (x : List Oq), vr[i]? = some u → l[i]? = some x → w.ownsRow b0 96 4 u x.length (x.flatMap oq)
structure PlanO (b0 : Nat) (w : World) (ob rg pg pk : Value) (q : Pq) : Prop where
 ob : OwnR b0 w ob q.ob
 pk : w.ownsRow b0 98 2 pk q.pk.length (q.pk.flatMap pc)
 rg : ∃ vr, w.ownsRow b0 67 1 rg vr.length vr ∧ RowsI b0 w vr q.rg
 pg : ∃ vp, w.ownsRow b0 87 1 pg vp.length vp ∧ RowsO b0 w vp q.pg
theorem PlanO.read {b0 : Nat} {w : World} {ob rg pg pk : Value} {q : Pq} (h : PlanO b0 w ob rg pg pk q) : PlanR w ob rg pg pk q := by
 obtain ⟨vr, r1, r2⟩ := h.rg; obtain ⟨vp, p1, p2⟩ := h.pg; exact ⟨OwnRows.grid h.ob, ⟨vr, Sl.of_own (enc := one) (size := 1) one_len (by rw [flat_one]; exact r1), r2.1, fun i u l hu hl => Sl.of_own ic_len (r2.2 i u l hu hl)⟩,
  ⟨vp, Sl.of_own (enc := one) (size := 1) one_len (by rw [flat_one]; exact p1), p2.1, fun i u l hu hl => Sl.of_own oq_len (p2.2 i u l hu hl)⟩, Sl.of_own pc_len h.pk⟩
theorem PlanO.below {b0 : Nat} {w w' : World} {ob rg pg pk : Value} {q : Pq} (h : PlanO b0 w ob rg pg pk q) (hb : Below w.heap.size w w') : PlanO b0 w' ob rg pg pk q := by
 obtain ⟨vr, r1, r2⟩ := h.rg; obtain ⟨vp, p1, p2⟩ := h.pg; exact ⟨OwnRows.below h.ob hb, own_below h.pk hb, ⟨vr, own_below r1 hb, r2.1, fun i u l hu hl => own_below (r2.2 i u l hu hl) hb⟩, ⟨vp, own_below p1 hb, p2.1, fun i u l hu hl => own_below (p2.2 i u l hu hl) hb⟩⟩
theorem PlanO.set {b0 : Nat} {w : World} {ob rg pg pk : Value} {q : Pq} (h : PlanO b0 w ob rg pg pk q) {a : Addr} (ha : a.block < b0) (v : Value) : PlanO b0 (w.setCell a v) ob rg pg pk q := by
 obtain ⟨vr, r1, r2⟩ := h.rg; obtain ⟨vp, p1, p2⟩ := h.pg; exact ⟨OwnRows.setCell_below h.ob ha v, ownsRow_setCell_below h.pk ha v, ⟨vr, ownsRow_setCell_below r1 ha v, r2.1, fun i u l hu hl => ownsRow_setCell_below (r2.2 i u l hu hl) ha v⟩, ⟨vp, ownsRow_setCell_below p1 ha v, p2.1, fun i u l hu hl => ownsRow_setCell_below (p2.2 i u l hu hl) ha v⟩⟩
structure LsV (b0 : Nat) (W0 : World) (B : Nat) (W : World) (q : Pq) (ob rg pg pk : Value) (vr vp : List Value) : Prop where
 hB : W0.heap.size ≤ B
 bw : Below W0.heap.size W0 W
 bp : Bp 30 W B q.wk q.mu q.cp q.bf q.bn q.mo q.pr q.li q.sl ob q.ro rg pg pk
 ob : OwnR b0 W0 ob q.ob
 pk : W0.ownsRow b0 98 2 pk q.pk.length (q.pk.flatMap pc)
 rg : W.ownsRow (B + 1) 67 1 rg vr.length vr
 rr : RowsI b0 W0 vr q.rg
 pg : W.ownsRow (B + 1) 87 1 pg vp.length vp
 rp : RowsO b0 W0 vp q.pg
def Lst (b0 : Nat) (W0 : World) (B : Nat) (W : World) (q : Pq) : Prop := ∃ ob rg pg pk vr vp, LsV b0 W0 B W q ob rg pg pk vr vp
section
variable {W0 W : World} {b0 B : Nat} {q : Pq} {ob rg pg pk : Value} {vr vp : List Value}
theorem LsV.read (h : LsV b0 W0 B W q ob rg pg pk vr vp) (hb0 : b0 ≤ B + 1) : PlanO b0 W ob rg pg pk q := by
 have hb := h.bw; exact ⟨OwnRows.below h.ob hb, own_below h.pk hb, ⟨vr, own_base h.rg hb0, h.rr.1, fun i u l hu hl => own_below (h.rr.2 i u l hu hl) hb⟩, ⟨vp, own_base h.pg hb0, h.rp.1, fun i u l hu hl => own_below (h.rp.2 i u l hu hl) hb⟩⟩
theorem LsV.set {W' : World} (h : LsV b0 W0 B W q ob rg pg pk vr vp) {q' : Pq} {ob' pk' : Value} (hb : Below B W W') (hs : ∀ b, b ≠ B → W'.heap[b]? = W.heap[b]?)
 (bp : Bp 30 W' B q'.wk q'.mu q'.cp q'.bf q'.bn q'.mo q'.pr q'.li q'.sl ob' q'.ro rg pg pk') (ho : OwnR b0 W0 ob' q'.ob) (hk : W0.ownsRow b0 98 2 pk' q'.pk.length (q'.pk.flatMap pc)) (e1 : q'.rg = q.rg) (e2 : q'.pg = q.pg) : LsV b0 W0 B W' q' ob' rg pg pk' vr vp := by
 have kp : ∀ {t : TypeId} {v : Value} {n : Nat} {xs : List Value}, W.ownsRow (B + 1) t 1 v n xs → W'.ownsRow (B + 1) t 1 v n xs := fun {t v n xs} hr => by
  refine ⟨hr.1, ?_⟩; rcases hr.2 with h0 | ⟨g, cap, cur, hv, hb2, hg, hr2⟩
  · exact .inl h0
  · exact .inr ⟨g, cap, cur, hv, hb2, (hs g (by omega)).trans hg, hr2⟩
 exact ⟨h.hB, h.bw.trans (hb.mono h.hB), bp, ho, hk, kp h.rg, by rw [e1]; exact h.rr, kp h.pg, by rw [e2]; exact h.rp⟩
theorem set_others (w : World) (B i : Nat) (x : Value) : ∀ b, b ≠ B → (w.setCell ⟨B, i, none⟩ x).heap[b]? = w.heap[b]? := fun b hb => Below.heap_setCell w ⟨B, i, none⟩ x b hb
theorem set_below (w : World) (B i : Nat) (x : Value) : Below B w (w.setCell ⟨B, i, none⟩ x) := (Below.refl _ _).setCell (p := ⟨B, i, none⟩) (Nat.le_refl _) x
end
structure KpR (R : Nat) (w w' : World) : Prop where
 size : w.heap.size ≤ w'.heap.size
 block : ∀ i, i < w.heap.size → i ≠ R → (∀ cs fz, w.heap[i]? ≠ some (.cells cs 124 fz)) → w'.heap[i]? = w.heap[i]?
theorem KpR.refl (R : Nat) (w : World) : KpR R w w := ⟨Nat.le_refl _, fun _ _ _ _ => rfl⟩
theorem KpR.trans {R : Nat} {a b c : World} (h : KpR R a b) (k : KpR R b c) : KpR R a c :=
 ⟨Nat.le_trans h.size k.size, fun i hi hR ht => by
  have e := h.block i hi hR ht; exact (k.block i (Nat.lt_of_lt_of_le hi h.size) hR (fun cs fz => by rw [e]; exact ht cs fz)).trans e⟩
theorem KpR.of_grown {R : Nat} {w w' : World} (h : w.grownBy w' (some R)) : KpR R w w' := ⟨h.size, fun i hi hR _ => h.block i hi (by intro e; injection e with e; exact hR e)⟩
theorem KpR.of_below {R : Nat} {w w' : World} (h : Below w.heap.size w w') : KpR R w w' := ⟨h.size, fun i hi _ _ => h.block i hi⟩
theorem KpR.of_row {R b n : Nat} {w w' : World} {v : Value} {xs : List Value} (h : w.ownsRow b 124 1 v n xs) (hg : w.grownBy w' v.ownBlock) : KpR R w w' :=
 ⟨hg.size, fun i hi _ ht => hg.block i hi (by
  intro e; rcases h.2 with ⟨rfl, _⟩ | ⟨g, cap, cur, rfl, _, hgg, _⟩
  · simp [Value.ownBlock] at e
  · simp only [Value.ownBlock, Option.some.injEq] at e
    subst e; exact ht _ _ hgg)⟩
def PartAt (R : Nat) (w : World) (v : Value) (f : Pq → Pq) : Prop :=
 ∃ fo caps, v = .func (.func fo) #[] caps ∧ (∀ xs w, (callFunc fo xs).run Tryz.prog w = .ok (.enter fo xs) w) ∧
   (∀ q, (f q).rg.length ≤ q.rg.length + 1 ∧ (f q).pg.length ≤ q.pg.length + 1) ∧
   ∀ (W0 W : World) (B : Nat) (q : Pq), KpR R w W0 → Lst (R + 1) W0 B W q → q.rg.length ≤ 2000000 → q.pg.length ≤ 2000000 → Calls Tryz.prog fo (#[.pointer (some ⟨B, 0, none⟩)] ++ caps) W fun e W' => e = .returned (.tuple #[]) ∧ Lst (R + 1) W0 B W' (f q) ∧ Below B W W'
theorem PartAt.kept {R : Nat} {w w' : World} {v : Value} {f : Pq → Pq} (h : PartAt R w v f) (hg : KpR R w w') : PartAt R w' v f := by
 obtain ⟨fo, caps, h1, h2, h4, h3⟩ := h; exact ⟨fo, caps, h1, h2, h4, fun W0 W B q hk => h3 W0 W B q (hg.trans hk)⟩
theorem PartAt.grown {R : Nat} {w w' : World} {v : Value} {f : Pq → Pq} (h : PartAt R w v f) (hg : w.grownBy w' (some R)) : PartAt R w' v f := h.kept (.of_grown hg)
theorem PartAt.below {R : Nat} {w w' : World} {v : Value} {f : Pq → Pq} (h : PartAt R w v f) (hb : Below w.heap.size w w') : PartAt R w' v f := h.grown (grown_of_below hb _)
theorem kept_block {R C : Nat} {w W0 W : World} {cs : Array Value} {t : TypeId} {fz : Nat × Nat} (h : w.heap[C]? = some (.cells cs t fz)) (ht : t ≠ 124) (hne : C ≠ R) (hg : KpR R w W0) (hb : Below W0.heap.size W0 W) : W.heap[C]? = some (.cells cs t fz) ∧ C < W0.heap.size := by
 have hlt : C < w.heap.size := (Array.getElem?_eq_some_iff.1 h).1; have h0 := (hg.block C hlt hne (fun cs' fz' e => by rw [h] at e; injection e with e; injection e with _ e _; exact ht e)).trans h; have hl0 : C < W0.heap.size := (Array.getElem?_eq_some_iff.1 h0).1; exact ⟨(hb.block C hl0).trans h0, hl0⟩
theorem kept_own {R b : Nat} {w W0 : World} {t : TypeId} {size n : Nat} {v : Value} {xs : List Value} (h : w.ownsRow b t size v n xs) (ht : t ≠ 124) (hR : R < b) (hg : KpR R w W0) : W0.ownsRow b t size v n xs := by
 refine ⟨h.1, ?_⟩; rcases h.2 with h0 | ⟨g, cap, cur, hv, hb, hgg, hr⟩
 · exact .inl h0
 · refine .inr ⟨g, cap, cur, hv, hb, (hg.block g (Array.getElem?_eq_some_iff.1 hgg).1 (by omega) (fun cs' fz' e => by rw [hgg] at e; injection e with e; injection e with _ e _; exact ht e)).trans hgg, hr⟩
theorem kept_rows {R b : Nat} {w W0 : World} {v : Value} {lo : Rws} (h : OwnR b w v lo) (hR : R < b) (hg : KpR R w W0) : OwnR b W0 v lo := by
 obtain ⟨vs, h1, h2, h3⟩ := h; exact ⟨vs, kept_own h1 (by decide) hR hg, h2, fun i u l hu hl => kept_own (h3 i u l hu hl) (by decide) hR hg⟩
theorem heap_part (R C : Nat) (w : World) (n : Int) (A : Option Addr) (N c b : Nat) (lo : Rws) (hc : w.heap[C]? = some (.cells #[.int .i64 n, .slice A N c] 24)) (ho : OwnR b w (.slice A N c) lo) (hb : R < b) (hC : C ≠ R) : PartAt R w (.func (.func 115) #[] #[.pointer (some ⟨C, 0, none⟩)]) (fun q => { q with sl := n, ob := lo }) := by
 refine ⟨_, _, rfl, enters_of Tryz.func115 (by kernel_rfl) rfl, fun q => ⟨Nat.le_succ _, Nat.le_succ _⟩, fun W0 W B q hg hL _ _ => ?_⟩; obtain ⟨ob, rg, pg, pk, vr, vp, hL⟩ := hL; obtain ⟨hk, hlt⟩ := kept_block hc (by decide) hC hg hL.bw; have c0 := cell_of_block hk 0; have c1 := cell_of_block hk 1; clear hk; have HL := hide hL; have y := hL.bp.lt; have fz : ∀ i, W.frozen? ⟨B, i, none⟩ = false := fun i => unfrozen_of_block hL.bp.blk i
 have z8 := cell_of_block hL.bp.blk 8; have z9 := cell_of_block hL.bp.blk 9; have f8 := fz 8; have f9 := fz 9; have HG := hide (show OwnR (R + 1) W0 (.slice A N c) lo from OwnRows.le (kept_rows ho hb hg) (by omega)); have hb0 := hL.hB; have n1 : C < B := by omega
 clear hL hg hc ho fz; go_enter Tryz.func115, Tryz.ntmps115
 go_wp2; go_end0
 refine ⟨rfl, ⟨_, _, _, _, _, _, HL.out.set ((set_below _ _ _ _).trans (set_below _ _ _ _)) (fun b hb => (set_others _ _ _ _ b hb).trans (set_others _ _ _ _ b hb)) ⟨?_⟩ HG.out HL.out.pk rfl rfl⟩, (set_below _ _ _ _).trans (set_below _ _ _ _)⟩; have h := block_setCell HL.out.bp.blk (i := 8) (.int .i64 n); rw [block_setCell h]; rfl
theorem roots_part (R C : Nat) (w : World) (s : Nat) (hc : w.heap[C]? = some (.cells #[.int .u64 (s : Int)] 26)) (hC : C ≠ R) : PartAt R w (.func (.func 118) #[] #[.pointer (some ⟨C, 0, none⟩)]) (fun q => { q with ro := s }) := by
 refine ⟨_, _, rfl, enters_of Tryz.func118 (by kernel_rfl) rfl, fun q => ⟨Nat.le_succ _, Nat.le_succ _⟩, fun W0 W B q hg hL _ _ => ?_⟩; obtain ⟨ob, rg, pg, pk, vr, vp, hL⟩ := hL; obtain ⟨hk, hlt⟩ := kept_block hc (by decide) hC hg hL.bw; have c0 := cell_of_block hk 0; clear hk; have HL := hide hL; have y := hL.bp.lt; have fz : ∀ i, W.frozen? ⟨B, i, none⟩ = false := fun i => unfrozen_of_block hL.bp.blk i
 have z8 := cell_of_block hL.bp.blk 10; have f8 := fz 10; have hb0 := hL.hB; have n1 : C < B := by omega
 clear hL hg hc fz; go_enter Tryz.func118, Tryz.ntmps118
 go_wp2; go_end0
 refine ⟨rfl, ⟨_, _, _, _, _, _, HL.out.set (set_below _ _ _ _) (fun b hb => set_others _ _ _ _ b hb) ⟨?_⟩ HL.out.ob HL.out.pk rfl rfl⟩, set_below _ _ _ _⟩; rw [block_setCell HL.out.bp.blk]; rfl
theorem picks_part (R C : Nat) (w : World) (A : Option Addr) (N c b : Nat) (lk : List PP) (hN : lk.length = N) (hc : w.heap[C]? = some (.cells #[.slice A N c] 28)) (ho : w.ownsRow b 98 2 (.slice A N c) N (lk.flatMap pc)) (hb : R < b) (hC : C ≠ R) : PartAt R w (.func (.func 125) #[] #[.pointer (some ⟨C, 0, none⟩)]) (fun q => { q with pk := lk }) := by
 refine ⟨_, _, rfl, enters_of Tryz.func125 (by kernel_rfl) rfl, fun q => ⟨Nat.le_succ _, Nat.le_succ _⟩, fun W0 W B q hg hL _ _ => ?_⟩; obtain ⟨ob, rg, pg, pk, vr, vp, hL⟩ := hL; obtain ⟨hk, hlt⟩ := kept_block hc (by decide) hC hg hL.bw; have c0 := cell_of_block hk 0; clear hk; have HL := hide hL; have y := hL.bp.lt; have fz : ∀ i, W.frozen? ⟨B, i, none⟩ = false := fun i => unfrozen_of_block hL.bp.blk i
 have z8 := cell_of_block hL.bp.blk 13; have f8 := fz 13; have HK := hide (show W0.ownsRow (R + 1) 98 2 (.slice A N c) lk.length (lk.flatMap pc) by subst hN; exact own_base (kept_own ho (by decide) hb hg) (by omega)); have hb0 := hL.hB; have n1 : C < B := by omega
 clear hL hg hc ho fz; go_enter Tryz.func125, Tryz.ntmps125
 go_wp2; go_end0
 refine ⟨rfl, ⟨_, _, _, _, _, _, HL.out.set (set_below _ _ _ _) (fun b hb => set_others _ _ _ _ b hb) ⟨?_⟩ HL.out.ob HK.out rfl rfl⟩, set_below _ _ _ _⟩; rw [block_setCell HL.out.bp.blk]; rfl
structure Cn (C r : Nat) (cp : Nat) (x0 x1 x2 x3 x4 x5 x6 x7 : Int) (W : World) : Prop where
 c : W.cell? ⟨C, 0, none⟩ = some (.slice (some ⟨r, 0, none⟩) 8 cp)
 c0 : W.cell? ⟨r, 0, none⟩ = some (.int .i64 x0)
 c1 : W.cell? ⟨r, 1, none⟩ = some (.int .i64 x1)
 c2 : W.cell? ⟨r, 2, none⟩ = some (.int .i64 x2)
 c3 : W.cell? ⟨r, 3, none⟩ = some (.int .i64 x3)
 c4 : W.cell? ⟨r, 4, none⟩ = some (.int .i64 x4)
 c5 : W.cell? ⟨r, 5, none⟩ = some (.int .i64 x5)
 c6 : W.cell? ⟨r, 6, none⟩ = some (.int .i64 x6)
 c7 : W.cell? ⟨r, 7, none⟩ = some (.int .i64 x7)
section
variable {C r cp : Nat} {x0 x1 x2 x3 x4 x5 x6 x7 : Int} {W : World}
theorem Cn.drew (h : Cn C r cp x0 x1 x2 x3 x4 x5 x6 x7 W) : Cn C r cp x0 x1 x2 x3 x4 x5 x6 x7 W.drew := ⟨h.c, h.c0, h.c1, h.c2, h.c3, h.c4, h.c5, h.c6, h.c7⟩
theorem Cn.set {B : Nat} (h : Cn C r cp x0 x1 x2 x3 x4 x5 x6 x7 W) (hC : C < B) (hr : r < B) (i : Nat) (v : Value) : Cn C r cp x0 x1 x2 x3 x4 x5 x6 x7 (W.setCell ⟨B, i, none⟩ v) := by
 have kb : ∀ b o u, b < B → W.cell? ⟨b, o, none⟩ = some u → (W.setCell ⟨B, i, none⟩ v).cell? ⟨b, o, none⟩ = some u := fun b o u hb hu => ((set_below W B i v).cell (p := ⟨b, o, none⟩) hb).trans hu
 exact ⟨kb _ _ _ hC h.c, kb _ _ _ hr h.c0, kb _ _ _ hr h.c1, kb _ _ _ hr h.c2, kb _ _ _ hr h.c3, kb _ _ _ hr h.c4, kb _ _ _ hr h.c5, kb _ _ _ hr h.c6, kb _ _ _ hr h.c7⟩
theorem Cn.all (h : Cn C r cp x0 x1 x2 x3 x4 x5 x6 x7 W) : W.cell? ⟨C, 0, none⟩ = some (.slice (some ⟨r, 0, none⟩) 8 cp) ∧ W.cell? ⟨r, 0, none⟩ = some (.int .i64 x0) ∧ W.cell? ⟨r, 1, none⟩ = some (.int .i64 x1) ∧ W.cell? ⟨r, 2, none⟩ = some (.int .i64 x2) ∧ W.cell? ⟨r, 3, none⟩ = some (.int .i64 x3) ∧
 W.cell? ⟨r, 4, none⟩ = some (.int .i64 x4) ∧ W.cell? ⟨r, 5, none⟩ = some (.int .i64 x5) ∧ W.cell? ⟨r, 6, none⟩ = some (.int .i64 x6) ∧ W.cell? ⟨r, 7, none⟩ = some (.int .i64 x7) := ⟨h.c, h.c0, h.c1, h.c2, h.c3, h.c4, h.c5, h.c6, h.c7⟩
end
theorem eng_walk (C r cp B : Nat) (_hcp : 8 ≤ cp) (_hcm : cp ≤ 9223372036854775807) (x0 x1 x2 x3 x4 x5 x6 x7 : Int) (W : World) (hN : Cn C r cp x0 x1 x2 x3 x4 x5 x6 x7 W) (hC : C < B) (hr : r < B) (a b c d e f g h n : Int) (ob : Value) (s : Nat) (rg pg pk : Value) (X : W.heap[B]? = some (.cells (planC a b c d e f g h n ob s rg pg pk) 30)) :
 Calls Tryz.prog 110 #[.pointer (some ⟨B, 0, none⟩), .pointer (some ⟨C, 0, none⟩)] W fun e w' => e = .returned (.tuple #[]) ∧ w'.heap[B]? = some (.cells (planC x0 x1 x2 x3 x4 x5 x6 x7 n ob s rg pg pk) 30) ∧ Below B W w' ∧ ∀ j, j ≠ B → w'.heap[j]? = W.heap[j]? := by
 have HN := hide hN; have HX := hide X; clear hN X; go_enter Tryz.func110, Tryz.ntmps110
 have z0 := cell_of_block HX.out 0; have f0 := unfrozen_of_block HX.out 0; have z1 := cell_of_block HX.out 1; have f1 := unfrozen_of_block HX.out 1; go_wp2; refine wp_region_held_drew (S := fun w' => w'.cell? ⟨C, 0, none⟩ = some (.slice (some ⟨r, 0, none⟩) 8 cp) ∧ w'.cell? ⟨r, 0, none⟩ = some (.int .i64 x0) ∧ w'.cell? ⟨r, 1, none⟩ = some (.int .i64 x1) ∧ w'.cell? ⟨r, 2, none⟩ = some (.int .i64 x2) ∧ w'.cell? ⟨r, 3, none⟩ = some (.int .i64 x3) ∧ w'.cell? ⟨r, 4, none⟩ = some (.int .i64 x4) ∧ w'.cell? ⟨r, 5, none⟩ = some (.int .i64 x5) ∧ w'.cell? ⟨r, 6, none⟩ = some (.int .i64 x6) ∧ w'.cell? ⟨r, 7, none⟩ = some (.int .i64 x7)) (by kernel_rfl) ?_ (fun hHeld => ?_)
 · exact (by first | (with_reducible exact (HN.out.drew).all) | (with_reducible exact ((HN.out.drew.set hC hr _ _)).all) | (with_reducible exact (((HN.out.drew.set hC hr _ _).set hC hr _ _)).all) | (with_reducible exact ((HN.out.set hC hr _ _).drew).all) | (with_reducible exact (((HN.out.set hC hr _ _).set hC hr _ _).drew).all))
 refine tk 0 ?_; refine tk 1 ?_; refine tk 2 ?_; refine tk 3 ?_; refine tk 4 ?_; refine tk 5 ?_; refine tk 6 ?_; refine tk 7 ?_; refine tk 8 ?_; refine tk 9 ?_; refine r1 10 (fun K hK => ?_); go_simp; (try go_simp); refine go_ hK (by first | (with_reducible exact (HN.out.drew).all) | (with_reducible exact ((HN.out.drew.set hC hr _ _)).all) | (with_reducible exact (((HN.out.drew.set hC hr _ _).set hC hr _ _)).all) | (with_reducible exact ((HN.out.set hC hr _ _).drew).all) | (with_reducible exact (((HN.out.set hC hr _ _).set hC hr _ _).drew).all)) (fun hHeld => ?_); refine tk 11 ?_; refine tk 12 ?_; refine r1 13 (fun K hK => ?_); go_simp; (try go_simp); refine go_ hK (by first | (with_reducible exact (HN.out.drew).all) | (with_reducible exact ((HN.out.drew.set hC hr _ _)).all) | (with_reducible exact (((HN.out.drew.set hC hr _ _).set hC hr _ _)).all) | (with_reducible exact ((HN.out.set hC hr _ _).drew).all) | (with_reducible exact (((HN.out.set hC hr _ _).set hC hr _ _).drew).all)) (fun hHeld => ?_); refine wpAnyH_done (by kernel_rfl) ?_ _; go_wp2; clear z0 f0 z1 f1; go_name_world W1 e1
 replace HX := hide (show W1.heap[B]? = some (.cells (planC x0 x1 c d e f g h n ob s rg pg pk) 30) by rw [← e1]; exact (block_setCell (block_setCell HX.out (i := 0) (.int .i64 x0)) (i := 1) (.int .i64 x1))); replace HN := hide (show Cn C r cp x0 x1 x2 x3 x4 x5 x6 x7 W1 by rw [← e1]; exact (((HN.out.set hC hr _ _).set hC hr _ _)).drew); have hbx : Below B W W1 := by rw [← e1]; exact belowD (((Below.refl B _).setCell (p := ⟨B, 0, none⟩) (Nat.le_refl B) (.int .i64 x0)).setCell (p := ⟨B, 1, none⟩) (Nat.le_refl B) (.int .i64 x1))
 have hox : ∀ j, j ≠ B → W1.heap[j]? = W.heap[j]? := fun j hj => by rw [← e1]; exact ((set_others _ B 1 _ j hj).trans ((set_others _ B 0 _ j hj).trans rfl))
 have HB := hide hbx; have HO := hide hox; clear hbx hox e1; have z2 := cell_of_block HX.out 2; have f2 := unfrozen_of_block HX.out 2; have z3 := cell_of_block HX.out 3; have f3 := unfrozen_of_block HX.out 3; have z4 := cell_of_block HX.out 4; have f4 := unfrozen_of_block HX.out 4; have z5 := cell_of_block HX.out 5; have f5 := unfrozen_of_block HX.out 5; go_wp2; refine wp_region_held_drew (S := fun w' => w'.cell? ⟨C, 0, none⟩ = some (.slice (some ⟨r, 0, none⟩) 8 cp) ∧ w'.cell? ⟨r, 0, none⟩ = some (.int .i64 x0) ∧ w'.cell? ⟨r, 1, none⟩ = some (.int .i64 x1) ∧ w'.cell? ⟨r, 2, none⟩ = some (.int .i64 x2) ∧ w'.cell? ⟨r, 3, none⟩ = some (.int .i64 x3) ∧ w'.cell? ⟨r, 4, none⟩ = some (.int .i64 x4) ∧ w'.cell? ⟨r, 5, none⟩ = some (.int .i64 x5) ∧ w'.cell? ⟨r, 6, none⟩ = some (.int .i64 x6) ∧ w'.cell? ⟨r, 7, none⟩ = some (.int .i64 x7)) (by kernel_rfl) ?_ (fun hHeld => ?_)
 · exact (by first | (with_reducible exact (HN.out.drew).all) | (with_reducible exact ((HN.out.drew.set hC hr _ _)).all) | (with_reducible exact (((HN.out.drew.set hC hr _ _).set hC hr _ _)).all) | (with_reducible exact ((((HN.out.drew.set hC hr _ _).set hC hr _ _).set hC hr _ _)).all) | (with_reducible exact (((((HN.out.drew.set hC hr _ _).set hC hr _ _).set hC hr _ _).set hC hr _ _)).all) | (with_reducible exact ((HN.out.set hC hr _ _).drew).all) | (with_reducible exact (((HN.out.set hC hr _ _).set hC hr _ _).drew).all) | (with_reducible exact ((((HN.out.set hC hr _ _).set hC hr _ _).set hC hr _ _).drew).all) | (with_reducible exact (((((HN.out.set hC hr _ _).set hC hr _ _).set hC hr _ _).set hC hr _ _).drew).all))
 refine tk 0 ?_; refine tk 1 ?_; refine tk 2 ?_; refine tk 3 ?_; refine tk 4 ?_; refine tk 5 ?_; refine tk 6 ?_; refine tk 7 ?_; refine tk 8 ?_; refine tk 9 ?_; refine tk 10 ?_; refine tk 11 ?_; refine tk 12 ?_; refine tk 13 ?_; refine tk 14 ?_; refine tk 15 ?_; refine tk 16 ?_; refine tk 17 ?_; refine r1 18 (fun K hK => ?_); go_simp; (try go_simp); refine go_ hK (by first | (with_reducible exact (HN.out.drew).all) | (with_reducible exact ((HN.out.drew.set hC hr _ _)).all) | (with_reducible exact (((HN.out.drew.set hC hr _ _).set hC hr _ _)).all) | (with_reducible exact ((((HN.out.drew.set hC hr _ _).set hC hr _ _).set hC hr _ _)).all) | (with_reducible exact (((((HN.out.drew.set hC hr _ _).set hC hr _ _).set hC hr _ _).set hC hr _ _)).all) | (with_reducible exact ((HN.out.set hC hr _ _).drew).all) | (with_reducible exact (((HN.out.set hC hr _ _).set hC hr _ _).drew).all) | (with_reducible exact ((((HN.out.set hC hr _ _).set hC hr _ _).set hC hr _ _).drew).all) | (with_reducible exact (((((HN.out.set hC hr _ _).set hC hr _ _).set hC hr _ _).set hC hr _ _).drew).all)) (fun hHeld => ?_); refine tk 19 ?_; refine tk 20 ?_; refine r1 21 (fun K hK => ?_); go_simp; (try go_simp); refine go_ hK (by first | (with_reducible exact (HN.out.drew).all) | (with_reducible exact ((HN.out.drew.set hC hr _ _)).all) | (with_reducible exact (((HN.out.drew.set hC hr _ _).set hC hr _ _)).all) | (with_reducible exact ((((HN.out.drew.set hC hr _ _).set hC hr _ _).set hC hr _ _)).all) | (with_reducible exact (((((HN.out.drew.set hC hr _ _).set hC hr _ _).set hC hr _ _).set hC hr _ _)).all) | (with_reducible exact ((HN.out.set hC hr _ _).drew).all) | (with_reducible exact (((HN.out.set hC hr _ _).set hC hr _ _).drew).all) | (with_reducible exact ((((HN.out.set hC hr _ _).set hC hr _ _).set hC hr _ _).drew).all) | (with_reducible exact (((((HN.out.set hC hr _ _).set hC hr _ _).set hC hr _ _).set hC hr _ _).drew).all)) (fun hHeld => ?_); refine tk 22 ?_; refine tk 23 ?_; refine r1 24 (fun K hK => ?_); go_simp; (try go_simp); refine go_ hK (by first | (with_reducible exact (HN.out.drew).all) | (with_reducible exact ((HN.out.drew.set hC hr _ _)).all) | (with_reducible exact (((HN.out.drew.set hC hr _ _).set hC hr _ _)).all) | (with_reducible exact ((((HN.out.drew.set hC hr _ _).set hC hr _ _).set hC hr _ _)).all) | (with_reducible exact (((((HN.out.drew.set hC hr _ _).set hC hr _ _).set hC hr _ _).set hC hr _ _)).all) | (with_reducible exact ((HN.out.set hC hr _ _).drew).all) | (with_reducible exact (((HN.out.set hC hr _ _).set hC hr _ _).drew).all) | (with_reducible exact ((((HN.out.set hC hr _ _).set hC hr _ _).set hC hr _ _).drew).all) | (with_reducible exact (((((HN.out.set hC hr _ _).set hC hr _ _).set hC hr _ _).set hC hr _ _).drew).all)) (fun hHeld => ?_); refine tk 25 ?_; refine tk 26 ?_; refine r1 27 (fun K hK => ?_); go_simp; (try go_simp); refine go_ hK (by first | (with_reducible exact (HN.out.drew).all) | (with_reducible exact ((HN.out.drew.set hC hr _ _)).all) | (with_reducible exact (((HN.out.drew.set hC hr _ _).set hC hr _ _)).all) | (with_reducible exact ((((HN.out.drew.set hC hr _ _).set hC hr _ _).set hC hr _ _)).all) | (with_reducible exact (((((HN.out.drew.set hC hr _ _).set hC hr _ _).set hC hr _ _).set hC hr _ _)).all) | (with_reducible exact ((HN.out.set hC hr _ _).drew).all) | (with_reducible exact (((HN.out.set hC hr _ _).set hC hr _ _).drew).all) | (with_reducible exact ((((HN.out.set hC hr _ _).set hC hr _ _).set hC hr _ _).drew).all) | (with_reducible exact (((((HN.out.set hC hr _ _).set hC hr _ _).set hC hr _ _).set hC hr _ _).drew).all)) (fun hHeld => ?_); refine wpAnyH_done (by kernel_rfl) ?_ _; go_wp2; clear z2 f2 z3 f3 z4 f4 z5 f5; go_name_world W2 e2
 replace HX := hide (show W2.heap[B]? = some (.cells (planC x0 x1 x2 x3 x4 x5 g h n ob s rg pg pk) 30) by rw [← e2]; exact (block_setCell (block_setCell (block_setCell (block_setCell HX.out (i := 2) (.int .i64 x2)) (i := 3) (.int .i64 x3)) (i := 4) (.int .i64 x4)) (i := 5) (.int .i64 x5))); replace HN := hide (show Cn C r cp x0 x1 x2 x3 x4 x5 x6 x7 W2 by rw [← e2]; exact (((((HN.out.set hC hr _ _).set hC hr _ _).set hC hr _ _).set hC hr _ _)).drew); have hbx : Below B W1 W2 := by rw [← e2]; exact belowD (((((Below.refl B _).setCell (p := ⟨B, 2, none⟩) (Nat.le_refl B) (.int .i64 x2)).setCell (p := ⟨B, 3, none⟩) (Nat.le_refl B) (.int .i64 x3)).setCell (p := ⟨B, 4, none⟩) (Nat.le_refl B) (.int .i64 x4)).setCell (p := ⟨B, 5, none⟩) (Nat.le_refl B) (.int .i64 x5))
 have hox : ∀ j, j ≠ B → W2.heap[j]? = W1.heap[j]? := fun j hj => by rw [← e2]; exact ((set_others _ B 5 _ j hj).trans ((set_others _ B 4 _ j hj).trans ((set_others _ B 3 _ j hj).trans ((set_others _ B 2 _ j hj).trans rfl))))
 replace HB := hide (HB.out.trans hbx); replace HO := hide (fun j hj => (hox j hj).trans (HO.out j hj)); clear hbx hox e2; have z6 := cell_of_block HX.out 6; have f6 := unfrozen_of_block HX.out 6; have z7 := cell_of_block HX.out 7; have f7 := unfrozen_of_block HX.out 7; go_wp2; refine wp_region_held_drew (S := fun w' => w'.cell? ⟨C, 0, none⟩ = some (.slice (some ⟨r, 0, none⟩) 8 cp) ∧ w'.cell? ⟨r, 0, none⟩ = some (.int .i64 x0) ∧ w'.cell? ⟨r, 1, none⟩ = some (.int .i64 x1) ∧ w'.cell? ⟨r, 2, none⟩ = some (.int .i64 x2) ∧ w'.cell? ⟨r, 3, none⟩ = some (.int .i64 x3) ∧ w'.cell? ⟨r, 4, none⟩ = some (.int .i64 x4) ∧ w'.cell? ⟨r, 5, none⟩ = some (.int .i64 x5) ∧ w'.cell? ⟨r, 6, none⟩ = some (.int .i64 x6) ∧ w'.cell? ⟨r, 7, none⟩ = some (.int .i64 x7)) (by kernel_rfl) ?_ (fun hHeld => ?_)
 · exact (by first | (with_reducible exact (HN.out.drew).all) | (with_reducible exact ((HN.out.drew.set hC hr _ _)).all) | (with_reducible exact (((HN.out.drew.set hC hr _ _).set hC hr _ _)).all) | (with_reducible exact ((HN.out.set hC hr _ _).drew).all) | (with_reducible exact (((HN.out.set hC hr _ _).set hC hr _ _).drew).all))
 refine tk 0 ?_; refine tk 1 ?_; refine tk 2 ?_; refine tk 3 ?_; refine tk 4 ?_; refine tk 5 ?_; refine tk 6 ?_; refine tk 7 ?_; refine tk 8 ?_; refine tk 9 ?_; refine r1 10 (fun K hK => ?_); go_simp; (try go_simp); refine go_ hK (by first | (with_reducible exact (HN.out.drew).all) | (with_reducible exact ((HN.out.drew.set hC hr _ _)).all) | (with_reducible exact (((HN.out.drew.set hC hr _ _).set hC hr _ _)).all) | (with_reducible exact ((HN.out.set hC hr _ _).drew).all) | (with_reducible exact (((HN.out.set hC hr _ _).set hC hr _ _).drew).all)) (fun hHeld => ?_); refine tk 11 ?_; refine tk 12 ?_; refine r1 13 (fun K hK => ?_); go_simp; (try go_simp); refine go_ hK (by first | (with_reducible exact (HN.out.drew).all) | (with_reducible exact ((HN.out.drew.set hC hr _ _)).all) | (with_reducible exact (((HN.out.drew.set hC hr _ _).set hC hr _ _)).all) | (with_reducible exact ((HN.out.set hC hr _ _).drew).all) | (with_reducible exact (((HN.out.set hC hr _ _).set hC hr _ _).drew).all)) (fun hHeld => ?_); refine wpAnyH_done (by kernel_rfl) ?_ _; go_wp2; go_end0
 exact ⟨rfl, (block_setCell (block_setCell HX.out (i := 6) (.int .i64 x6)) (i := 7) (.int .i64 x7)), HB.out.trans (belowD (((Below.refl B _).setCell (p := ⟨B, 6, none⟩) (Nat.le_refl B) (.int .i64 x6)).setCell (p := ⟨B, 7, none⟩) (Nat.le_refl B) (.int .i64 x7))), fun j hj => (((set_others _ B 7 _ j hj).trans ((set_others _ B 6 _ j hj).trans rfl))).trans (HO.out j hj)⟩
