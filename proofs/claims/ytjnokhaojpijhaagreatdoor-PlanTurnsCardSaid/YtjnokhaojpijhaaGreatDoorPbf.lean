import Derived.Test.YtjnokhaojpijhaaGreatDoorPbe
import Derived.Test.YtjnokhaojpijhaaGreatDoorPba
import Derived.Test.YtjnokhaojpijhaaGreatDoorPaa
import Derived.Test.YtjnokhaojpijhaaGreatDoorPbc
/- Layer plan: the program's Same, all cases together. Written by tools/genplanr6.py. -/
namespace Go.Proofs.YtjnokhaojpijhaaGreatDoor
open Go.RowKit Go.Joins
theorem pSame_parts (a b c d e f g h n : Int) (s : Nat) (lo lr : Rws) (lp : List (List Oq)) (lk : List PP) (a' b' c' d' e' f' g' h' n' : Int) (s' : Nat) (lo' lr' : Rws) (lp' : List (List Oq)) (lk' : List PP) :
    decide ((⟨a, b, c, d, e, f, g, h, n, lo, s, lr, lp, lk⟩ : Pq) = ⟨a', b', c', d', e', f', g', h', n', lo', s', lr', lp', lk'⟩) = (decide ([a, b, c, d, e, f, g, h] = [a', b', c', d', e', f', g', h']) && (sameF n lo n' lo' && (decide (s = s') && (decide (lr = lr') && (decide (lp = lp') && (decide (lk = lk'))))))) := by
  rw [Bool.eq_iff_iff]
  simp only [decide_eq_true_eq, Bool.and_eq_true, sameF, Pq.mk.injEq, List.cons.injEq, and_true]
  constructor
  · rintro ⟨h1, h2, h3, h4, h5, h6, h7, h8, h9, h10, h11, h12, h13, h14⟩; exact ⟨⟨h1, h2, h3, h4, h5, h6, h7, h8⟩, ⟨h9, h10⟩, h11, h12, h13, h14⟩
  · rintro ⟨⟨h1, h2, h3, h4, h5, h6, h7, h8⟩, ⟨h9, h10⟩, h11, h12, h13, h14⟩; exact ⟨h1, h2, h3, h4, h5, h6, h7, h8, h9, h10, h11, h12, h13, h14⟩
theorem pSame_any (a b c d e f g h n : Int) (ob : Value) (s : Nat) (rg pg pk : Value) (p : Pq) (a' b' c' d' e' f' g' h' n' : Int) (ob' : Value) (s' : Nat) (rg' pg' pk' : Value) (q : Pq) (w : World) (hp : PlanR w ob rg pg pk p) (hq : PlanR w ob' rg' pg' pk' q) (ep : p = ⟨a, b, c, d, e, f, g, h, n, p.ob, s, p.rg, p.pg, p.pk⟩) (eq : q = ⟨a', b', c', d', e', f', g', h', n', q.ob, s', q.rg, q.pg, q.pk⟩) (r : Bool) (hr : decide (p = q) = r) :
    Calls Tryz.prog 14 #[planV a b c d e f g h n ob s rg pg pk, planV a' b' c' d' e' f' g' h' n' ob' s' rg' pg' pk'] w fun x w' => x = .returned (.bool r) ∧ Below w.heap.size w w' := by
  obtain ⟨a0, b0, c0, d0, e0, f0, g0, h0, n0, lo, s0, lr, lp, lk⟩ := p
  obtain ⟨a1, b1, c1, d1, e1, f1, g1, h1, n1, lo', s1, lr', lp', lk'⟩ := q
  rw [Pq.mk.injEq] at ep eq
  obtain ⟨p1, p2, p3, p4, p5, p6, p7, p8, p9, -, p10, -⟩ := ep
  obtain ⟨q1, q2, q3, q4, q5, q6, q7, q8, q9, -, q10, -⟩ := eq
  subst p1 p2 p3 p4 p5 p6 p7 p8 p9 p10 q1 q2 q3 q4 q5 q6 q7 q8 q9 q10
  rw [pSame_parts] at hr
  obtain ⟨w1, E1, hb1, hs1, X⟩ := bp_new w a0 b0 c0 d0 e0 f0 g0 h0 n0 ob s0 rg pg pk 30
  obtain ⟨w2, E2, hb2, hs2, Y⟩ := bp_new w1 a1 b1 c1 d1 e1 f1 g1 h1 n1 ob' s1 rg' pg' pk' 30
  rw [hs1] at Y
  rw [← E1] at E2
  have HE := hide E2
  have hb12 := bcall hb1 hb2
  have HB2 := hide hb12
  have HX := hide (X.below hb2)
  have HY := hide Y
  clear E1
  have HP := hide (hp.below hb12)
  have HR := hide (hq.below hb12)
  cases k0 : decide ([a0, b0, c0, d0, e0, f0, g0, h0] = [a1, b1, c1, d1, e1, f1, g1, h1])
  · obtain rfl : r = false := by rw [← hr, k0]; rfl
    exact pSame_0 _ _ _ _ _ _ _ _ _ _ _ _ _ _ _ _ _ _ _ _ _ _ _ _ _ _ _ _ _ _ _ _ _ _ _ _ w w2 HE HB2 HX HY HP HR (hide k0)
  cases k1 : sameF n0 lo n1 lo'
  · obtain rfl : r = false := by rw [← hr, k0, k1]; rfl
    exact pSame_1 _ _ _ _ _ _ _ _ _ _ _ _ _ _ _ _ _ _ _ _ _ _ _ _ _ _ _ _ _ _ _ _ _ _ _ _ w w2 HE HB2 HX HY HP HR (hide k0) (hide k1)
  cases k2 : decide (s0 = s1)
  · obtain rfl : r = false := by rw [← hr, k0, k1, k2]; rfl
    exact pSame_2 _ _ _ _ _ _ _ _ _ _ _ _ _ _ _ _ _ _ _ _ _ _ _ _ _ _ _ _ _ _ _ _ _ _ _ _ w w2 HE HB2 HX HY HP HR (hide k0) (hide k1) (hide k2)
  cases k3 : decide (lr = lr')
  · obtain rfl : r = false := by rw [← hr, k0, k1, k2, k3]; rfl
    exact pSame_3 _ _ _ _ _ _ _ _ _ _ _ _ _ _ _ _ _ _ _ _ _ _ _ _ _ _ _ _ _ _ _ _ _ _ _ _ w w2 HE HB2 HX HY HP HR (hide k0) (hide k1) (hide k2) (hide k3)
  cases k4 : decide (lp = lp')
  · obtain rfl : r = false := by rw [← hr, k0, k1, k2, k3, k4]; rfl
    exact pSame_4 _ _ _ _ _ _ _ _ _ _ _ _ _ _ _ _ _ _ _ _ _ _ _ _ _ _ _ _ _ _ _ _ _ _ _ _ w w2 HE HB2 HX HY HP HR (hide k0) (hide k1) (hide k2) (hide k3) (hide k4)
  cases k5 : decide (lk = lk')
  · obtain rfl : r = false := by rw [← hr, k0, k1, k2, k3, k4, k5]; rfl
    exact pSame_5 _ _ _ _ _ _ _ _ _ _ _ _ _ _ _ _ _ _ _ _ _ _ _ _ _ _ _ _ _ _ _ _ _ _ _ _ w w2 HE HB2 HX HY HP HR (hide k0) (hide k1) (hide k2) (hide k3) (hide k4) (hide k5)
  obtain rfl : r = true := by rw [← hr, k0, k1, k2, k3, k4, k5]; rfl
  exact pSame_6 _ _ _ _ _ _ _ _ _ _ _ _ _ _ _ _ _ _ _ _ _ _ _ _ _ _ _ _ _ _ _ _ _ _ _ _ w w2 HE HB2 HX HY HP HR (hide k0) (hide k1) (hide k2) (hide k3) (hide k4) (hide k5)
end Go.Proofs.YtjnokhaojpijhaaGreatDoor
/- Layer plan: numbersIn. Written by tools/genplanr1.py. -/
namespace Go.Proofs.YtjnokhaojpijhaaGreatDoor
open Go.RowKit Go.Shelf Go.Proofs
attribute [local go_sem] Oper.semAt_some
/-- where numbersIn stands between two rounds -/
structure NumsAt (c : UInt8) (w : World) (acc : List Int) (v x : Value) (rec : Loop) (W : World) : Prop where
  bl : Boxed W w.heap.size 63 v
  row : W.ownsRow (w.heap.size + 6) 3 1 v acc.length (acc.flatMap ic)
  bs : Boxed W (w.heap.size + 1) 9 x
  bp : Boxed W (w.heap.size + 2) 9 (.string ⟨#[c]⟩)
  bv : Boxed W (w.heap.size + 3) 3 (.int .i64 0)
  df : W.heap[w.heap.size + 4]? = some (.deferred (some []))
  lp : W.heap[w.heap.size + 5]? = some (.loop rec)
  bw : Below w.heap.size w W
section
variable {c : UInt8} {w W : World} {acc : List Int} {v x : Value} {rec : Loop}
theorem NumsAt.setS (h : NumsAt c w acc v x rec W) (y : Value) : NumsAt c w acc v y rec (W.setCell ⟨w.heap.size + 1, 0, none⟩ y) :=
  have ko := KeepsOthers.setCell W ⟨w.heap.size + 1, 0, none⟩ y
  ⟨h.bl.other (by omega) y, h.row.kept (grownBy_setCell' W _ y) (Or.inr (h.bs.not_row (by decide) h.row).symm), h.bs.set y, h.bp.other (by omega) y, h.bv.other (by omega) y,
    ko.same _ _ h.df rfl, ko.same _ _ h.lp rfl, h.bw.setCell (p := ⟨w.heap.size + 1, 0, none⟩) (by simp) y⟩
theorem NumsAt.putL (h : NumsAt c w acc v x rec W) (rec' : Loop) : NumsAt c w acc v x rec' (W.putObj (w.heap.size + 5) (.loop rec')) :=
  have g := grownBy_putObj' W (w.heap.size + 5) (.loop rec')
  have hn : ∀ B : Nat, B ≠ w.heap.size + 5 → some B ≠ some (w.heap.size + 5) := fun B hB e => hB (by injection e)
  ⟨h.bl.kept g (hn _ (by omega)), ownsRow_putObj h.row _ h.lp rfl, h.bs.kept g (hn _ (by omega)), h.bp.kept g (hn _ (by omega)), h.bv.kept g (hn _ (by omega)),
    (World.putObj_heap_other (by omega)).trans h.df, World.putObj_heap_same (Array.getElem?_eq_some_iff.1 h.lp).1, h.bw.grown g h.bw.size (fun j e => by injection e with e; omega)⟩
theorem NumsAt.below {W' : World} (h : NumsAt c w acc v x rec W) (hb : Below W.heap.size W W') : NumsAt c w acc v x rec W' :=
  have g := grown_of_below hb none
  ⟨h.bl.kept g (by simp), h.row.kept g (by cases v.ownBlock <;> simp), h.bs.kept g (by simp), h.bp.kept g (by simp), h.bv.kept g (by simp),
    (hb.block _ (Array.getElem?_eq_some_iff.1 h.df).1).trans h.df, (hb.block _ (Array.getElem?_eq_some_iff.1 h.lp).1).trans h.lp, bcall h.bw hb⟩
theorem NumsAt.drew (h : NumsAt c w acc v x rec W) : NumsAt c w acc v x rec W.drew := h.below ⟨rfl, rfl, rfl, Nat.le_refl _, fun _ _ => rfl⟩
theorem NumsAt.size (h : NumsAt c w acc v x rec W) : w.heap.size + 6 ≤ W.heap.size := (Array.getElem?_eq_some_iff.1 h.lp).1
theorem NumsAt.app {w1 : World} {v' : Value} {tmp : Obj} {q : Int} (h : NumsAt c w acc v x rec W) {n : Nat} (hk : acc.length = n)
    (hown : w1.ownsRow (w.heap.size + 6) 3 1 v' (n + 1) (acc.flatMap ic ++ [.int .i64 q])) (hgrow : (W.alloc tmp).grownBy w1 v.ownBlock) :
    w1.cell? ⟨w.heap.size, 0, none⟩ = some v ∧ w1.frozen? ⟨w.heap.size, 0, none⟩ = false ∧ NumsAt c w (acc ++ [q]) v' x rec (w1.setCell ⟨w.heap.size, 0, none⟩ v') := by
  subst hk
  have hge := own_ge h.row
  obtain ⟨hv1, hv2, hr2, hk2, hb2⟩ := h.bl.appended (by decide) (own_base h.row (show w.heap.size ≤ _ by omega)) h.bw.size (Nat.le_refl _) (own_base hown (by omega)) hgrow
  have keep : ∀ {B : Nat} {t : TypeId} {u : Value}, Boxed W B t u → B ≠ w.heap.size → B < w.heap.size + 6 → Boxed (w1.setCell ⟨w.heap.size, 0, none⟩ v') B t u := fun {B t u} hB hne hlt => ((hB.alloc tmp).kept hgrow (fun e => by have := hge B e.symm; omega)).other hne _
  refine ⟨hv1.cell, hv1.frozen, ⟨hv2, ?_, keep h.bs (by omega) (by omega), keep h.bp (by omega) (by omega), keep h.bv (by omega) (by omega), hk2.same _ _ h.df rfl, hk2.same _ _ h.lp rfl, h.bw.trans hb2⟩⟩
  have hr3 := hown.kept (grownBy_setCell' w1 w.heap.size v') (.inr fun e => by have := own_ge hown _ e; omega)
  rw [List.length_append, List.flatMap_append]
  simpa [ic] using hr3
end
theorem nums_start (c : UInt8) (w : World) (s : ByteArray) : ∃ W4, ((((w.alloc (.cells #[.slice none 0 0] 63)).alloc (.cells #[.string s] 9)).alloc (.cells #[.string ⟨#[c]⟩] 9)).alloc (.cells #[.int .i64 0] 3)) = W4 ∧ W4.heap.size = w.heap.size + 4 ∧
    ∀ rec, NumsAt c w [] (.slice none 0 0) (.string s) rec ((W4.alloc (.deferred (some []))).alloc (.loop rec)) := by
  refine ⟨_, rfl, by simp, fun rec => ?_⟩
  have b0 := ((((Boxed.new w 63 (.slice none 0 0)).alloc (.cells #[.string s] 9)).alloc (.cells #[.string ⟨#[c]⟩] 9)).alloc (.cells #[.int .i64 0] 3))
  have b1 := (((Boxed.new (w.alloc (.cells #[.slice none 0 0] 63)) 9 (.string s)).alloc (.cells #[.string ⟨#[c]⟩] 9)).alloc (.cells #[.int .i64 0] 3))
  have b2 := ((Boxed.new ((w.alloc (.cells #[.slice none 0 0] 63)).alloc (.cells #[.string s] 9)) 9 (.string ⟨#[c]⟩)).alloc (.cells #[.int .i64 0] 3))
  have b3 := (Boxed.new (((w.alloc (.cells #[.slice none 0 0] 63)).alloc (.cells #[.string s] 9)).alloc (.cells #[.string ⟨#[c]⟩] 9)) 3 (.int .i64 0))
  simp only [World.size_alloc] at b1 b2 b3
  obtain ⟨W4, hW⟩ : ∃ W4, ((((w.alloc (.cells #[.slice none 0 0] 63)).alloc (.cells #[.string s] 9)).alloc (.cells #[.string ⟨#[c]⟩] 9)).alloc (.cells #[.int .i64 0] 3)) = W4 := ⟨_, rfl⟩
  have hs : W4.heap.size = w.heap.size + 4 := by rw [← hW]; simp
  have hB : Below w.heap.size w W4 := by
    rw [← hW]
    exact ((((Below.refl _ w).alloc (Nat.le_refl _) _).alloc (by simp) _).alloc (by simp; omega) _).alloc (by simp; omega) _
  rw [hW] at b0 b1 b2 b3 ⊢
  have d0 : ((W4.alloc (.deferred (some []))).alloc (.loop rec)).heap[w.heap.size + 4]? = some (.deferred (some [])) := by rw [← hs]; exact (Below.heap_alloc _ _ _ (by simp)).trans (World.alloc_heap_new W4 _)
  have d1 : ((W4.alloc (.deferred (some []))).alloc (.loop rec)).heap[w.heap.size + 5]? = some (.loop rec) := by
    have := World.alloc_heap_new (W4.alloc (.deferred (some []))) (.loop rec)
    rw [World.size_alloc, hs] at this; exact this
  exact ⟨(b0.alloc _).alloc _, World.ownsRow_nil _ _ _ _, (b1.alloc _).alloc _, (b2.alloc _).alloc _, (b3.alloc _).alloc _, d0, d1, (hB.alloc (by omega) _).alloc (by simp; omega) _⟩
/-- the pieces read so far are numbers -/
def NumsF (pre : List B8) (acc : List Int) : Prop := acc = pre.map numN ∧ ∀ p ∈ pre, 0 ≤ numN p
theorem numsF_end {pre : List B8} {p : B8} {acc : List Int} {q : Int} (h : NumsF pre acc) (hq : numN p = q) (h0 : ¬ q < 0) : NumsF (pre ++ [p]) (acc ++ [q]) := by
  obtain ⟨rfl, h2⟩ := h
  refine ⟨by rw [List.map_append, ← hq]; rfl, fun x hx => ?_⟩
  rcases List.mem_append.1 hx with hx | hx
  · exact h2 x hx
  · rw [List.mem_singleton] at hx; subst hx; omega
theorem listF_bad {c : UInt8} {s p : B8} (hp : p ∈ cut c s) (h : numN p < 0) : listFPl c s = none := by
  unfold listFPl
  rw [if_neg]
  rw [List.all_eq_true]
  intro ha
  have := ha (numN p) (List.mem_map_of_mem hp)
  rw [decide_eq_true_eq] at this
  omega
theorem listF_ok {c : UInt8} {s : B8} {acc : List Int} (h : NumsF (cut c s) acc) : listFPl c s = some acc := by
  obtain ⟨rfl, h2⟩ := h
  unfold listFPl
  rw [if_pos]
  rw [List.all_eq_true]
  intro x hx
  obtain ⟨p, hp, rfl⟩ := List.mem_map.1 hx
  rw [decide_eq_true_eq]
  exact h2 p hp
/-- the panic of a number that is none -/
def ch2 : List PanicEntry := [{ v := .iface 33 (.int .i64 2), recovered := false }]
/-- how a round ends -/
def NumsX (c : UInt8) (w : World) (acc : List Int) (v xx : Value) (rec : Loop) (q : Int) (e : Exit) (a3 : Act) (W3 : World) : Prop :=
  (e = .normal ∧ ¬ q < 0 ∧ ∃ v', NumsAt c w (acc ++ [q]) v' xx rec W3) ∨ ∃ ch, e = .panic ch ∧ a3.defers = [] ∧ ch = ch2 ∧ q < 0 ∧ NumsAt c w acc v xx rec W3
/-- the loop, from its body's walk -/
theorem nums_loop {tmps : Array Value} {assign body : Code} (c : UInt8) (act : ByteArray → Act) (w W4 : World) (t0 : ByteArray) (hs : t0.size ≤ 281474976710656) (h4 : W4.heap.size = w.heap.size + 4)
    (h0 : ∀ rec, NumsAt c w [] (.slice none 0 0) (.string t0) rec ((W4.alloc (.deferred (some []))).alloc (.loop rec)))
    (ha : ∀ (l : Nat) (x : ByteArray) (W : World) (K : Act → World → Prop), K (act x) W → assign.wpIn (Fence.wide.inRound l) 3 Tryz.prog (Exit.then K (fun _ _ _ => False)) { tmps := (#[10].zip #[Value.string x]).foldl (fun t (p, v) => t.setIfInBounds p v) tmps, defers := [] } W)
    (hb : ∀ (l : Nat) (acc : List Int) (v xx : Value) (rec : Loop) (x : ByteArray) (W : World), NumsAt c w acc v xx rec W → acc.length ≤ t0.size → x.size ≤ 281474976710656 →
      body.wpIn (Fence.wide.inRound l) 3 Tryz.prog (NumsX c w acc v xx rec (numN x.data.toList)) (act x) W) :
    CallsIn Fence.wide 0 Tryz.prog 205 (#[.func (.yield (W4.heap.size + 1)) #[] #[]] ++ #[.pointer (some ⟨w.heap.size + 2, 0, none⟩), .pointer (some ⟨w.heap.size + 1, 0, none⟩), .pointer (some ⟨w.heap.size + 3, 0, none⟩)])
      ((W4.alloc (.deferred (some []))).alloc (.loop { state := .ready, pending := none, fn := 121, tmps := tmps, params := #[10], assign := assign, body := body, defers := W4.heap.size }))
      (fun e w3 => ((∃ v, e = .returned v) ∧ ∃ acc v x rec, NumsF (cut c t0.data.toList) acc ∧ rec.state = .ready ∧ rec.pending = none ∧ NumsAt c w acc v x rec w3) ∨
        ∃ ch, e = .panicked ch ∧ ch = ch2 ∧ listFPl c t0.data.toList = none ∧ w3.heap[w.heap.size + 4]? = some (.deferred (some [])) ∧ Below w.heap.size w w3) := by
  obtain ⟨rec, hrec⟩ : ∃ rec : LoopState → Loop, rec = fun st => { state := st, pending := none, fn := 121, tmps := tmps, params := #[10], assign := assign, body := body, defers := W4.heap.size } := ⟨_, rfl⟩
  have e1 : ({ state := .ready, pending := none, fn := 121, tmps := tmps, params := #[10], assign := assign, body := body, defers := W4.heap.size } : Loop) = rec .ready := by rw [hrec]
  rw [e1, h4]
  have hst : (rec .ready).state = .ready := by rw [hrec]
  have hJ0 := h0 (rec .ready)
  have hcl : (cut c t0.data.toList).length ≤ t0.size + 1 := by rw [cut_count, ← ba_len t0]; have := List.count_le_length (a := c) (l := t0.data.toList); omega
  refine CallsIn.mono (callsIn_wide.2 ((callsIn_wide (n := 4)).1 (split_inC c 4 (by decide) (w.heap.size + 4 + 1) (w.heap.size + 2) (w.heap.size + 1) (w.heap.size + 3) t0 (by omega)
    (fun pre W => ∃ acc v x, NumsF pre acc ∧ NumsAt c w acc v x (rec .ready) W)
    (fun ch W => ch = ch2 ∧ listFPl c t0.data.toList = none ∧ W.heap[w.heap.size + 4]? = some (.deferred (some [])) ∧ Below w.heap.size w W)
    ?_ ?_ ?_ _ ?_ hJ0.bs.cell))) ?_
  · rintro pre W v ⟨acc, v', x, h1, h3⟩
    exact ⟨acc, v', v, h1, h3.setS v⟩
  · rintro pre W ⟨acc, v', x, h1, h3⟩
    exact ⟨h3.bp.cell, h3.bv.cell, h3.bs.frozen⟩
  · rintro pre rest x t W ⟨acc, v', xx, h1, h3⟩ hc hx hcut
    have hxx : xx = .string t := by have := h3.bs.cell.symm.trans hc; injection this
    subst hxx
    have hL := h3.lp
    have hy := run_yield (P := Tryz.prog) (args := #[Value.string x]) hL (by rw [hrec]; rfl)
    have hal : acc.length ≤ t0.size := by
      rw [← hcut] at hcl
      rw [h1.1, List.length_map]
      simp at hcl
      omega
    refine ⟨_, _, _, _, hy, ?_⟩
    rw [hrec]
    refine roundP Tryz.func121 ?_
    refine ha _ x W _ ?_
    refine ⟨_, run_beginRound hL (by rw [hrec]), ?_⟩
    refine wpIn_mono (hb _ acc v' (.string t) _ x _ (h3.putL _) hal (by omega)) ?_
    rintro e a3 W3 (⟨rfl, hq, v2, h4⟩ | ⟨ch, rfl, hd, hp, hq, h4⟩)
    · refine Or.inl ⟨rfl, _, _, run_endRound none h4.lp, Or.inl ⟨rfl, ⟨_, v2, .string t, numsF_end h1 rfl hq, ?_⟩, ?_⟩⟩
      · have h6 := h4.putL { rec .busy with state := .ready, pending := none }
        rw [hrec] at h6 ⊢
        exact h6
      · exact (h4.putL _).bs.cell
    · exact Or.inr ⟨ch, rfl, hd, Or.inr ⟨ch, rfl, hp, listF_bad (p := x.data.toList) (by rw [← hcut]; simp) hq, h4.df, h4.bw⟩⟩
  · exact ⟨[], _, _, ⟨rfl, by simp⟩, hJ0⟩
  · rintro e w3 (⟨hv, acc, v, x, h1, h3⟩ | h)
    · exact Or.inl ⟨hv, acc, v, x, rec .ready, h1, by rw [hrec], by rw [hrec], h3⟩
    · exact Or.inr h
/-- what numbersIn answers -/
def NumsP (c : UInt8) (t : B8) (w : World) (e : Ending) (w' : World) : Prop :=
  (match listFPl c t with
   | none => e = .panicked ch2
   | some l => ∃ v, e = .returned v ∧ w'.ownsRow w.heap.size 3 1 v l.length (l.flatMap ic)) ∧ Below w.heap.size w w'
set_option maxRecDepth 100000 in
set_option maxHeartbeats 16000000 in
theorem nums_body (c : UInt8) (w : World) (s : ByteArray) (hs : s.size ≤ 8796093022208) (hE : EnvP w) (l : Nat) (acc : List Int) (v xx : Value) (rec : Loop) (x : ByteArray) (W : World) (hO : NumsAt c w acc v xx rec W) (hal : acc.length ≤ s.size) (hx : x.size ≤ 281474976710656) (k : Nat) :
    (Code.region k #[{ dst := some 11, op := Op.load 63 (Operand.tmp 5), type := 63, pos := "reader.go:122", after := #[], guard := none }, { dst := some 12, op := Op.move (Operand.tmp 6), type := 9, pos := "reader.go:122", after := #[], guard := none }, { dst := some 13, op := Op.call { callee := Callee.value (Operand.func 164), args := #[Operand.tmp 12], argTypes := #[9] }, type := 3, pos := "reader.go:122", after := #[{ on := 1, ground := Ground.data }], guard := none }, { dst := some 14, op := Op.buildSlice 63 1 #[(0, Operand.tmp 13)], type := 63, pos := "reader.go:122", after := #[{ on := 2, ground := Ground.data }], guard := none }, { dst := some 15, op := Op.call { callee := Callee.builtin Builtin.append, args := #[Operand.tmp 11, Operand.tmp 14], argTypes := #[63, 63] }, type := 63, pos := "reader.go:122", after := #[{ on := 0, ground := Ground.data }, { on := 3, ground := Ground.data }, { on := 2, ground := Ground.chain }], guard := none }, { dst := none, op := Op.store 63 (Operand.tmp 5) (Operand.tmp 15), type := 0, pos := "reader.go:122", after := #[{ on := 4, ground := Ground.data }, { on := 4, ground := Ground.chain }, { on := 0, ground := Ground.phase }, { on := 1, ground := Ground.phase }, { on := 2, ground := Ground.phase }, { on := 3, ground := Ground.phase }, { on := 4, ground := Ground.phase }], guard := none }] true).wpIn (Fence.wide.inRound l) 3 Tryz.prog (NumsX c w acc v xx rec (numN x.data.toList))
      { tmps := #[.string s, .string ⟨#[c]⟩, undef, undef, .slice none 0 0, .pointer (some ⟨w.heap.size, 0, none⟩), .string x, .string s, .string ⟨#[c]⟩,
        .func (.func 205) #[] #[.pointer (some ⟨w.heap.size + 1 + 1, 0, none⟩), .pointer (some ⟨w.heap.size + 1, 0, none⟩), .pointer (some ⟨w.heap.size + 1 + 2, 0, none⟩)], .string x, undef, undef, undef, undef, undef, undef], defers := [] } W := by
  obtain ⟨i0, hi, hz0, hz1, hz2⟩ := info_parts info3
  obtain ⟨q, hq⟩ : ∃ q, numN x.data.toList = q := ⟨_, rfl⟩
  have HN := Go.Lib.hid (fun (w' : World) (h : Below w.heap.size w w') => number_any x w' hx (hE.below h))
  rw [hq] at HN ⊢
  obtain ⟨A, cp, hv, hc1, hc2⟩ := own_form hO.row
  subst hv
  obtain ⟨n, hn⟩ : ∃ n, acc.length = n := ⟨_, rfl⟩
  have hal2 := hal
  rw [hn] at hal hc1 hO ⊢
  have HO := Go.Lib.hid hO.drew
  have c0 := HO.out.bl.cell
  have HAL := Go.Lib.hid hn
  clear hO hE hq hn
  refine wpIn_region_orders (L := [[0, 1, 2, 3, 4, 5], [1, 0, 2, 3, 4, 5], [1, 2, 0, 3, 4, 5], [1, 2, 3, 0, 4, 5]]) (by kernel_rfl) (by kernel_rfl) ?_
  intro o ho
  by_cases hg : q < 0
  · have HG := Go.Lib.hid hg
    clear hg
    simp only [List.mem_cons, List.not_mem_nil, or_false] at ho
    rcases ho with rfl | rfl | rfl | rfl
    · show wpListIn _ _ _ _ _ [{ dst := some 11, op := Op.load 63 (Operand.tmp 5), type := 63, pos := "reader.go:122", after := #[], guard := none }, { dst := some 12, op := Op.move (Operand.tmp 6), type := 9, pos := "reader.go:122", after := #[], guard := none }, { dst := some 13, op := Op.call { callee := Callee.value (Operand.func 164), args := #[Operand.tmp 12], argTypes := #[9] }, type := 3, pos := "reader.go:122", after := #[{ on := 1, ground := Ground.data }], guard := none }, { dst := some 14, op := Op.buildSlice 63 1 #[(0, Operand.tmp 13)], type := 63, pos := "reader.go:122", after := #[{ on := 2, ground := Ground.data }], guard := none }, { dst := some 15, op := Op.call { callee := Callee.builtin Builtin.append, args := #[Operand.tmp 11, Operand.tmp 14], argTypes := #[63, 63] }, type := 63, pos := "reader.go:122", after := #[{ on := 0, ground := Ground.data }, { on := 3, ground := Ground.data }, { on := 2, ground := Ground.chain }], guard := none }, { dst := none, op := Op.store 63 (Operand.tmp 5) (Operand.tmp 15), type := 0, pos := "reader.go:122", after := #[{ on := 4, ground := Ground.data }, { on := 4, ground := Ground.chain }, { on := 0, ground := Ground.phase }, { on := 1, ground := Ground.phase }, { on := 2, ground := Ground.phase }, { on := 3, ground := Ground.phase }, { on := 4, ground := Ground.phase }], guard := none }] _ _
      gi_wp2_with (refine ⟨trivial, ?_⟩; gi_at_call 164; refine (CallsIn.inRound l (callsIn_wide.2 (HN.out _ HO.out.bw))).mono ?_; rintro e w1 ⟨he, hb1⟩; unfold NumE at he; rw [if_pos HG.out] at he; unfold PanQ at he; subst he)
      exact Or.inr ⟨_, rfl, rfl, rfl, HG.out, HO.out.below hb1⟩
    · show wpListIn _ _ _ _ _ [{ dst := some 12, op := Op.move (Operand.tmp 6), type := 9, pos := "reader.go:122", after := #[], guard := none }, { dst := some 11, op := Op.load 63 (Operand.tmp 5), type := 63, pos := "reader.go:122", after := #[], guard := none }, { dst := some 13, op := Op.call { callee := Callee.value (Operand.func 164), args := #[Operand.tmp 12], argTypes := #[9] }, type := 3, pos := "reader.go:122", after := #[{ on := 1, ground := Ground.data }], guard := none }, { dst := some 14, op := Op.buildSlice 63 1 #[(0, Operand.tmp 13)], type := 63, pos := "reader.go:122", after := #[{ on := 2, ground := Ground.data }], guard := none }, { dst := some 15, op := Op.call { callee := Callee.builtin Builtin.append, args := #[Operand.tmp 11, Operand.tmp 14], argTypes := #[63, 63] }, type := 63, pos := "reader.go:122", after := #[{ on := 0, ground := Ground.data }, { on := 3, ground := Ground.data }, { on := 2, ground := Ground.chain }], guard := none }, { dst := none, op := Op.store 63 (Operand.tmp 5) (Operand.tmp 15), type := 0, pos := "reader.go:122", after := #[{ on := 4, ground := Ground.data }, { on := 4, ground := Ground.chain }, { on := 0, ground := Ground.phase }, { on := 1, ground := Ground.phase }, { on := 2, ground := Ground.phase }, { on := 3, ground := Ground.phase }, { on := 4, ground := Ground.phase }], guard := none }] _ _
      gi_wp2_with (refine ⟨trivial, ?_⟩; gi_at_call 164; refine (CallsIn.inRound l (callsIn_wide.2 (HN.out _ HO.out.bw))).mono ?_; rintro e w1 ⟨he, hb1⟩; unfold NumE at he; rw [if_pos HG.out] at he; unfold PanQ at he; subst he)
      exact Or.inr ⟨_, rfl, rfl, rfl, HG.out, HO.out.below hb1⟩
    · show wpListIn _ _ _ _ _ [{ dst := some 12, op := Op.move (Operand.tmp 6), type := 9, pos := "reader.go:122", after := #[], guard := none }, { dst := some 13, op := Op.call { callee := Callee.value (Operand.func 164), args := #[Operand.tmp 12], argTypes := #[9] }, type := 3, pos := "reader.go:122", after := #[{ on := 1, ground := Ground.data }], guard := none }, { dst := some 11, op := Op.load 63 (Operand.tmp 5), type := 63, pos := "reader.go:122", after := #[], guard := none }, { dst := some 14, op := Op.buildSlice 63 1 #[(0, Operand.tmp 13)], type := 63, pos := "reader.go:122", after := #[{ on := 2, ground := Ground.data }], guard := none }, { dst := some 15, op := Op.call { callee := Callee.builtin Builtin.append, args := #[Operand.tmp 11, Operand.tmp 14], argTypes := #[63, 63] }, type := 63, pos := "reader.go:122", after := #[{ on := 0, ground := Ground.data }, { on := 3, ground := Ground.data }, { on := 2, ground := Ground.chain }], guard := none }, { dst := none, op := Op.store 63 (Operand.tmp 5) (Operand.tmp 15), type := 0, pos := "reader.go:122", after := #[{ on := 4, ground := Ground.data }, { on := 4, ground := Ground.chain }, { on := 0, ground := Ground.phase }, { on := 1, ground := Ground.phase }, { on := 2, ground := Ground.phase }, { on := 3, ground := Ground.phase }, { on := 4, ground := Ground.phase }], guard := none }] _ _
      gi_wp2_with (refine ⟨trivial, ?_⟩; gi_at_call 164; refine (CallsIn.inRound l (callsIn_wide.2 (HN.out _ HO.out.bw))).mono ?_; rintro e w1 ⟨he, hb1⟩; unfold NumE at he; rw [if_pos HG.out] at he; unfold PanQ at he; subst he)
      exact Or.inr ⟨_, rfl, rfl, rfl, HG.out, HO.out.below hb1⟩
    · show wpListIn _ _ _ _ _ [{ dst := some 12, op := Op.move (Operand.tmp 6), type := 9, pos := "reader.go:122", after := #[], guard := none }, { dst := some 13, op := Op.call { callee := Callee.value (Operand.func 164), args := #[Operand.tmp 12], argTypes := #[9] }, type := 3, pos := "reader.go:122", after := #[{ on := 1, ground := Ground.data }], guard := none }, { dst := some 14, op := Op.buildSlice 63 1 #[(0, Operand.tmp 13)], type := 63, pos := "reader.go:122", after := #[{ on := 2, ground := Ground.data }], guard := none }, { dst := some 11, op := Op.load 63 (Operand.tmp 5), type := 63, pos := "reader.go:122", after := #[], guard := none }, { dst := some 15, op := Op.call { callee := Callee.builtin Builtin.append, args := #[Operand.tmp 11, Operand.tmp 14], argTypes := #[63, 63] }, type := 63, pos := "reader.go:122", after := #[{ on := 0, ground := Ground.data }, { on := 3, ground := Ground.data }, { on := 2, ground := Ground.chain }], guard := none }, { dst := none, op := Op.store 63 (Operand.tmp 5) (Operand.tmp 15), type := 0, pos := "reader.go:122", after := #[{ on := 4, ground := Ground.data }, { on := 4, ground := Ground.chain }, { on := 0, ground := Ground.phase }, { on := 1, ground := Ground.phase }, { on := 2, ground := Ground.phase }, { on := 3, ground := Ground.phase }, { on := 4, ground := Ground.phase }], guard := none }] _ _
      gi_wp2_with (refine ⟨trivial, ?_⟩; gi_at_call 164; refine (CallsIn.inRound l (callsIn_wide.2 (HN.out _ HO.out.bw))).mono ?_; rintro e w1 ⟨he, hb1⟩; unfold NumE at he; rw [if_pos HG.out] at he; unfold PanQ at he; subst he)
      exact Or.inr ⟨_, rfl, rfl, rfl, HG.out, HO.out.below hb1⟩
  · have HG := Go.Lib.hid hg
    clear hg
    simp only [List.mem_cons, List.not_mem_nil, or_false] at ho
    rcases ho with rfl | rfl | rfl | rfl
    · show wpListIn _ _ _ _ _ [{ dst := some 11, op := Op.load 63 (Operand.tmp 5), type := 63, pos := "reader.go:122", after := #[], guard := none }, { dst := some 12, op := Op.move (Operand.tmp 6), type := 9, pos := "reader.go:122", after := #[], guard := none }, { dst := some 13, op := Op.call { callee := Callee.value (Operand.func 164), args := #[Operand.tmp 12], argTypes := #[9] }, type := 3, pos := "reader.go:122", after := #[{ on := 1, ground := Ground.data }], guard := none }, { dst := some 14, op := Op.buildSlice 63 1 #[(0, Operand.tmp 13)], type := 63, pos := "reader.go:122", after := #[{ on := 2, ground := Ground.data }], guard := none }, { dst := some 15, op := Op.call { callee := Callee.builtin Builtin.append, args := #[Operand.tmp 11, Operand.tmp 14], argTypes := #[63, 63] }, type := 63, pos := "reader.go:122", after := #[{ on := 0, ground := Ground.data }, { on := 3, ground := Ground.data }, { on := 2, ground := Ground.chain }], guard := none }, { dst := none, op := Op.store 63 (Operand.tmp 5) (Operand.tmp 15), type := 0, pos := "reader.go:122", after := #[{ on := 4, ground := Ground.data }, { on := 4, ground := Ground.chain }, { on := 0, ground := Ground.phase }, { on := 1, ground := Ground.phase }, { on := 2, ground := Ground.phase }, { on := 3, ground := Ground.phase }, { on := 4, ground := Ground.phase }], guard := none }] _ _
      gi_wp2_with (first
        | (refine ⟨trivial, ?_⟩; gi_at_call 164; refine (CallsIn.inRound l (callsIn_wide.2 (HN.out _ HO.out.bw))).mono ?_; rintro e w1 ⟨he, hb1⟩; unfold NumE at he; rw [if_neg HG.out] at he; subst he; have hO2 := HO.out.below hb1; have hsz := hO2.size; have g1 := hO2.bl.cell; have g2 := hO2.bl.frozen; have g3 := fun o => (hO2.below ((Below.refl _ _).alloc (Nat.le_refl _) o)).bl.cell; have hR := Go.Lib.hid hO2.row; replace hO2 := Go.Lib.hid hO2; replace hsz := Go.Lib.hid hsz)
        | (gi_at_builtin; refine wpListIn_append_own _ rfl _ _ 63 rfl (w.heap.size + 6) 3 i0 (.int .i64 0) 1 8 Tryz.underlying63 hi hz0 hz1 hz2 rfl (by decide) _ _ _ rfl (hR.out.alloc _) ⟨_, 0, none⟩ 1 1 [.int .i64 q] rfl rfl (row_at _ _ _ (by first | rfl | (have := hsz.out; first | (simp; omega) | omega))) (by simp [Value.oneCell']) (by simp only [maxLen]; omega) (by omega) (by have := hsz.out; first | (simp; omega) | omega) ?_; intro v' w3 hown' hgrow _; obtain ⟨g', cap', rfl⟩ := ownsRow_succ hown'; obtain ⟨hc1, hf1, hO3⟩ := hO2.out.app rfl hown' hgrow; replace hO3 := Go.Lib.hid hO3))
      exact Or.inl ⟨rfl, by have := HG.out; omega, _, hO3.out⟩
    · show wpListIn _ _ _ _ _ [{ dst := some 12, op := Op.move (Operand.tmp 6), type := 9, pos := "reader.go:122", after := #[], guard := none }, { dst := some 11, op := Op.load 63 (Operand.tmp 5), type := 63, pos := "reader.go:122", after := #[], guard := none }, { dst := some 13, op := Op.call { callee := Callee.value (Operand.func 164), args := #[Operand.tmp 12], argTypes := #[9] }, type := 3, pos := "reader.go:122", after := #[{ on := 1, ground := Ground.data }], guard := none }, { dst := some 14, op := Op.buildSlice 63 1 #[(0, Operand.tmp 13)], type := 63, pos := "reader.go:122", after := #[{ on := 2, ground := Ground.data }], guard := none }, { dst := some 15, op := Op.call { callee := Callee.builtin Builtin.append, args := #[Operand.tmp 11, Operand.tmp 14], argTypes := #[63, 63] }, type := 63, pos := "reader.go:122", after := #[{ on := 0, ground := Ground.data }, { on := 3, ground := Ground.data }, { on := 2, ground := Ground.chain }], guard := none }, { dst := none, op := Op.store 63 (Operand.tmp 5) (Operand.tmp 15), type := 0, pos := "reader.go:122", after := #[{ on := 4, ground := Ground.data }, { on := 4, ground := Ground.chain }, { on := 0, ground := Ground.phase }, { on := 1, ground := Ground.phase }, { on := 2, ground := Ground.phase }, { on := 3, ground := Ground.phase }, { on := 4, ground := Ground.phase }], guard := none }] _ _
      gi_wp2_with (first
        | (refine ⟨trivial, ?_⟩; gi_at_call 164; refine (CallsIn.inRound l (callsIn_wide.2 (HN.out _ HO.out.bw))).mono ?_; rintro e w1 ⟨he, hb1⟩; unfold NumE at he; rw [if_neg HG.out] at he; subst he; have hO2 := HO.out.below hb1; have hsz := hO2.size; have g1 := hO2.bl.cell; have g2 := hO2.bl.frozen; have g3 := fun o => (hO2.below ((Below.refl _ _).alloc (Nat.le_refl _) o)).bl.cell; have hR := Go.Lib.hid hO2.row; replace hO2 := Go.Lib.hid hO2; replace hsz := Go.Lib.hid hsz)
        | (gi_at_builtin; refine wpListIn_append_own _ rfl _ _ 63 rfl (w.heap.size + 6) 3 i0 (.int .i64 0) 1 8 Tryz.underlying63 hi hz0 hz1 hz2 rfl (by decide) _ _ _ rfl (hR.out.alloc _) ⟨_, 0, none⟩ 1 1 [.int .i64 q] rfl rfl (row_at _ _ _ (by first | rfl | (have := hsz.out; first | (simp; omega) | omega))) (by simp [Value.oneCell']) (by simp only [maxLen]; omega) (by omega) (by have := hsz.out; first | (simp; omega) | omega) ?_; intro v' w3 hown' hgrow _; obtain ⟨g', cap', rfl⟩ := ownsRow_succ hown'; obtain ⟨hc1, hf1, hO3⟩ := hO2.out.app rfl hown' hgrow; replace hO3 := Go.Lib.hid hO3))
      exact Or.inl ⟨rfl, by have := HG.out; omega, _, hO3.out⟩
    · show wpListIn _ _ _ _ _ [{ dst := some 12, op := Op.move (Operand.tmp 6), type := 9, pos := "reader.go:122", after := #[], guard := none }, { dst := some 13, op := Op.call { callee := Callee.value (Operand.func 164), args := #[Operand.tmp 12], argTypes := #[9] }, type := 3, pos := "reader.go:122", after := #[{ on := 1, ground := Ground.data }], guard := none }, { dst := some 11, op := Op.load 63 (Operand.tmp 5), type := 63, pos := "reader.go:122", after := #[], guard := none }, { dst := some 14, op := Op.buildSlice 63 1 #[(0, Operand.tmp 13)], type := 63, pos := "reader.go:122", after := #[{ on := 2, ground := Ground.data }], guard := none }, { dst := some 15, op := Op.call { callee := Callee.builtin Builtin.append, args := #[Operand.tmp 11, Operand.tmp 14], argTypes := #[63, 63] }, type := 63, pos := "reader.go:122", after := #[{ on := 0, ground := Ground.data }, { on := 3, ground := Ground.data }, { on := 2, ground := Ground.chain }], guard := none }, { dst := none, op := Op.store 63 (Operand.tmp 5) (Operand.tmp 15), type := 0, pos := "reader.go:122", after := #[{ on := 4, ground := Ground.data }, { on := 4, ground := Ground.chain }, { on := 0, ground := Ground.phase }, { on := 1, ground := Ground.phase }, { on := 2, ground := Ground.phase }, { on := 3, ground := Ground.phase }, { on := 4, ground := Ground.phase }], guard := none }] _ _
      gi_wp2_with (first
        | (refine ⟨trivial, ?_⟩; gi_at_call 164; refine (CallsIn.inRound l (callsIn_wide.2 (HN.out _ HO.out.bw))).mono ?_; rintro e w1 ⟨he, hb1⟩; unfold NumE at he; rw [if_neg HG.out] at he; subst he; have hO2 := HO.out.below hb1; have hsz := hO2.size; have g1 := hO2.bl.cell; have g2 := hO2.bl.frozen; have g3 := fun o => (hO2.below ((Below.refl _ _).alloc (Nat.le_refl _) o)).bl.cell; have hR := Go.Lib.hid hO2.row; replace hO2 := Go.Lib.hid hO2; replace hsz := Go.Lib.hid hsz)
        | (gi_at_builtin; refine wpListIn_append_own _ rfl _ _ 63 rfl (w.heap.size + 6) 3 i0 (.int .i64 0) 1 8 Tryz.underlying63 hi hz0 hz1 hz2 rfl (by decide) _ _ _ rfl (hR.out.alloc _) ⟨_, 0, none⟩ 1 1 [.int .i64 q] rfl rfl (row_at _ _ _ (by first | rfl | (have := hsz.out; first | (simp; omega) | omega))) (by simp [Value.oneCell']) (by simp only [maxLen]; omega) (by omega) (by have := hsz.out; first | (simp; omega) | omega) ?_; intro v' w3 hown' hgrow _; obtain ⟨g', cap', rfl⟩ := ownsRow_succ hown'; obtain ⟨hc1, hf1, hO3⟩ := hO2.out.app rfl hown' hgrow; replace hO3 := Go.Lib.hid hO3))
      exact Or.inl ⟨rfl, by have := HG.out; omega, _, hO3.out⟩
    · show wpListIn _ _ _ _ _ [{ dst := some 12, op := Op.move (Operand.tmp 6), type := 9, pos := "reader.go:122", after := #[], guard := none }, { dst := some 13, op := Op.call { callee := Callee.value (Operand.func 164), args := #[Operand.tmp 12], argTypes := #[9] }, type := 3, pos := "reader.go:122", after := #[{ on := 1, ground := Ground.data }], guard := none }, { dst := some 14, op := Op.buildSlice 63 1 #[(0, Operand.tmp 13)], type := 63, pos := "reader.go:122", after := #[{ on := 2, ground := Ground.data }], guard := none }, { dst := some 11, op := Op.load 63 (Operand.tmp 5), type := 63, pos := "reader.go:122", after := #[], guard := none }, { dst := some 15, op := Op.call { callee := Callee.builtin Builtin.append, args := #[Operand.tmp 11, Operand.tmp 14], argTypes := #[63, 63] }, type := 63, pos := "reader.go:122", after := #[{ on := 0, ground := Ground.data }, { on := 3, ground := Ground.data }, { on := 2, ground := Ground.chain }], guard := none }, { dst := none, op := Op.store 63 (Operand.tmp 5) (Operand.tmp 15), type := 0, pos := "reader.go:122", after := #[{ on := 4, ground := Ground.data }, { on := 4, ground := Ground.chain }, { on := 0, ground := Ground.phase }, { on := 1, ground := Ground.phase }, { on := 2, ground := Ground.phase }, { on := 3, ground := Ground.phase }, { on := 4, ground := Ground.phase }], guard := none }] _ _
      gi_wp2_with (first
        | (refine ⟨trivial, ?_⟩; gi_at_call 164; refine (CallsIn.inRound l (callsIn_wide.2 (HN.out _ HO.out.bw))).mono ?_; rintro e w1 ⟨he, hb1⟩; unfold NumE at he; rw [if_neg HG.out] at he; subst he; have hO2 := HO.out.below hb1; have hsz := hO2.size; have g1 := hO2.bl.cell; have g2 := hO2.bl.frozen; have g3 := fun o => (hO2.below ((Below.refl _ _).alloc (Nat.le_refl _) o)).bl.cell; have hR := Go.Lib.hid hO2.row; replace hO2 := Go.Lib.hid hO2; replace hsz := Go.Lib.hid hsz)
        | (gi_at_builtin; refine wpListIn_append_own _ rfl _ _ 63 rfl (w.heap.size + 6) 3 i0 (.int .i64 0) 1 8 Tryz.underlying63 hi hz0 hz1 hz2 rfl (by decide) _ _ _ rfl (hR.out.alloc _) ⟨_, 0, none⟩ 1 1 [.int .i64 q] rfl rfl (row_at _ _ _ (by first | rfl | (have := hsz.out; first | (simp; omega) | omega))) (by simp [Value.oneCell']) (by simp only [maxLen]; omega) (by omega) (by have := hsz.out; first | (simp; omega) | omega) ?_; intro v' w3 hown' hgrow _; obtain ⟨g', cap', rfl⟩ := ownsRow_succ hown'; obtain ⟨hc1, hf1, hO3⟩ := hO2.out.app rfl hown' hgrow; replace hO3 := Go.Lib.hid hO3))
      exact Or.inl ⟨rfl, by have := HG.out; omega, _, hO3.out⟩
set_option maxRecDepth 100000 in
set_option maxHeartbeats 8000000 in
theorem numsIn_any (c : UInt8) (s : ByteArray) (w : World) (hs : s.size ≤ 8796093022208) (hE : EnvP w) : CallsIn Fence.wide 4 Tryz.prog 121 #[.string s, .string ⟨#[c]⟩] w (NumsP c s.data.toList w) := by
  obtain ⟨W4, eW, h4, h0⟩ := nums_start c w s
  refine callsAt Tryz.func121 rfl ?_
  simp only [Tryz.ntmps121, List.size_toArray, List.length_cons, List.length_nil, Nat.reduceAdd, Nat.reduceSub, Array.replicate_succ, Array.replicate_zero, List.push_toArray, List.append_toArray, List.nil_append, List.cons_append]
  refine WpAt.seq (WpAt.of_wp (n := 4) ?_)
  gi_wp2
  refine WpAt.seq (WpAt.of_wp (n := 4) ?_)
  gi_wp2
  refine WpAt.seq ?_
  refine WpAt.seq (WpAt.of_wp (n := 4) ?_)
  gi_wp2_with (refine ⟨trivial, ?_⟩; gi_at_call 163; refine (callsIn_wide.2 (SplitSeqC_any c _ _)).mono ?_; rintro e w' ⟨rfl, rfl⟩)
  refine WpAt.block ?_
  refine WpAt.rangeFunc (gf := 205) (lb := #[.pointer (some ⟨w.heap.size + 2, 0, none⟩), .pointer (some ⟨w.heap.size + 1, 0, none⟩), .pointer (some ⟨w.heap.size + 3, 0, none⟩)]) rfl (enters_of Tryz.func205 (by kernel_rfl) rfl) ?_
  refine CallsIn.mono (nums_loop c (fun x => { tmps := #[.string s, .string ⟨#[c]⟩, undef, undef, .slice none 0 0, .pointer (some ⟨w.heap.size, 0, none⟩), .string x, .string s, .string ⟨#[c]⟩,
        .func (.func 205) #[] #[.pointer (some ⟨w.heap.size + 1 + 1, 0, none⟩), .pointer (some ⟨w.heap.size + 1, 0, none⟩), .pointer (some ⟨w.heap.size + 1 + 2, 0, none⟩)], .string x, undef, undef, undef, undef, undef, undef], defers := [] }) w W4 s (by omega) h4 h0 ?ha ?hb) ?post
  case ha =>
    intro l x W K hK
    gi_wp2
    exact hK
  case hb =>
    intro l acc v xx rec x W hO hal hx
    refine wpIn_block (wpIn_mono (nums_body c w s hs hE l acc v xx rec x W hO hal hx _) ?_)
    rintro e a3 W3 (⟨rfl, h⟩ | ⟨ch, rfl, h⟩)
    · exact Or.inl ⟨rfl, h⟩
    · exact Or.inr ⟨ch, rfl, h⟩
  case post =>
    rintro e w3 (⟨⟨v, rfl⟩, acc, v', x, rec, h1, hst, hpe, hO⟩ | ⟨ch, rfl, hp, h1, hd, hb⟩)
    · have hlp := hO.lp
      rw [show w.heap.size + 5 = W4.heap.size + 1 by omega] at hlp
      refine Or.inl ⟨_, _, rfl, (run_endLoop (P := Tryz.prog) hlp (by rw [hst]; simp)).trans (by rw [hpe]), Or.inl ⟨rfl, ?_⟩⟩
      refine WpAt.of_wp (n := 4) ?_
      rw [h4]
      have hO4 := hO.putL { rec with state := .exhausted, pending := none }
      obtain ⟨w4, e4⟩ : ∃ w4, w3.putObj (w.heap.size + 5) (.loop { rec with state := .exhausted, pending := none }) = w4 := ⟨_, rfl⟩
      rw [e4] at hO4
      rw [show w.heap.size + 4 + 1 = w.heap.size + 5 from rfl, e4]
      obtain ⟨A, cp, hv, hc1, hc2⟩ := own_form hO4.row
      subst hv
      have g1 := hO4.bl.cell
      have HO4 := Go.Lib.hid hO4
      have H1 := Go.Lib.hid (listF_ok h1)
      clear hO4 hO hlp e4 h0 eW h1
      gi_wp2
      refine ⟨by simp, .inl ⟨_, _, rfl, run_takeDeferred HO4.out.df, ?_⟩⟩
      refine ⟨.slice A acc.length cp, by simp [results, Tryz.results121, go_sem], ?_⟩
      unfold NumsP
      rw [H1.out]
      exact ⟨⟨_, rfl, ownsRow_putObj (own_base HO4.out.row (by omega)) _ HO4.out.df rfl⟩, HO4.out.bw.trans (belowK_b (w := w) (Nat.le_refl _) _ _ _ _ (by omega) HO4.out.df rfl rfl)⟩
    · refine Or.inr ⟨ch, rfl, Or.inr ⟨ch, rfl, Or.inr ⟨ch, rfl, ?_⟩⟩⟩
      rw [h4]
      refine ⟨by simp, .inl ⟨_, _, rfl, run_takeDeferred hd, ?_⟩⟩
      show NumsP c s.data.toList w (.panicked ch) _
      unfold NumsP
      rw [h1]
      exact ⟨by rw [hp], belowK_b (w := w) (Nat.le_refl _) _ _ _ _ (by omega) hd rfl rfl |> hb.trans⟩
end Go.Proofs.YtjnokhaojpijhaaGreatDoor
/- Layer plan: the reader: line, need, and what is read without an error. -/
namespace Go.Proofs.YtjnokhaojpijhaaGreatDoor
open Go.RowKit Go.Shelf Go.Proofs Go.Joins
/-- the reader in block g has s left -/
def RdAt (g : Nat) (s : ByteArray) (w : World) : Prop := w.heap[g]? = some (.cells #[.string s] 71)
theorem RdAt.cell {g : Nat} {s : ByteArray} {w : World} (h : RdAt g s w) : w.cell? ⟨g, 0, none⟩ = some (.string s) := cell_of_block h 0
theorem RdAt.unf {g : Nat} {s : ByteArray} {w : World} (h : RdAt g s w) : w.frozen? ⟨g, 0, none⟩ = false := unfrozen_of_block h 0
theorem RdAt.lt {g : Nat} {s : ByteArray} {w : World} (h : RdAt g s w) : g < w.heap.size := (Array.getElem?_eq_some_iff.1 h).1
theorem RdAt.below {g : Nat} {s : ByteArray} {w w' : World} (h : RdAt g s w) (hb : Below w.heap.size w w') : RdAt g s w' := (hb.block g h.lt).trans h
theorem RdAt.set {g : Nat} {s : ByteArray} {w : World} (h : RdAt g s w) (t : ByteArray) : RdAt g t (w.setCell ⟨g, 0, none⟩ (.string t)) := by
  unfold RdAt; rw [block_setCell h (.string t)]; rfl
/-- what line answers -/
def LineP (g : Nat) (s W : ByteArray) (w : World) (e : Ending) (w' : World) : Prop :=
  w.grownBy w' (some g) ∧
    match lineF W.data.toList (cut 10 s.data.toList) with
    | none => PanQ 2 e
    | some (t, r) => ∃ T s' : ByteArray, e = .returned (.string T) ∧ T.data.toList = t ∧ T.size ≤ s.size ∧ RdAt g s' w' ∧ cut 10 s'.data.toList = r ∧ s'.size ≤ s.size
theorem lineP_no {g : Nat} {s W : ByteArray} {w w' : World} {e : Ending} (h : lineF W.data.toList (cut 10 s.data.toList) = none) (hg : w.grownBy w' (some g)) (he : PanQ 2 e) : LineP g s W w e w' := by
  refine ⟨hg, ?_⟩; rw [h]; exact he
theorem lineP_yes {g : Nat} {s W : ByteArray} {w w' : World} {T s' : ByteArray} {t : B8} {r : List B8} (h : lineF W.data.toList (cut 10 s.data.toList) = some (t, r)) (hg : w.grownBy w' (some g)) (h1 : T.data.toList = t) (h2 : T.size ≤ s.size) (h3 : RdAt g s' w') (h4 : cut 10 s'.data.toList = r) (h5 : s'.size ≤ s.size) : LineP g s W w (.returned (.string T)) w' := by
  refine ⟨hg, ?_⟩; rw [h]; exact ⟨T, s', rfl, h1, h2, h3, h4, h5⟩
set_option maxRecDepth 100000 in
set_option maxHeartbeats 4000000 in
theorem line_any (g : Nat) (s W : ByteArray) (w : World) (hR : RdAt g s w) (hs : s.size ≤ 8796093022208) (hW : W.size ≤ 8796093022208) :
    Calls Tryz.prog 122 #[.pointer (some ⟨g, 0, none⟩), .string W] w (LineP g s W w) := by
  have HC := hide (CutC_any 10 s · (by omega))
  have c0 := hR.cell
  have HR := hide hR
  clear hR
  obtain ⟨P, hP⟩ : ∃ P : ByteArray, (W ++ ⟨#[32]⟩ : ByteArray) = P := ⟨_, rfl⟩
  have hPl : P.data.toList = W.data.toList ++ [32] := by rw [← hP]; simp
  have HX := hide (fun x w => Tryz.strings_CutPrefix x P w)
  by_cases hm : (10 : UInt8) ∈ s.data.toList
  · obtain ⟨p, r, hsp, hp⟩ := split_at hm
    have hcut : cut 10 s.data.toList = p :: cut 10 r := by rw [hsp]; exact cut_pre _ _ _ hp
    have hsep : sepC 10 s.data.toList = (p, r) := by rw [hsp]; exact sepC_some hp
    have hl : lineF W.data.toList (cut 10 s.data.toList) = match afterF W.data.toList p with | some t => some (t, cut 10 r) | none => none := by rw [hcut]; exact lineF_cons (cut_ne 10 r)
    have hdm : decide ((10 : UInt8) ∈ s.data.toList) = true := decide_eq_true hm
    cases hpre : (W.data.toList ++ [32]).isPrefixOf p with
    | false =>
      have HL := hide (show lineF W.data.toList (cut 10 s.data.toList) = none by rw [hl]; unfold afterF; rw [hpre]; rfl)
      have HPRE := hide (show Go.Lib.hasPrefix p P.data.toList = false by rw [hPl]; exact hpre)
      have HS := hide hsep
      have HD := hide hdm
      clear hm hsp hp hcut hsep hl hdm hpre hPl
      go_enter Tryz.func122, Tryz.ntmps122
      go_wp2_with fail
      (with_reducible refine (HC.out _).mono ?_)
      rintro e w1 ⟨x, y, b, rfl, hxy, hb, hxl, hyl, hb1⟩
      rw [HS.out] at hxy
      rw [HD.out] at hb
      subst hb
      have hx : x.data.toList = p := congrArg Prod.fst hxy
      have HX1 := hide (show Go.Lib.hasPrefix x.data.toList P.data.toList = false by rw [hx]; exact HPRE.out)
      clear hxy hx
      go_wp2_with fail
      refine (HX.out _ _).mono ?_
      rintro e w2 ⟨rfl, hw2⟩
      obtain rfl := hw2.symm
      rw [HX1.out]
      go_wp2
      exact ⟨rfl, lineP_no HL.out (grown_of_below hb1 _) rfl⟩
    | true =>
      have HL := hide (show lineF W.data.toList (cut 10 s.data.toList) = some (p.drop (W.data.toList.length + 1), cut 10 r) by rw [hl]; unfold afterF; rw [hpre]; rfl)
      have HPRE := hide (show Go.Lib.hasPrefix p P.data.toList = true by rw [hPl]; exact hpre)
      have HTR := hide (show Go.Lib.trimPrefix p P.data.toList = p.drop (W.data.toList.length + 1) by unfold Go.Lib.trimPrefix; rw [HPRE.out, if_pos rfl, hPl]; simp)
      have HPL := hide (show p.length ≤ s.size by rw [← ba_len s, hsp]; simp)
      have HS := hide hsep
      have HD := hide hdm
      clear hm hsp hp hcut hsep hl hdm hpre hPl
      go_enter Tryz.func122, Tryz.ntmps122
      go_wp2_with fail
      (with_reducible refine (HC.out _).mono ?_)
      rintro e w1 ⟨x, y, b, rfl, hxy, hb, hxl, hyl, hb1⟩
      rw [HS.out] at hxy
      rw [HD.out] at hb
      subst hb
      have hx : x.data.toList = p := congrArg Prod.fst hxy
      have HY := hide (show y.data.toList = r from congrArg Prod.snd hxy)
      have HX1 := hide (show Go.Lib.hasPrefix x.data.toList P.data.toList = true by rw [hx]; exact HPRE.out)
      obtain ⟨T, hT⟩ : ∃ T : ByteArray, (⟨(Go.Lib.trimPrefix x.data.toList P.data.toList).toArray⟩ : ByteArray) = T := ⟨_, rfl⟩
      have HT := hide (show T.data.toList = p.drop (W.data.toList.length + 1) by rw [← hT, hx, HTR.out])
      have HTE := hide hT
      have HR1 := hide (HR.out.below hb1)
      have d0 := HR1.out.cell
      have d1 := HR1.out.unf
      clear hxy hx hT
      go_wp2_with fail
      refine (HX.out _ _).mono ?_
      rintro e w2 ⟨rfl, hw2⟩
      obtain rfl := hw2.symm
      rw [HX1.out, HTE.out]
      go_wp2
      go_ret
      exact lineP_yes HL.out ((grown_of_below hb1 _).trans (grown_set2 _ g 0 _)) HT.out (by rw [← ba_len T, HT.out, List.length_drop]; have := HPL.out; omega) (HR1.out.set y) (by rw [HY.out]) hyl
  · have HS := hide (sepC_none hm)
    have HL := hide (show lineF W.data.toList (cut 10 s.data.toList) = none by rw [cut_all _ _ hm]; rfl)
    have HD := hide (decide_eq_false hm)
    clear hm hPl
    go_enter Tryz.func122, Tryz.ntmps122
    go_wp2_with fail
    (with_reducible refine (HC.out _).mono ?_)
    rintro e w1 ⟨x, y, b, rfl, hxy, hb, hxl, hyl, hb1⟩
    rw [HD.out] at hb
    subst hb
    clear hxy
    go_wp2_with fail
    refine (HX.out _ _).mono ?_
    rintro e w2 ⟨rfl, hw2⟩
    obtain rfl := hw2.symm
    go_wp2
    exact ⟨rfl, lineP_no HL.out (grown_of_below hb1 _) rfl⟩
set_option maxRecDepth 100000 in
set_option maxHeartbeats 4000000 in
theorem need_any (g : Nat) (s : ByteArray) (m : Int) (w : World) (hR : RdAt g s w) (hs : s.size ≤ 8796093022208) (B : Bool) (hB : decide (((cut 10 s.data.toList).length : Int) = m + 1 ∧ (cut 10 s.data.toList).getLast? = some []) = B) (h1 : 1 ≤ m) :
    Calls Tryz.prog 85 #[.pointer (some ⟨g, 0, none⟩), .int .i64 m] w fun e w' => w' = w ∧ (if B = true then e = .returned (.tuple #[]) else PanQ 2 e) := by
  have c0 := hR.cell
  have hcc := cut_count 10 s.data.toList
  have hls := cut_last 10 s.data.toList
  rw [← suffix_last] at hls
  have HCT := hide (fun w => Tryz.strings_Count_one s 10 w)
  have HSF := hide (fun w => Tryz.strings_HasSuffix s ⟨#[10]⟩ w (by omega))
  obtain ⟨k, hk⟩ : ∃ k : Nat, Go.Lib.countByte s.data.toList 10 = k := ⟨_, rfl⟩
  have hk' : s.data.toList.count 10 = k := hk
  rw [hk'] at hcc
  obtain ⟨b, hb⟩ : ∃ b, Go.Lib.hasSuffix s.data.toList [10] = b := ⟨_, rfl⟩
  have HK := hide hk
  have HSB := hide (show Go.Lib.hasSuffix s.data.toList (⟨#[10]⟩ : ByteArray).data.toList = b from hb)
  rw [hb] at hls
  by_cases hkm : (k : Int) = m
  · cases b with
    | true =>
      have hBt : B = true := by rw [← hB, decide_eq_true_eq]; exact ⟨by omega, (hls.2 rfl).1⟩
      have q1 : ((k : Int) != m) = false := by rw [bne_eq_false_iff_eq]; exact hkm
      subst hBt
      clear hB hcc hls hk hk' hb hkm h1
      go_enter Tryz.func85, Tryz.ntmps85
      go_wp2_with fail
      refine (HCT.out _).mono ?_
      rintro e w2 ⟨rfl, hw2⟩
      obtain rfl := hw2.symm
      rw [HK.out]
      go_wp2_with fail
      refine (HSF.out _).mono ?_
      rintro e w2 ⟨rfl, hw2⟩
      obtain rfl := hw2.symm
      rw [HSB.out]
      go_wp2
      go_end0
      exact ⟨rfl, rfl⟩
    | false =>
      have hBf : B = false := by
        rw [← hB, decide_eq_false_iff_not]
        rintro ⟨h2, h3⟩
        have := hls.1 ⟨h3, by omega⟩
        cases this
      have q1 : ((k : Int) != m) = false := by rw [bne_eq_false_iff_eq]; exact hkm
      subst hBf
      clear hB hcc hls hk hk' hb hkm h1
      go_enter Tryz.func85, Tryz.ntmps85
      go_wp2_with fail
      refine (HCT.out _).mono ?_
      rintro e w2 ⟨rfl, hw2⟩
      obtain rfl := hw2.symm
      rw [HK.out]
      go_wp2_with fail
      refine (HSF.out _).mono ?_
      rintro e w2 ⟨rfl, hw2⟩
      obtain rfl := hw2.symm
      rw [HSB.out]
      go_wp2
      exact ⟨rfl, rfl, rfl⟩
  · have hBf : B = false := by
      rw [← hB, decide_eq_false_iff_not]
      rintro ⟨h2, h3⟩
      omega
    have q1 : ((k : Int) != m) = true := by rw [bne_iff_ne]; exact hkm
    subst hBf
    clear hB hcc hls hk hk' hb hkm h1
    go_enter Tryz.func85, Tryz.ntmps85
    go_wp2_with fail
    refine (HCT.out _).mono ?_
    rintro e w2 ⟨rfl, hw2⟩
    obtain rfl := hw2.symm
    rw [HK.out]
    go_wp2
    exact ⟨rfl, rfl, rfl⟩
/-- what fine answers -/
def FineP (v : Value) (k : Int) (w : World) (e : Ending) (w' : World) : Prop := Below w.heap.size w w' ∧ if k = 0 then e = .returned v else PanQ k e
theorem fine_heap (n k : Int) (A : Option Addr) (L c : Nat) (w : World) : Calls Tryz.prog 126 #[hv n (.slice A L c), .int .i64 k] w (FineP (hv n (.slice A L c)) k w) := by
  by_cases hk : k = 0
  · subst hk
    go_enter Tryz.func126, Tryz.ntmps126
    go_wp2
    refine bodyPost_ret (v := hv n (.slice A L c)) (by simp [results, Tryz.results126, go_sem]) rfl ⟨?_, by first | rfl | rw [if_pos rfl]⟩
    exact ((Below.refl _ _).alloc (Nat.le_refl _) _).alloc (by simp) _
  · have q1 : (k != 0) = true := by rw [bne_iff_ne]; exact hk
    go_enter Tryz.func126, Tryz.ntmps126
    go_wp2
    exact ⟨rfl, by first | exact (Below.refl _ _).alloc (Nat.le_refl _) _ | exact ((Below.refl _ _).alloc (Nat.le_refl _) _).alloc (by simp) _, by first | rfl | (rw [if_neg hk]; rfl)⟩
theorem fine_set (s k : Int) (w : World) : Calls Tryz.prog 129 #[.int .u64 s, .int .i64 k] w (FineP (.int .u64 s) k w) := by
  by_cases hk : k = 0
  · subst hk
    go_enter Tryz.func129, Tryz.ntmps129
    go_wp2
    go_ret
    exact ⟨Below.refl _ _, rfl⟩
  · have q1 : (k != 0) = true := by rw [bne_iff_ne]; exact hk
    go_enter Tryz.func129, Tryz.ntmps129
    go_wp2
    exact ⟨rfl, Below.refl _ _, by first | rfl | (rw [if_neg hk]; rfl)⟩
theorem fine_ops (A : Option Addr) (n c : Nat) (k : Int) (w : World) : Calls Tryz.prog 133 #[.slice A n c, .int .i64 k] w (FineP (.slice A n c) k w) := by
  by_cases hk : k = 0
  · subst hk
    go_enter Tryz.func133, Tryz.ntmps133
    go_wp2
    go_ret
    exact ⟨Below.refl _ _, rfl⟩
  · have q1 : (k != 0) = true := by rw [bne_iff_ne]; exact hk
    go_enter Tryz.func133, Tryz.ntmps133
    go_wp2
    exact ⟨rfl, Below.refl _ _, by first | rfl | (rw [if_neg hk]; rfl)⟩
theorem fine_picks (A : Option Addr) (n c : Nat) (k : Int) (w : World) : Calls Tryz.prog 136 #[.slice A n c, .int .i64 k] w (FineP (.slice A n c) k w) := by
  by_cases hk : k = 0
  · subst hk
    go_enter Tryz.func136, Tryz.ntmps136
    go_wp2
    go_ret
    exact ⟨Below.refl _ _, rfl⟩
  · have q1 : (k != 0) = true := by rw [bne_iff_ne]; exact hk
    go_enter Tryz.func136, Tryz.ntmps136
    go_wp2
    exact ⟨rfl, Below.refl _ _, by first | rfl | (rw [if_neg hk]; rfl)⟩
end Go.Proofs.YtjnokhaojpijhaaGreatDoor
