import Derived.Deep.RegionHeldLaw
import Derived.Deep.RegionLaw
import Derived.Deep.Cut
import Derived.Lib.ItoaWalk
import Derived.Test.YtjnokhaojpijhaaGreatDoorPbf
import Derived.Test.YtjnokhaojpijhaaGreatDoorPas
import Derived.Test.YtjnokhaojpijhaaGreatDoorPac
import Derived.Test.YtjnokhaojpijhaaGreatDoorPab
/- Layer plan: what lays a line into a plan; laid. Written by tools/genplanr3.py. -/
namespace Go.Proofs.YtjnokhaojpijhaaGreatDoor
open Go.RowKit Go.Shelf Go.Proofs Go.Joins
/-- the slices vr, whose rows are no older than b0, are the rows l -/
def RowsI (b0 : Nat) (w : World) (vr : List Value) (l : Rws) : Prop := vr.length = l.length ∧ ∀ (i : Nat) (u : Value) (x : List Int), vr[i]? = some u → l[i]? = some x → w.ownsRow b0 3 1 u x.length (x.flatMap ic)
def RowsO (b0 : Nat) (w : World) (vr : List Value) (l : List (List Oq)) : Prop := vr.length = l.length ∧ ∀ (i : Nat) (u : Value) (x : List Oq), vr[i]? = some u → l[i]? = some x → w.ownsRow b0 106 4 u x.length (x.flatMap oq)
/-- what a plan's slices read as, all in blocks from b0 on -/
structure PlanO (b0 : Nat) (w : World) (ob rg pg pk : Value) (q : Pq) : Prop where
  ob : OwnR b0 w ob q.ob
  pk : w.ownsRow b0 108 2 pk q.pk.length (q.pk.flatMap pc)
  rg : ∃ vr, w.ownsRow b0 63 1 rg vr.length vr ∧ RowsI b0 w vr q.rg
  pg : ∃ vp, w.ownsRow b0 97 1 pg vp.length vp ∧ RowsO b0 w vp q.pg
theorem PlanO.read {b0 : Nat} {w : World} {ob rg pg pk : Value} {q : Pq} (h : PlanO b0 w ob rg pg pk q) : PlanR w ob rg pg pk q := by
  obtain ⟨vr, r1, r2⟩ := h.rg
  obtain ⟨vp, p1, p2⟩ := h.pg
  exact ⟨OwnRows.grid h.ob, ⟨vr, Sl.of_own (enc := one) (size := 1) one_len (by rw [flat_one]; exact r1), r2.1, fun i u l hu hl => Sl.of_own ic_len (r2.2 i u l hu hl)⟩,
    ⟨vp, Sl.of_own (enc := one) (size := 1) one_len (by rw [flat_one]; exact p1), p2.1, fun i u l hu hl => Sl.of_own oq_len (p2.2 i u l hu hl)⟩, Sl.of_own pc_len h.pk⟩
theorem PlanO.below {b0 : Nat} {w w' : World} {ob rg pg pk : Value} {q : Pq} (h : PlanO b0 w ob rg pg pk q) (hb : Below w.heap.size w w') : PlanO b0 w' ob rg pg pk q := by
  obtain ⟨vr, r1, r2⟩ := h.rg
  obtain ⟨vp, p1, p2⟩ := h.pg
  exact ⟨OwnRows.below h.ob hb, own_below h.pk hb, ⟨vr, own_below r1 hb, r2.1, fun i u l hu hl => own_below (r2.2 i u l hu hl) hb⟩, ⟨vp, own_below p1 hb, p2.1, fun i u l hu hl => own_below (p2.2 i u l hu hl) hb⟩⟩
theorem PlanO.set {b0 : Nat} {w : World} {ob rg pg pk : Value} {q : Pq} (h : PlanO b0 w ob rg pg pk q) {a : Addr} (ha : a.block < b0) (v : Value) : PlanO b0 (w.setCell a v) ob rg pg pk q := by
  obtain ⟨vr, r1, r2⟩ := h.rg
  obtain ⟨vp, p1, p2⟩ := h.pg
  exact ⟨OwnRows.setCell_below h.ob ha v, ownsRow_setCell_below h.pk ha v, ⟨vr, ownsRow_setCell_below r1 ha v, r2.1, fun i u l hu hl => ownsRow_setCell_below (r2.2 i u l hu hl) ha v⟩, ⟨vp, ownsRow_setCell_below p1 ha v, p2.1, fun i u l hu hl => ownsRow_setCell_below (p2.2 i u l hu hl) ha v⟩⟩
/-- the plan that is being laid, in block B, which is newer than W0 -/
structure LsV (b0 : Nat) (W0 : World) (B : Nat) (W : World) (q : Pq) (ob rg pg pk : Value) (vr vp : List Value) : Prop where
  hB : W0.heap.size ≤ B
  bw : Below W0.heap.size W0 W
  bp : Bp 30 W B q.wk q.mu q.cp q.bf q.bn q.mo q.pr q.li q.sl ob q.ro rg pg pk
  ob : OwnR b0 W0 ob q.ob
  pk : W0.ownsRow b0 108 2 pk q.pk.length (q.pk.flatMap pc)
  rg : W.ownsRow (B + 1) 63 1 rg vr.length vr
  rr : RowsI b0 W0 vr q.rg
  pg : W.ownsRow (B + 1) 97 1 pg vp.length vp
  rp : RowsO b0 W0 vp q.pg
def Lst (b0 : Nat) (W0 : World) (B : Nat) (W : World) (q : Pq) : Prop := ∃ ob rg pg pk vr vp, LsV b0 W0 B W q ob rg pg pk vr vp
section
variable {W0 W : World} {b0 B : Nat} {q : Pq} {ob rg pg pk : Value} {vr vp : List Value}
theorem LsV.read (h : LsV b0 W0 B W q ob rg pg pk vr vp) (hb0 : b0 ≤ B + 1) : PlanO b0 W ob rg pg pk q := by
  have hb := h.bw
  exact ⟨OwnRows.below h.ob hb, own_below h.pk hb, ⟨vr, own_base h.rg hb0, h.rr.1, fun i u l hu hl => own_below (h.rr.2 i u l hu hl) hb⟩, ⟨vp, own_base h.pg hb0, h.rp.1, fun i u l hu hl => own_below (h.rp.2 i u l hu hl) hb⟩⟩
theorem LsV.set {W' : World} (h : LsV b0 W0 B W q ob rg pg pk vr vp) {q' : Pq} {ob' pk' : Value} (hb : Below B W W') (hs : ∀ b, b ≠ B → W'.heap[b]? = W.heap[b]?)
    (bp : Bp 30 W' B q'.wk q'.mu q'.cp q'.bf q'.bn q'.mo q'.pr q'.li q'.sl ob' q'.ro rg pg pk') (ho : OwnR b0 W0 ob' q'.ob) (hk : W0.ownsRow b0 108 2 pk' q'.pk.length (q'.pk.flatMap pc)) (e1 : q'.rg = q.rg) (e2 : q'.pg = q.pg) : LsV b0 W0 B W' q' ob' rg pg pk' vr vp := by
  have kp : ∀ {t : TypeId} {v : Value} {n : Nat} {xs : List Value}, W.ownsRow (B + 1) t 1 v n xs → W'.ownsRow (B + 1) t 1 v n xs := fun {t v n xs} hr => by
    refine ⟨hr.1, ?_⟩
    rcases hr.2 with h0 | ⟨g, cap, cur, hv, hb2, hg, hr2⟩
    · exact .inl h0
    · exact .inr ⟨g, cap, cur, hv, hb2, (hs g (by omega)).trans hg, hr2⟩
  exact ⟨h.hB, h.bw.trans (hb.mono h.hB), bp, ho, hk, kp h.rg, by rw [e1]; exact h.rr, kp h.pg, by rw [e2]; exact h.rp⟩
theorem set_others (w : World) (B i : Nat) (x : Value) : ∀ b, b ≠ B → (w.setCell ⟨B, i, none⟩ x).heap[b]? = w.heap[b]? := fun b hb => Below.heap_setCell w ⟨B, i, none⟩ x b hb
theorem set_below (w : World) (B i : Nat) (x : Value) : Below B w (w.setCell ⟨B, i, none⟩ x) := (Below.refl _ _).setCell (p := ⟨B, i, none⟩) (Nat.le_refl _) x
end
/-- all is as it was, but for block R, and rows of parts -/
structure KpR (R : Nat) (w w' : World) : Prop where
  size : w.heap.size ≤ w'.heap.size
  block : ∀ i, i < w.heap.size → i ≠ R → (∀ cs fz, w.heap[i]? ≠ some (.cells cs 135 fz)) → w'.heap[i]? = w.heap[i]?
theorem KpR.refl (R : Nat) (w : World) : KpR R w w := ⟨Nat.le_refl _, fun _ _ _ _ => rfl⟩
theorem KpR.trans {R : Nat} {a b c : World} (h : KpR R a b) (k : KpR R b c) : KpR R a c :=
  ⟨Nat.le_trans h.size k.size, fun i hi hR ht => by
    have e := h.block i hi hR ht
    exact (k.block i (Nat.lt_of_lt_of_le hi h.size) hR (fun cs fz => by rw [e]; exact ht cs fz)).trans e⟩
theorem KpR.of_grown {R : Nat} {w w' : World} (h : w.grownBy w' (some R)) : KpR R w w' := ⟨h.size, fun i hi hR _ => h.block i hi (by intro e; injection e with e; exact hR e)⟩
theorem KpR.of_below {R : Nat} {w w' : World} (h : Below w.heap.size w w') : KpR R w w' := ⟨h.size, fun i hi _ _ => h.block i hi⟩
/-- an append onto a row of parts -/
theorem KpR.of_row {R b n : Nat} {w w' : World} {v : Value} {xs : List Value} (h : w.ownsRow b 135 1 v n xs) (hg : w.grownBy w' v.ownBlock) : KpR R w w' :=
  ⟨hg.size, fun i hi _ ht => hg.block i hi (by
    intro e
    rcases h.2 with ⟨rfl, _⟩ | ⟨g, cap, cur, rfl, _, hgg, _⟩
    · simp [Value.ownBlock] at e
    · simp only [Value.ownBlock, Option.some.injEq] at e
      subst e
      exact ht _ _ hgg)⟩
/-- the function v lays f into a plan, whatever was done to block R meanwhile -/
def PartAt (R : Nat) (w : World) (v : Value) (f : Pq → Pq) : Prop :=
  ∃ fo caps, v = .func (.func fo) #[] caps ∧ (∀ xs w, (callFunc fo xs).run Tryz.prog w = .ok (.enter fo xs) w) ∧
    (∀ q, (f q).rg.length ≤ q.rg.length + 1 ∧ (f q).pg.length ≤ q.pg.length + 1) ∧
    ∀ (W0 W : World) (B : Nat) (q : Pq), KpR R w W0 → Lst (R + 1) W0 B W q → q.rg.length ≤ 2000000 → q.pg.length ≤ 2000000 → Calls Tryz.prog fo (#[.pointer (some ⟨B, 0, none⟩)] ++ caps) W fun e W' => e = .returned (.tuple #[]) ∧ Lst (R + 1) W0 B W' (f q) ∧ Below B W W'
theorem PartAt.kept {R : Nat} {w w' : World} {v : Value} {f : Pq → Pq} (h : PartAt R w v f) (hg : KpR R w w') : PartAt R w' v f := by
  obtain ⟨fo, caps, h1, h2, h4, h3⟩ := h
  exact ⟨fo, caps, h1, h2, h4, fun W0 W B q hk => h3 W0 W B q (hg.trans hk)⟩
theorem PartAt.grown {R : Nat} {w w' : World} {v : Value} {f : Pq → Pq} (h : PartAt R w v f) (hg : w.grownBy w' (some R)) : PartAt R w' v f := h.kept (.of_grown hg)
theorem PartAt.below {R : Nat} {w w' : World} {v : Value} {f : Pq → Pq} (h : PartAt R w v f) (hb : Below w.heap.size w w') : PartAt R w' v f := h.grown (grown_of_below hb _)
/-- block C has these cells, and keeps them -/
theorem kept_block {R C : Nat} {w W0 W : World} {cs : Array Value} {t : TypeId} {fz : Nat × Nat} (h : w.heap[C]? = some (.cells cs t fz)) (ht : t ≠ 135) (hne : C ≠ R) (hg : KpR R w W0) (hb : Below W0.heap.size W0 W) : W.heap[C]? = some (.cells cs t fz) ∧ C < W0.heap.size := by
  have hlt : C < w.heap.size := (Array.getElem?_eq_some_iff.1 h).1
  have h0 := (hg.block C hlt hne (fun cs' fz' e => by rw [h] at e; injection e with e; injection e with _ e _; exact ht e)).trans h
  have hl0 : C < W0.heap.size := (Array.getElem?_eq_some_iff.1 h0).1
  exact ⟨(hb.block C hl0).trans h0, hl0⟩
theorem kept_own {R b : Nat} {w W0 : World} {t : TypeId} {size n : Nat} {v : Value} {xs : List Value} (h : w.ownsRow b t size v n xs) (ht : t ≠ 135) (hR : R < b) (hg : KpR R w W0) : W0.ownsRow b t size v n xs := by
  refine ⟨h.1, ?_⟩
  rcases h.2 with h0 | ⟨g, cap, cur, hv, hb, hgg, hr⟩
  · exact .inl h0
  · refine .inr ⟨g, cap, cur, hv, hb, (hg.block g (Array.getElem?_eq_some_iff.1 hgg).1 (by omega) (fun cs' fz' e => by rw [hgg] at e; injection e with e; injection e with _ e _; exact ht e)).trans hgg, hr⟩
theorem kept_rows {R b : Nat} {w W0 : World} {v : Value} {lo : Rws} (h : OwnR b w v lo) (hR : R < b) (hg : KpR R w W0) : OwnR b W0 v lo := by
  obtain ⟨vs, h1, h2, h3⟩ := h
  exact ⟨vs, kept_own h1 (by decide) hR hg, h2, fun i u l hu hl => kept_own (h3 i u l hu hl) (by decide) hR hg⟩
set_option maxRecDepth 100000 in
set_option maxHeartbeats 4000000 in
theorem heap_part (R C : Nat) (w : World) (n : Int) (A : Option Addr) (N c b : Nat) (lo : Rws) (hc : w.heap[C]? = some (.cells #[.int .i64 n, .slice A N c] 24)) (ho : OwnR b w (.slice A N c) lo) (hb : R < b) (hC : C ≠ R) : PartAt R w (.func (.func 128) #[] #[.pointer (some ⟨C, 0, none⟩)]) (fun q => { q with sl := n, ob := lo }) := by
  refine ⟨_, _, rfl, enters_of Tryz.func128 (by kernel_rfl) rfl, fun q => ⟨Nat.le_succ _, Nat.le_succ _⟩, fun W0 W B q hg hL _ _ => ?_⟩
  obtain ⟨ob, rg, pg, pk, vr, vp, hL⟩ := hL
  obtain ⟨hk, hlt⟩ := kept_block hc (by decide) hC hg hL.bw
  have c0 := cell_of_block hk 0
  have c1 := cell_of_block hk 1
  clear hk
  have HL := hide hL
  have y := hL.bp.lt
  have fz : ∀ i, W.frozen? ⟨B, i, none⟩ = false := fun i => unfrozen_of_block hL.bp.blk i
  have z8 := cell_of_block hL.bp.blk 8
  have z9 := cell_of_block hL.bp.blk 9
  have f8 := fz 8
  have f9 := fz 9
  have HG := hide (show OwnR (R + 1) W0 (.slice A N c) lo from OwnRows.le (kept_rows ho hb hg) (by omega))
  have hb0 := hL.hB
  have n1 : C < B := by omega
  clear hL hg hc ho fz
  go_enter Tryz.func128, Tryz.ntmps128
  go_wp2
  go_end0
  refine ⟨rfl, ⟨_, _, _, _, _, _, HL.out.set ((set_below _ _ _ _).trans (set_below _ _ _ _)) (fun b hb => (set_others _ _ _ _ b hb).trans (set_others _ _ _ _ b hb)) ⟨?_⟩ HG.out HL.out.pk rfl rfl⟩, (set_below _ _ _ _).trans (set_below _ _ _ _)⟩
  have h := block_setCell HL.out.bp.blk (i := 8) (.int .i64 n)
  rw [block_setCell h]; rfl
set_option maxRecDepth 100000 in
set_option maxHeartbeats 4000000 in
theorem roots_part (R C : Nat) (w : World) (s : Nat) (hc : w.heap[C]? = some (.cells #[.int .u64 (s : Int)] 26)) (hC : C ≠ R) : PartAt R w (.func (.func 131) #[] #[.pointer (some ⟨C, 0, none⟩)]) (fun q => { q with ro := s }) := by
  refine ⟨_, _, rfl, enters_of Tryz.func131 (by kernel_rfl) rfl, fun q => ⟨Nat.le_succ _, Nat.le_succ _⟩, fun W0 W B q hg hL _ _ => ?_⟩
  obtain ⟨ob, rg, pg, pk, vr, vp, hL⟩ := hL
  obtain ⟨hk, hlt⟩ := kept_block hc (by decide) hC hg hL.bw
  have c0 := cell_of_block hk 0
  clear hk
  have HL := hide hL
  have y := hL.bp.lt
  have fz : ∀ i, W.frozen? ⟨B, i, none⟩ = false := fun i => unfrozen_of_block hL.bp.blk i
  have z8 := cell_of_block hL.bp.blk 10
  have f8 := fz 10
  have hb0 := hL.hB
  have n1 : C < B := by omega
  clear hL hg hc fz
  go_enter Tryz.func131, Tryz.ntmps131
  go_wp2
  go_end0
  refine ⟨rfl, ⟨_, _, _, _, _, _, HL.out.set (set_below _ _ _ _) (fun b hb => set_others _ _ _ _ b hb) ⟨?_⟩ HL.out.ob HL.out.pk rfl rfl⟩, set_below _ _ _ _⟩
  rw [block_setCell HL.out.bp.blk]; rfl
set_option maxRecDepth 100000 in
set_option maxHeartbeats 4000000 in
theorem picks_part (R C : Nat) (w : World) (A : Option Addr) (N c b : Nat) (lk : List PP) (hN : lk.length = N) (hc : w.heap[C]? = some (.cells #[.slice A N c] 28)) (ho : w.ownsRow b 108 2 (.slice A N c) N (lk.flatMap pc)) (hb : R < b) (hC : C ≠ R) : PartAt R w (.func (.func 138) #[] #[.pointer (some ⟨C, 0, none⟩)]) (fun q => { q with pk := lk }) := by
  refine ⟨_, _, rfl, enters_of Tryz.func138 (by kernel_rfl) rfl, fun q => ⟨Nat.le_succ _, Nat.le_succ _⟩, fun W0 W B q hg hL _ _ => ?_⟩
  obtain ⟨ob, rg, pg, pk, vr, vp, hL⟩ := hL
  obtain ⟨hk, hlt⟩ := kept_block hc (by decide) hC hg hL.bw
  have c0 := cell_of_block hk 0
  clear hk
  have HL := hide hL
  have y := hL.bp.lt
  have fz : ∀ i, W.frozen? ⟨B, i, none⟩ = false := fun i => unfrozen_of_block hL.bp.blk i
  have z8 := cell_of_block hL.bp.blk 13
  have f8 := fz 13
  have HK := hide (show W0.ownsRow (R + 1) 108 2 (.slice A N c) lk.length (lk.flatMap pc) by subst hN; exact own_base (kept_own ho (by decide) hb hg) (by omega))
  have hb0 := hL.hB
  have n1 : C < B := by omega
  clear hL hg hc ho fz
  go_enter Tryz.func138, Tryz.ntmps138
  go_wp2
  go_end0
  refine ⟨rfl, ⟨_, _, _, _, _, _, HL.out.set (set_below _ _ _ _) (fun b hb => set_others _ _ _ _ b hb) ⟨?_⟩ HL.out.ob HK.out rfl rfl⟩, set_below _ _ _ _⟩
  rw [block_setCell HL.out.bp.blk]; rfl
end Go.Proofs.YtjnokhaojpijhaaGreatDoor
/- Layer plan: what lays the first line into a plan. Written by tools/genplanr3.py. -/
namespace Go.Proofs.YtjnokhaojpijhaaGreatDoor
open Go.RowKit Go.Shelf Go.Proofs Go.Joins
/-- block C has a slice of eight numbers, in row r -/
structure Cn (C r : Nat) (cp : Nat) (x0 x1 x2 x3 x4 x5 x6 x7 : Int) (W : World) : Prop where
  c : W.cell? ⟨C, 0, none⟩ = some (.slice (some ⟨r, 0, none⟩) 8 cp)
  c0 : W.cell? ⟨r, 0, none⟩ = some (.int .i64 x0)
  c1 : W.cell? ⟨r, 1, none⟩ = some (.int .i64 x1)
  c2 : W.cell? ⟨r, 2, none⟩ = some (.int .i64 x2)
  c3 : W.cell? ⟨r, 3, none⟩ = some (.int .i64 x3)
  c4 : W.cell? ⟨r, 4, none⟩ = some (.int .i64 x4)
  c5 : W.cell? ⟨r, 5, none⟩ = some (.int .i64 x5)
  c6 : W.cell? ⟨r, 6, none⟩ = some (.int .i64 x6)
  c7 : W.cell? ⟨r, 7, none⟩ = some (.int .i64 x7)
section
variable {C r cp : Nat} {x0 x1 x2 x3 x4 x5 x6 x7 : Int} {W : World}
theorem Cn.drew (h : Cn C r cp x0 x1 x2 x3 x4 x5 x6 x7 W) : Cn C r cp x0 x1 x2 x3 x4 x5 x6 x7 W.drew := ⟨h.c, h.c0, h.c1, h.c2, h.c3, h.c4, h.c5, h.c6, h.c7⟩
theorem Cn.set {B : Nat} (h : Cn C r cp x0 x1 x2 x3 x4 x5 x6 x7 W) (hC : C < B) (hr : r < B) (i : Nat) (v : Value) : Cn C r cp x0 x1 x2 x3 x4 x5 x6 x7 (W.setCell ⟨B, i, none⟩ v) := by
  have kb : ∀ b o u, b < B → W.cell? ⟨b, o, none⟩ = some u → (W.setCell ⟨B, i, none⟩ v).cell? ⟨b, o, none⟩ = some u := fun b o u hb hu => ((set_below W B i v).cell (p := ⟨b, o, none⟩) hb).trans hu
  exact ⟨kb _ _ _ hC h.c, kb _ _ _ hr h.c0, kb _ _ _ hr h.c1, kb _ _ _ hr h.c2, kb _ _ _ hr h.c3, kb _ _ _ hr h.c4, kb _ _ _ hr h.c5, kb _ _ _ hr h.c6, kb _ _ _ hr h.c7⟩
theorem Cn.all (h : Cn C r cp x0 x1 x2 x3 x4 x5 x6 x7 W) : W.cell? ⟨C, 0, none⟩ = some (.slice (some ⟨r, 0, none⟩) 8 cp) ∧ W.cell? ⟨r, 0, none⟩ = some (.int .i64 x0) ∧ W.cell? ⟨r, 1, none⟩ = some (.int .i64 x1) ∧ W.cell? ⟨r, 2, none⟩ = some (.int .i64 x2) ∧ W.cell? ⟨r, 3, none⟩ = some (.int .i64 x3) ∧
    W.cell? ⟨r, 4, none⟩ = some (.int .i64 x4) ∧ W.cell? ⟨r, 5, none⟩ = some (.int .i64 x5) ∧ W.cell? ⟨r, 6, none⟩ = some (.int .i64 x6) ∧ W.cell? ⟨r, 7, none⟩ = some (.int .i64 x7) := ⟨h.c, h.c0, h.c1, h.c2, h.c3, h.c4, h.c5, h.c6, h.c7⟩
end
set_option maxRecDepth 100000 in
set_option maxHeartbeats 16000000 in
theorem eng_walk (C r cp B : Nat) (_hcp : 8 ≤ cp) (_hcm : cp ≤ 9223372036854775807) (x0 x1 x2 x3 x4 x5 x6 x7 : Int) (W : World) (hN : Cn C r cp x0 x1 x2 x3 x4 x5 x6 x7 W) (hC : C < B) (hr : r < B) (a b c d e f g h n : Int) (ob : Value) (s : Nat) (rg pg pk : Value) (X : W.heap[B]? = some (.cells (planC a b c d e f g h n ob s rg pg pk) 30)) :
    Calls Tryz.prog 123 #[.pointer (some ⟨B, 0, none⟩), .pointer (some ⟨C, 0, none⟩)] W fun e w' => e = .returned (.tuple #[]) ∧ w'.heap[B]? = some (.cells (planC x0 x1 x2 x3 x4 x5 x6 x7 n ob s rg pg pk) 30) ∧ Below B W w' ∧ ∀ j, j ≠ B → w'.heap[j]? = W.heap[j]? := by
  have HN := hide hN
  have HX := hide X
  clear hN X
  go_enter Tryz.func123, Tryz.ntmps123
  have z0 := cell_of_block HX.out 0
  have f0 := unfrozen_of_block HX.out 0
  have z1 := cell_of_block HX.out 1
  have f1 := unfrozen_of_block HX.out 1
  go_wp2
  refine wp_region_held_drew (S := fun w' => w'.cell? ⟨C, 0, none⟩ = some (.slice (some ⟨r, 0, none⟩) 8 cp) ∧ w'.cell? ⟨r, 0, none⟩ = some (.int .i64 x0) ∧ w'.cell? ⟨r, 1, none⟩ = some (.int .i64 x1) ∧ w'.cell? ⟨r, 2, none⟩ = some (.int .i64 x2) ∧ w'.cell? ⟨r, 3, none⟩ = some (.int .i64 x3) ∧ w'.cell? ⟨r, 4, none⟩ = some (.int .i64 x4) ∧ w'.cell? ⟨r, 5, none⟩ = some (.int .i64 x5) ∧ w'.cell? ⟨r, 6, none⟩ = some (.int .i64 x6) ∧ w'.cell? ⟨r, 7, none⟩ = some (.int .i64 x7)) (by kernel_rfl) ?_ (fun hHeld => ?_)
  · exact (by first | (with_reducible exact (HN.out.drew).all) | (with_reducible exact ((HN.out.drew.set hC hr _ _)).all) | (with_reducible exact (((HN.out.drew.set hC hr _ _).set hC hr _ _)).all) | (with_reducible exact ((HN.out.set hC hr _ _).drew).all) | (with_reducible exact (((HN.out.set hC hr _ _).set hC hr _ _).drew).all))
  refine tkH 0 ⟨some 3, .move (.tmp 0), 136, "reader.go:76", #[], none⟩ (h := ?_)
  refine tkH 1 ⟨some 4, .move (.tmp 0), 136, "reader.go:76", #[⟨10, .gcOnly .lateStores⟩], none⟩ (h := ?_)
  refine tkH 2 ⟨some 5, .load 63 (.tmp 1), 63, "reader.go:76", #[], none⟩ (h := ?_)
  refine tkH 3 ⟨some 6, .indexAddr 63 (.tmp 5) (.const (.int .i64 0)), 0, "reader.go:76", #[⟨2, .data⟩], none⟩ (h := ?_)
  refine tkH 4 ⟨some 7, .load 3 (.tmp 6), 3, "reader.go:76", #[⟨3, .data⟩], none⟩ (h := ?_)
  refine tkH 5 ⟨some 8, .load 63 (.tmp 1), 63, "reader.go:76", #[], none⟩ (h := ?_)
  refine tkH 6 ⟨some 9, .indexAddr 63 (.tmp 8) (.const (.int .i64 1)), 0, "reader.go:76", #[⟨5, .data⟩], none⟩ (h := ?_)
  refine tkH 7 ⟨some 10, .load 3 (.tmp 9), 3, "reader.go:76", #[⟨6, .data⟩], none⟩ (h := ?_)
  refine tkH 8 ⟨some 11, .nilCheck (.tmp 3), 0, "reader.go:76", #[⟨0, .data⟩, ⟨0, .phase⟩, ⟨1, .textOnly .lateStores⟩, ⟨2, .phase⟩, ⟨3, .phase⟩, ⟨4, .phase⟩, ⟨5, .textOnly .inlinedCapture⟩, ⟨6, .textOnly .lateStoresUnsure⟩, ⟨7, .phase⟩], none⟩ (h := ?_)
  refine tkH 9 ⟨some 12, .fieldAddr 30 (.tmp 11) 0, 0, "reader.go:76", #[⟨8, .data⟩, ⟨0, .phase⟩, ⟨1, .textOnly .lateStores⟩, ⟨2, .phase⟩, ⟨3, .phase⟩, ⟨4, .phase⟩, ⟨5, .textOnly .inlinedCapture⟩, ⟨6, .textOnly .lateStoresUnsure⟩, ⟨7, .phase⟩], none⟩ (h := ?_)
  refine wpAnyH_ready (rs := [10]) (by kernel_rfl) (by simp) ?_
  refine AllReadyH.cons rfl (fun K hK => ?_) AllReadyH.nil
  go_simp
  (try go_simp)
  refine hK.out _ _ (by first | (with_reducible exact (HN.out.drew).all) | (with_reducible exact ((HN.out.drew.set hC hr _ _)).all) | (with_reducible exact (((HN.out.drew.set hC hr _ _).set hC hr _ _)).all) | (with_reducible exact ((HN.out.set hC hr _ _).drew).all) | (with_reducible exact (((HN.out.set hC hr _ _).set hC hr _ _).drew).all)) (fun hHeld => ?_)
  (try simp only [Act.put, List.setIfInBounds_toArray, List.set_cons_zero, List.set_cons_succ])
  refine tkH 11 ⟨some 13, .nilCheck (.tmp 4), 0, "reader.go:76", #[⟨1, .data⟩, ⟨0, .phase⟩, ⟨1, .phase⟩, ⟨2, .phase⟩, ⟨3, .phase⟩, ⟨4, .phase⟩, ⟨5, .phase⟩, ⟨6, .phase⟩, ⟨7, .phase⟩, ⟨8, .phase⟩, ⟨9, .phase⟩, ⟨10, .phase⟩], none⟩ (h := ?_)
  refine tkH 12 ⟨some 14, .fieldAddr 30 (.tmp 13) 1, 0, "reader.go:76", #[⟨11, .data⟩, ⟨0, .phase⟩, ⟨1, .phase⟩, ⟨2, .phase⟩, ⟨3, .phase⟩, ⟨4, .phase⟩, ⟨5, .phase⟩, ⟨6, .phase⟩, ⟨7, .phase⟩, ⟨8, .phase⟩, ⟨9, .phase⟩, ⟨10, .phase⟩], none⟩ (h := ?_)
  refine wpAnyH_ready (rs := [13]) (by kernel_rfl) (by simp) ?_
  refine AllReadyH.cons rfl (fun K hK => ?_) AllReadyH.nil
  go_simp
  (try go_simp)
  refine hK.out _ _ (by first | (with_reducible exact (HN.out.drew).all) | (with_reducible exact ((HN.out.drew.set hC hr _ _)).all) | (with_reducible exact (((HN.out.drew.set hC hr _ _).set hC hr _ _)).all) | (with_reducible exact ((HN.out.set hC hr _ _).drew).all) | (with_reducible exact (((HN.out.set hC hr _ _).set hC hr _ _).drew).all)) (fun hHeld => ?_)
  (try simp only [Act.put, List.setIfInBounds_toArray, List.set_cons_zero, List.set_cons_succ])
  refine wpAnyH_done (by kernel_rfl) ?_ _
  go_wp2
  clear z0 f0 z1 f1
  go_name_world W1 e1
  replace HX := hide (show W1.heap[B]? = some (.cells (planC x0 x1 c d e f g h n ob s rg pg pk) 30) by rw [← e1]; exact (block_setCell (block_setCell HX.out (i := 0) (.int .i64 x0)) (i := 1) (.int .i64 x1)))
  replace HN := hide (show Cn C r cp x0 x1 x2 x3 x4 x5 x6 x7 W1 by rw [← e1]; exact (((HN.out.set hC hr _ _).set hC hr _ _)).drew)
  have hbx : Below B W W1 := by rw [← e1]; exact belowD (((Below.refl B _).setCell (p := ⟨B, 0, none⟩) (Nat.le_refl B) (.int .i64 x0)).setCell (p := ⟨B, 1, none⟩) (Nat.le_refl B) (.int .i64 x1))
  have hox : ∀ j, j ≠ B → W1.heap[j]? = W.heap[j]? := fun j hj => by rw [← e1]; exact ((set_others _ B 1 _ j hj).trans ((set_others _ B 0 _ j hj).trans rfl))
  have HB := hide hbx
  have HO := hide hox
  clear hbx hox e1
  have z2 := cell_of_block HX.out 2
  have f2 := unfrozen_of_block HX.out 2
  have z3 := cell_of_block HX.out 3
  have f3 := unfrozen_of_block HX.out 3
  have z4 := cell_of_block HX.out 4
  have f4 := unfrozen_of_block HX.out 4
  have z5 := cell_of_block HX.out 5
  have f5 := unfrozen_of_block HX.out 5
  go_wp2
  refine wp_region_held_drew (S := fun w' => w'.cell? ⟨C, 0, none⟩ = some (.slice (some ⟨r, 0, none⟩) 8 cp) ∧ w'.cell? ⟨r, 0, none⟩ = some (.int .i64 x0) ∧ w'.cell? ⟨r, 1, none⟩ = some (.int .i64 x1) ∧ w'.cell? ⟨r, 2, none⟩ = some (.int .i64 x2) ∧ w'.cell? ⟨r, 3, none⟩ = some (.int .i64 x3) ∧ w'.cell? ⟨r, 4, none⟩ = some (.int .i64 x4) ∧ w'.cell? ⟨r, 5, none⟩ = some (.int .i64 x5) ∧ w'.cell? ⟨r, 6, none⟩ = some (.int .i64 x6) ∧ w'.cell? ⟨r, 7, none⟩ = some (.int .i64 x7)) (by kernel_rfl) ?_ (fun hHeld => ?_)
  · exact (by first | (with_reducible exact (HN.out.drew).all) | (with_reducible exact ((HN.out.drew.set hC hr _ _)).all) | (with_reducible exact (((HN.out.drew.set hC hr _ _).set hC hr _ _)).all) | (with_reducible exact ((((HN.out.drew.set hC hr _ _).set hC hr _ _).set hC hr _ _)).all) | (with_reducible exact (((((HN.out.drew.set hC hr _ _).set hC hr _ _).set hC hr _ _).set hC hr _ _)).all) | (with_reducible exact ((HN.out.set hC hr _ _).drew).all) | (with_reducible exact (((HN.out.set hC hr _ _).set hC hr _ _).drew).all) | (with_reducible exact ((((HN.out.set hC hr _ _).set hC hr _ _).set hC hr _ _).drew).all) | (with_reducible exact (((((HN.out.set hC hr _ _).set hC hr _ _).set hC hr _ _).set hC hr _ _).drew).all))
  refine tkH 0 ⟨some 15, .move (.tmp 0), 136, "reader.go:77", #[], none⟩ (h := ?_)
  refine tkH 1 ⟨some 16, .move (.tmp 0), 136, "reader.go:77", #[⟨18, .gcOnly .lateStores⟩], none⟩ (h := ?_)
  refine tkH 2 ⟨some 17, .move (.tmp 0), 136, "reader.go:77", #[⟨21, .gcOnly .lateStores⟩], none⟩ (h := ?_)
  refine tkH 3 ⟨some 18, .move (.tmp 0), 136, "reader.go:77", #[⟨24, .gcOnly .lateStores⟩], none⟩ (h := ?_)
  refine tkH 4 ⟨some 19, .load 63 (.tmp 1), 63, "reader.go:77", #[], none⟩ (h := ?_)
  refine tkH 5 ⟨some 20, .indexAddr 63 (.tmp 19) (.const (.int .i64 2)), 0, "reader.go:77", #[⟨4, .data⟩], none⟩ (h := ?_)
  refine tkH 6 ⟨some 21, .load 3 (.tmp 20), 3, "reader.go:77", #[⟨5, .data⟩], none⟩ (h := ?_)
  refine tkH 7 ⟨some 22, .load 63 (.tmp 1), 63, "reader.go:77", #[], none⟩ (h := ?_)
  refine tkH 8 ⟨some 23, .indexAddr 63 (.tmp 22) (.const (.int .i64 3)), 0, "reader.go:77", #[⟨7, .data⟩], none⟩ (h := ?_)
  refine tkH 9 ⟨some 24, .load 3 (.tmp 23), 3, "reader.go:77", #[⟨8, .data⟩], none⟩ (h := ?_)
  refine tkH 10 ⟨some 25, .load 63 (.tmp 1), 63, "reader.go:77", #[], none⟩ (h := ?_)
  refine tkH 11 ⟨some 26, .indexAddr 63 (.tmp 25) (.const (.int .i64 4)), 0, "reader.go:77", #[⟨10, .data⟩], none⟩ (h := ?_)
  refine tkH 12 ⟨some 27, .load 3 (.tmp 26), 3, "reader.go:77", #[⟨11, .data⟩], none⟩ (h := ?_)
  refine tkH 13 ⟨some 28, .load 63 (.tmp 1), 63, "reader.go:77", #[], none⟩ (h := ?_)
  refine tkH 14 ⟨some 29, .indexAddr 63 (.tmp 28) (.const (.int .i64 5)), 0, "reader.go:77", #[⟨13, .data⟩], none⟩ (h := ?_)
  refine tkH 15 ⟨some 30, .load 3 (.tmp 29), 3, "reader.go:77", #[⟨14, .data⟩], none⟩ (h := ?_)
  refine tkH 16 ⟨some 31, .nilCheck (.tmp 15), 0, "reader.go:77", #[⟨0, .data⟩, ⟨0, .phase⟩, ⟨1, .textOnly .lateStores⟩, ⟨2, .textOnly .lateStores⟩, ⟨3, .textOnly .lateStores⟩, ⟨4, .phase⟩, ⟨5, .phase⟩, ⟨6, .phase⟩, ⟨7, .textOnly .inlinedCapture⟩, ⟨8, .textOnly .lateStoresUnsure⟩, ⟨9, .phase⟩, ⟨10, .textOnly .inlinedCapture⟩, ⟨11, .textOnly .lateStoresUnsure⟩, ⟨12, .phase⟩, ⟨13, .textOnly .inlinedCapture⟩, ⟨14, .textOnly .lateStoresUnsure⟩, ⟨15, .phase⟩], none⟩ (h := ?_)
  refine tkH 17 ⟨some 32, .fieldAddr 30 (.tmp 31) 2, 0, "reader.go:77", #[⟨16, .data⟩, ⟨0, .phase⟩, ⟨1, .textOnly .lateStores⟩, ⟨2, .textOnly .lateStores⟩, ⟨3, .textOnly .lateStores⟩, ⟨4, .phase⟩, ⟨5, .phase⟩, ⟨6, .phase⟩, ⟨7, .textOnly .inlinedCapture⟩, ⟨8, .textOnly .lateStoresUnsure⟩, ⟨9, .phase⟩, ⟨10, .textOnly .inlinedCapture⟩, ⟨11, .textOnly .lateStoresUnsure⟩, ⟨12, .phase⟩, ⟨13, .textOnly .inlinedCapture⟩, ⟨14, .textOnly .lateStoresUnsure⟩, ⟨15, .phase⟩], none⟩ (h := ?_)
  refine wpAnyH_ready (rs := [18]) (by kernel_rfl) (by simp) ?_
  refine AllReadyH.cons rfl (fun K hK => ?_) AllReadyH.nil
  go_simp
  (try go_simp)
  refine hK.out _ _ (by first | (with_reducible exact (HN.out.drew).all) | (with_reducible exact ((HN.out.drew.set hC hr _ _)).all) | (with_reducible exact (((HN.out.drew.set hC hr _ _).set hC hr _ _)).all) | (with_reducible exact ((((HN.out.drew.set hC hr _ _).set hC hr _ _).set hC hr _ _)).all) | (with_reducible exact (((((HN.out.drew.set hC hr _ _).set hC hr _ _).set hC hr _ _).set hC hr _ _)).all) | (with_reducible exact ((HN.out.set hC hr _ _).drew).all) | (with_reducible exact (((HN.out.set hC hr _ _).set hC hr _ _).drew).all) | (with_reducible exact ((((HN.out.set hC hr _ _).set hC hr _ _).set hC hr _ _).drew).all) | (with_reducible exact (((((HN.out.set hC hr _ _).set hC hr _ _).set hC hr _ _).set hC hr _ _).drew).all)) (fun hHeld => ?_)
  (try simp only [Act.put, List.setIfInBounds_toArray, List.set_cons_zero, List.set_cons_succ])
  refine tkH 19 ⟨some 33, .nilCheck (.tmp 16), 0, "reader.go:77", #[⟨1, .data⟩, ⟨0, .phase⟩, ⟨1, .phase⟩, ⟨2, .textOnly .lateStores⟩, ⟨3, .textOnly .lateStores⟩, ⟨4, .phase⟩, ⟨5, .phase⟩, ⟨6, .phase⟩, ⟨7, .phase⟩, ⟨8, .phase⟩, ⟨9, .phase⟩, ⟨10, .textOnly .inlinedCapture⟩, ⟨11, .textOnly .lateStoresUnsure⟩, ⟨12, .phase⟩, ⟨13, .textOnly .inlinedCapture⟩, ⟨14, .textOnly .lateStoresUnsure⟩, ⟨15, .phase⟩, ⟨16, .phase⟩, ⟨17, .phase⟩, ⟨18, .phase⟩], none⟩ (h := ?_)
  refine tkH 20 ⟨some 34, .fieldAddr 30 (.tmp 33) 3, 0, "reader.go:77", #[⟨19, .data⟩, ⟨0, .phase⟩, ⟨1, .phase⟩, ⟨2, .textOnly .lateStores⟩, ⟨3, .textOnly .lateStores⟩, ⟨4, .phase⟩, ⟨5, .phase⟩, ⟨6, .phase⟩, ⟨7, .phase⟩, ⟨8, .phase⟩, ⟨9, .phase⟩, ⟨10, .textOnly .inlinedCapture⟩, ⟨11, .textOnly .lateStoresUnsure⟩, ⟨12, .phase⟩, ⟨13, .textOnly .inlinedCapture⟩, ⟨14, .textOnly .lateStoresUnsure⟩, ⟨15, .phase⟩, ⟨16, .phase⟩, ⟨17, .phase⟩, ⟨18, .phase⟩], none⟩ (h := ?_)
  refine wpAnyH_ready (rs := [21]) (by kernel_rfl) (by simp) ?_
  refine AllReadyH.cons rfl (fun K hK => ?_) AllReadyH.nil
  go_simp
  (try go_simp)
  refine hK.out _ _ (by first | (with_reducible exact (HN.out.drew).all) | (with_reducible exact ((HN.out.drew.set hC hr _ _)).all) | (with_reducible exact (((HN.out.drew.set hC hr _ _).set hC hr _ _)).all) | (with_reducible exact ((((HN.out.drew.set hC hr _ _).set hC hr _ _).set hC hr _ _)).all) | (with_reducible exact (((((HN.out.drew.set hC hr _ _).set hC hr _ _).set hC hr _ _).set hC hr _ _)).all) | (with_reducible exact ((HN.out.set hC hr _ _).drew).all) | (with_reducible exact (((HN.out.set hC hr _ _).set hC hr _ _).drew).all) | (with_reducible exact ((((HN.out.set hC hr _ _).set hC hr _ _).set hC hr _ _).drew).all) | (with_reducible exact (((((HN.out.set hC hr _ _).set hC hr _ _).set hC hr _ _).set hC hr _ _).drew).all)) (fun hHeld => ?_)
  (try simp only [Act.put, List.setIfInBounds_toArray, List.set_cons_zero, List.set_cons_succ])
  refine tkH 22 ⟨some 35, .nilCheck (.tmp 17), 0, "reader.go:77", #[⟨2, .data⟩, ⟨0, .phase⟩, ⟨1, .phase⟩, ⟨2, .phase⟩, ⟨3, .textOnly .lateStores⟩, ⟨4, .phase⟩, ⟨5, .phase⟩, ⟨6, .phase⟩, ⟨7, .phase⟩, ⟨8, .phase⟩, ⟨9, .phase⟩, ⟨10, .phase⟩, ⟨11, .phase⟩, ⟨12, .phase⟩, ⟨13, .textOnly .inlinedCapture⟩, ⟨14, .textOnly .lateStoresUnsure⟩, ⟨15, .phase⟩, ⟨16, .phase⟩, ⟨17, .phase⟩, ⟨18, .phase⟩, ⟨19, .phase⟩, ⟨20, .phase⟩, ⟨21, .phase⟩], none⟩ (h := ?_)
  refine tkH 23 ⟨some 36, .fieldAddr 30 (.tmp 35) 4, 0, "reader.go:77", #[⟨22, .data⟩, ⟨0, .phase⟩, ⟨1, .phase⟩, ⟨2, .phase⟩, ⟨3, .textOnly .lateStores⟩, ⟨4, .phase⟩, ⟨5, .phase⟩, ⟨6, .phase⟩, ⟨7, .phase⟩, ⟨8, .phase⟩, ⟨9, .phase⟩, ⟨10, .phase⟩, ⟨11, .phase⟩, ⟨12, .phase⟩, ⟨13, .textOnly .inlinedCapture⟩, ⟨14, .textOnly .lateStoresUnsure⟩, ⟨15, .phase⟩, ⟨16, .phase⟩, ⟨17, .phase⟩, ⟨18, .phase⟩, ⟨19, .phase⟩, ⟨20, .phase⟩, ⟨21, .phase⟩], none⟩ (h := ?_)
  refine wpAnyH_ready (rs := [24]) (by kernel_rfl) (by simp) ?_
  refine AllReadyH.cons rfl (fun K hK => ?_) AllReadyH.nil
  go_simp
  (try go_simp)
  refine hK.out _ _ (by first | (with_reducible exact (HN.out.drew).all) | (with_reducible exact ((HN.out.drew.set hC hr _ _)).all) | (with_reducible exact (((HN.out.drew.set hC hr _ _).set hC hr _ _)).all) | (with_reducible exact ((((HN.out.drew.set hC hr _ _).set hC hr _ _).set hC hr _ _)).all) | (with_reducible exact (((((HN.out.drew.set hC hr _ _).set hC hr _ _).set hC hr _ _).set hC hr _ _)).all) | (with_reducible exact ((HN.out.set hC hr _ _).drew).all) | (with_reducible exact (((HN.out.set hC hr _ _).set hC hr _ _).drew).all) | (with_reducible exact ((((HN.out.set hC hr _ _).set hC hr _ _).set hC hr _ _).drew).all) | (with_reducible exact (((((HN.out.set hC hr _ _).set hC hr _ _).set hC hr _ _).set hC hr _ _).drew).all)) (fun hHeld => ?_)
  (try simp only [Act.put, List.setIfInBounds_toArray, List.set_cons_zero, List.set_cons_succ])
  refine tkH 25 ⟨some 37, .nilCheck (.tmp 18), 0, "reader.go:77", #[⟨3, .data⟩, ⟨0, .phase⟩, ⟨1, .phase⟩, ⟨2, .phase⟩, ⟨3, .phase⟩, ⟨4, .phase⟩, ⟨5, .phase⟩, ⟨6, .phase⟩, ⟨7, .phase⟩, ⟨8, .phase⟩, ⟨9, .phase⟩, ⟨10, .phase⟩, ⟨11, .phase⟩, ⟨12, .phase⟩, ⟨13, .phase⟩, ⟨14, .phase⟩, ⟨15, .phase⟩, ⟨16, .phase⟩, ⟨17, .phase⟩, ⟨18, .phase⟩, ⟨19, .phase⟩, ⟨20, .phase⟩, ⟨21, .phase⟩, ⟨22, .phase⟩, ⟨23, .phase⟩, ⟨24, .phase⟩], none⟩ (h := ?_)
  refine tkH 26 ⟨some 38, .fieldAddr 30 (.tmp 37) 5, 0, "reader.go:77", #[⟨25, .data⟩, ⟨0, .phase⟩, ⟨1, .phase⟩, ⟨2, .phase⟩, ⟨3, .phase⟩, ⟨4, .phase⟩, ⟨5, .phase⟩, ⟨6, .phase⟩, ⟨7, .phase⟩, ⟨8, .phase⟩, ⟨9, .phase⟩, ⟨10, .phase⟩, ⟨11, .phase⟩, ⟨12, .phase⟩, ⟨13, .phase⟩, ⟨14, .phase⟩, ⟨15, .phase⟩, ⟨16, .phase⟩, ⟨17, .phase⟩, ⟨18, .phase⟩, ⟨19, .phase⟩, ⟨20, .phase⟩, ⟨21, .phase⟩, ⟨22, .phase⟩, ⟨23, .phase⟩, ⟨24, .phase⟩], none⟩ (h := ?_)
  refine wpAnyH_ready (rs := [27]) (by kernel_rfl) (by simp) ?_
  refine AllReadyH.cons rfl (fun K hK => ?_) AllReadyH.nil
  go_simp
  (try go_simp)
  refine hK.out _ _ (by first | (with_reducible exact (HN.out.drew).all) | (with_reducible exact ((HN.out.drew.set hC hr _ _)).all) | (with_reducible exact (((HN.out.drew.set hC hr _ _).set hC hr _ _)).all) | (with_reducible exact ((((HN.out.drew.set hC hr _ _).set hC hr _ _).set hC hr _ _)).all) | (with_reducible exact (((((HN.out.drew.set hC hr _ _).set hC hr _ _).set hC hr _ _).set hC hr _ _)).all) | (with_reducible exact ((HN.out.set hC hr _ _).drew).all) | (with_reducible exact (((HN.out.set hC hr _ _).set hC hr _ _).drew).all) | (with_reducible exact ((((HN.out.set hC hr _ _).set hC hr _ _).set hC hr _ _).drew).all) | (with_reducible exact (((((HN.out.set hC hr _ _).set hC hr _ _).set hC hr _ _).set hC hr _ _).drew).all)) (fun hHeld => ?_)
  (try simp only [Act.put, List.setIfInBounds_toArray, List.set_cons_zero, List.set_cons_succ])
  refine wpAnyH_done (by kernel_rfl) ?_ _
  go_wp2
  clear z2 f2 z3 f3 z4 f4 z5 f5
  go_name_world W2 e2
  replace HX := hide (show W2.heap[B]? = some (.cells (planC x0 x1 x2 x3 x4 x5 g h n ob s rg pg pk) 30) by rw [← e2]; exact (block_setCell (block_setCell (block_setCell (block_setCell HX.out (i := 2) (.int .i64 x2)) (i := 3) (.int .i64 x3)) (i := 4) (.int .i64 x4)) (i := 5) (.int .i64 x5)))
  replace HN := hide (show Cn C r cp x0 x1 x2 x3 x4 x5 x6 x7 W2 by rw [← e2]; exact (((((HN.out.set hC hr _ _).set hC hr _ _).set hC hr _ _).set hC hr _ _)).drew)
  have hbx : Below B W1 W2 := by rw [← e2]; exact belowD (((((Below.refl B _).setCell (p := ⟨B, 2, none⟩) (Nat.le_refl B) (.int .i64 x2)).setCell (p := ⟨B, 3, none⟩) (Nat.le_refl B) (.int .i64 x3)).setCell (p := ⟨B, 4, none⟩) (Nat.le_refl B) (.int .i64 x4)).setCell (p := ⟨B, 5, none⟩) (Nat.le_refl B) (.int .i64 x5))
  have hox : ∀ j, j ≠ B → W2.heap[j]? = W1.heap[j]? := fun j hj => by rw [← e2]; exact ((set_others _ B 5 _ j hj).trans ((set_others _ B 4 _ j hj).trans ((set_others _ B 3 _ j hj).trans ((set_others _ B 2 _ j hj).trans rfl))))
  replace HB := hide (HB.out.trans hbx)
  replace HO := hide (fun j hj => (hox j hj).trans (HO.out j hj))
  clear hbx hox e2
  have z6 := cell_of_block HX.out 6
  have f6 := unfrozen_of_block HX.out 6
  have z7 := cell_of_block HX.out 7
  have f7 := unfrozen_of_block HX.out 7
  go_wp2
  refine wp_region_held_drew (S := fun w' => w'.cell? ⟨C, 0, none⟩ = some (.slice (some ⟨r, 0, none⟩) 8 cp) ∧ w'.cell? ⟨r, 0, none⟩ = some (.int .i64 x0) ∧ w'.cell? ⟨r, 1, none⟩ = some (.int .i64 x1) ∧ w'.cell? ⟨r, 2, none⟩ = some (.int .i64 x2) ∧ w'.cell? ⟨r, 3, none⟩ = some (.int .i64 x3) ∧ w'.cell? ⟨r, 4, none⟩ = some (.int .i64 x4) ∧ w'.cell? ⟨r, 5, none⟩ = some (.int .i64 x5) ∧ w'.cell? ⟨r, 6, none⟩ = some (.int .i64 x6) ∧ w'.cell? ⟨r, 7, none⟩ = some (.int .i64 x7)) (by kernel_rfl) ?_ (fun hHeld => ?_)
  · exact (by first | (with_reducible exact (HN.out.drew).all) | (with_reducible exact ((HN.out.drew.set hC hr _ _)).all) | (with_reducible exact (((HN.out.drew.set hC hr _ _).set hC hr _ _)).all) | (with_reducible exact ((HN.out.set hC hr _ _).drew).all) | (with_reducible exact (((HN.out.set hC hr _ _).set hC hr _ _).drew).all))
  refine tkH 0 ⟨some 39, .move (.tmp 0), 136, "reader.go:78", #[], none⟩ (h := ?_)
  refine tkH 1 ⟨some 40, .move (.tmp 0), 136, "reader.go:78", #[⟨10, .gcOnly .lateStores⟩], none⟩ (h := ?_)
  refine tkH 2 ⟨some 41, .load 63 (.tmp 1), 63, "reader.go:78", #[], none⟩ (h := ?_)
  refine tkH 3 ⟨some 42, .indexAddr 63 (.tmp 41) (.const (.int .i64 6)), 0, "reader.go:78", #[⟨2, .data⟩], none⟩ (h := ?_)
  refine tkH 4 ⟨some 43, .load 3 (.tmp 42), 3, "reader.go:78", #[⟨3, .data⟩], none⟩ (h := ?_)
  refine tkH 5 ⟨some 44, .load 63 (.tmp 1), 63, "reader.go:78", #[], none⟩ (h := ?_)
  refine tkH 6 ⟨some 45, .indexAddr 63 (.tmp 44) (.const (.int .i64 7)), 0, "reader.go:78", #[⟨5, .data⟩], none⟩ (h := ?_)
  refine tkH 7 ⟨some 46, .load 3 (.tmp 45), 3, "reader.go:78", #[⟨6, .data⟩], none⟩ (h := ?_)
  refine tkH 8 ⟨some 47, .nilCheck (.tmp 39), 0, "reader.go:78", #[⟨0, .data⟩, ⟨0, .phase⟩, ⟨1, .textOnly .lateStores⟩, ⟨2, .phase⟩, ⟨3, .phase⟩, ⟨4, .phase⟩, ⟨5, .textOnly .inlinedCapture⟩, ⟨6, .textOnly .lateStoresUnsure⟩, ⟨7, .phase⟩], none⟩ (h := ?_)
  refine tkH 9 ⟨some 48, .fieldAddr 30 (.tmp 47) 6, 0, "reader.go:78", #[⟨8, .data⟩, ⟨0, .phase⟩, ⟨1, .textOnly .lateStores⟩, ⟨2, .phase⟩, ⟨3, .phase⟩, ⟨4, .phase⟩, ⟨5, .textOnly .inlinedCapture⟩, ⟨6, .textOnly .lateStoresUnsure⟩, ⟨7, .phase⟩], none⟩ (h := ?_)
  refine wpAnyH_ready (rs := [10]) (by kernel_rfl) (by simp) ?_
  refine AllReadyH.cons rfl (fun K hK => ?_) AllReadyH.nil
  go_simp
  (try go_simp)
  refine hK.out _ _ (by first | (with_reducible exact (HN.out.drew).all) | (with_reducible exact ((HN.out.drew.set hC hr _ _)).all) | (with_reducible exact (((HN.out.drew.set hC hr _ _).set hC hr _ _)).all) | (with_reducible exact ((HN.out.set hC hr _ _).drew).all) | (with_reducible exact (((HN.out.set hC hr _ _).set hC hr _ _).drew).all)) (fun hHeld => ?_)
  (try simp only [Act.put, List.setIfInBounds_toArray, List.set_cons_zero, List.set_cons_succ])
  refine tkH 11 ⟨some 49, .nilCheck (.tmp 40), 0, "reader.go:78", #[⟨1, .data⟩, ⟨0, .phase⟩, ⟨1, .phase⟩, ⟨2, .phase⟩, ⟨3, .phase⟩, ⟨4, .phase⟩, ⟨5, .phase⟩, ⟨6, .phase⟩, ⟨7, .phase⟩, ⟨8, .phase⟩, ⟨9, .phase⟩, ⟨10, .phase⟩], none⟩ (h := ?_)
  refine tkH 12 ⟨some 50, .fieldAddr 30 (.tmp 49) 7, 0, "reader.go:78", #[⟨11, .data⟩, ⟨0, .phase⟩, ⟨1, .phase⟩, ⟨2, .phase⟩, ⟨3, .phase⟩, ⟨4, .phase⟩, ⟨5, .phase⟩, ⟨6, .phase⟩, ⟨7, .phase⟩, ⟨8, .phase⟩, ⟨9, .phase⟩, ⟨10, .phase⟩], none⟩ (h := ?_)
  refine wpAnyH_ready (rs := [13]) (by kernel_rfl) (by simp) ?_
  refine AllReadyH.cons rfl (fun K hK => ?_) AllReadyH.nil
  go_simp
  (try go_simp)
  refine hK.out _ _ (by first | (with_reducible exact (HN.out.drew).all) | (with_reducible exact ((HN.out.drew.set hC hr _ _)).all) | (with_reducible exact (((HN.out.drew.set hC hr _ _).set hC hr _ _)).all) | (with_reducible exact ((HN.out.set hC hr _ _).drew).all) | (with_reducible exact (((HN.out.set hC hr _ _).set hC hr _ _).drew).all)) (fun hHeld => ?_)
  (try simp only [Act.put, List.setIfInBounds_toArray, List.set_cons_zero, List.set_cons_succ])
  refine wpAnyH_done (by kernel_rfl) ?_ _
  go_wp2
  go_end0
  exact ⟨rfl, (block_setCell (block_setCell HX.out (i := 6) (.int .i64 x6)) (i := 7) (.int .i64 x7)), HB.out.trans (belowD (((Below.refl B _).setCell (p := ⟨B, 6, none⟩) (Nat.le_refl B) (.int .i64 x6)).setCell (p := ⟨B, 7, none⟩) (Nat.le_refl B) (.int .i64 x7))), fun j hj => (((set_others _ B 7 _ j hj).trans ((set_others _ B 6 _ j hj).trans rfl))).trans (HO.out j hj)⟩
end Go.Proofs.YtjnokhaojpijhaaGreatDoor
