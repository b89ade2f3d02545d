/- Layer pick: forget, Fair. -/
import Derived.Test.YtbnnhalbgkaedaaFairP
import Derived.Test.YtbnnhalbgkaedaaMaps
import Derived.RegionTactic
import Derived.ChangeAlike
import Derived.Deep.QuietTactic
import Derived.BigQuiet
namespace Go.Proofs.Ytbnnhalbgkaedaa
open Go.RowKit Go.Maps Go.WideElems

theorem laidOutP : laidOutB Try.prog = true := by kernel_rfl
theorem rowPick : 32 < Try.prog.types.size := by
  have h : decide (32 < Try.prog.types.size) = true := by kernel_rfl
  exact of_decide_eq_true h
theorem wideKindPick : (match Try.prog.underlying 32 with | some (.array _ _) | some (.struct _) => true | _ => false) = true := by kernel_rfl
theorem lawPick : WideMaps.KeyLaw Try.prog 32 := deep_law_laid laidOutP (m := 3) (by omega) rowPick (by kernel_rfl) wideKindPick
theorem keyedPick : Keyed Try.prog 32 := Keyed.of_law lawPick
theorem cellsPick : Try.prog.cellsOf 32 = 2 := by kernel_rfl
theorem cellsInt : Try.prog.cellsOf 3 = 1 := by kernel_rfl
def Wf (p : PP) : Prop := (Lit.int .i64 p.1).wf = true ∧ (Lit.int .i64 p.2).wf = true
def keyP (p : PP) : Lit := .string (keyBytes [.int .i64 p.1, .int .i64 p.2])
theorem keyOf_pick (p : PP) (h : Wf p) : keyOf Try.prog 32 (.agg #[.int .i64 p.1, .int .i64 p.2]) = some (keyP p) := by
  have hf : (Value.agg #[.int .i64 p.1, .int .i64 p.2]).formed Try.prog 32 = true := by
    simp [Value.formed, Try.underlying32]; kernel_rfl
  have hk : Try.prog.keyType 32 = true := by kernel_rfl
  unfold keyOf
  simp only [Try.underlying32, hk, hf, Bool.and_self, if_true]
  have hs : Try.prog.keyLits (Try.prog.types.size + 1) 32 [.int .i64 p.1, .int .i64 p.2] = some [.int .i64 p.1, .int .i64 p.2] := by
    obtain ⟨n, hn⟩ : ∃ n, Try.prog.types.size = n + 1 := ⟨_, (Nat.sub_add_cancel (Nat.lt_of_le_of_lt (Nat.zero_le _) rowPick)).symm⟩
    rw [hn]
    simp [Program.keyLits, Try.underlying32, Try.underlying3, cellsPick, cellsInt, h.1, h.2]
  exact congrArg (Option.map fun ls => Lit.string (keyBytes ls)) hs
theorem keyP_inj (p q : PP) (hp : Wf p) (hq : Wf q) (h : keyP p = keyP q) : p = q := by
  have h1 := keyOf_pick p hp
  have h2 := keyOf_pick q hq
  rw [← h] at h2
  have := lawPick.inj h1 h2
  obtain ⟨a, b⟩ := p
  obtain ⟨c, d⟩ := q
  simp at this
  simp [this]
theorem keyP_lit (p : PP) (h : Wf p) : WideAt.IsKeyLit (keyP p) := keyedPick.key (keyOf_pick p h)
theorem zeroInt (u : World) : (zeroValue 3).run Try.prog u = .ok (.int .i64 0) u := by kernel_rfl

/-- the map of counts, in block B -/
abbrev Met (w : World) (B n : Nat) (c : PP → Nat) (N : Nat) : Prop :=
  ∃ D : DataW Unit, w.ownsMap Try.prog 32 (plainElem Try.prog 3) B n D ∧ Cnt keyP Wf D c N
theorem wfc {c : Nat} (h : c ≤ 9000000000000000000) : (Lit.int .i64 (c : Int)).wf = true := WalkArith.wf_i64 (by omega)

/-- one p less -/
def MetLess (w : World) (B n : Nat) (c : PP → Nat) (p : PP) (N : Nat) : Prop := Met w B n (upd c p (c p - 1)) (if c p = 1 then N - 1 else N)
/-- one p more -/
def MetMore (w : World) (B n : Nat) (c : PP → Nat) (p : PP) (N : Nat) : Prop := Met w B n (upd c p (c p + 1)) (if c p = 0 then N + 1 else N)
theorem metLess_0 {w : World} {B n N : Nat} {c : PP → Nat} {p : PP} (h0 : c p = 0) {D : DataW Unit} (hown : w.ownsMap Try.prog 32 (plainElem Try.prog 3) B n D) (hcnt : Cnt keyP Wf D c N) : MetLess w B (n + 1) c p N := by
  unfold MetLess
  rw [if_neg (by omega)]
  refine ⟨D, hown.mono (by omega), hcnt.same fun q hq => ?_⟩
  unfold upd; split
  · subst_vars; omega
  · rfl
theorem metLess_1 {w : World} {B n N : Nat} {c : PP → Nat} {p : PP} (hp : Wf p) (h1 : c p = 1) {D : DataW Unit} (hown : w.ownsMap Try.prog 32 (plainElem Try.prog 3) B n (D.del (keyP p))) (hcnt : Cnt keyP Wf D c N) : MetLess w B (n + 1) c p N := by
  unfold MetLess
  rw [if_pos h1, h1]
  exact ⟨_, hown.mono (by omega), hcnt.del keyP_inj p hp (by omega)⟩
theorem metLess_2 {w : World} {B n N : Nat} {c : PP → Nat} {p : PP} (hp : Wf p) (h2 : 2 ≤ c p) {D : DataW Unit} (hown : w.ownsMap Try.prog 32 (plainElem Try.prog 3) B (n + 1) (D.put (keyP p) (.lit (.int .i64 ((c p : Int) - 1))))) (hcnt : Cnt keyP Wf D c N) : MetLess w B (n + 1) c p N := by
  unfold MetLess
  rw [if_neg (by omega)]
  have h := hcnt.put keyP_inj keyP_lit p hp (c p - 1) (by omega)
  rw [if_neg (by omega), show (((c p - 1 : Nat)) : Int) = (c p : Int) - 1 by omega] at h
  exact ⟨_, hown, h⟩
theorem metMore_ {w : World} {B n N : Nat} {c : PP → Nat} {p : PP} (hp : Wf p) {D : DataW Unit} (hown : w.ownsMap Try.prog 32 (plainElem Try.prog 3) B (n + 1) (D.put (keyP p) (.lit (.int .i64 ((c p : Int) + 1))))) (hcnt : Cnt keyP Wf D c N) : MetMore w B (n + 1) c p N :=
  ⟨_, hown, hcnt.put keyP_inj keyP_lit p hp (c p + 1) (by omega)⟩

set_option maxHeartbeats 2000000 in
theorem forget_any (B n N : Nat) (c : PP → Nat) (p : PP) (hp : Wf p) (w : World) (hm : Met w B n c N) (hn : n < maxLen) (hc : c p ≤ 1000000000000000000) :
    Calls Try.prog 33 #[.map (some B), .agg #[.int .i64 p.1, .int .i64 p.2]] w fun e w' => e = .returned (.tuple #[]) ∧ MetLess w' B (n + 1) c p N ∧ w.grownBy w' (some B) := by
  obtain ⟨D, hown, hcnt⟩ := hm
  have hkey := keyOf_pick p hp
  have hat := hcnt.at_ p hp
  have hB := hown.lt
  have HA := hide hat
  have HK := hide hkey
  clear hat hkey
  rcases (show c p = 0 ∨ c p = 1 ∨ 2 ≤ c p by omega) with h0 | h1 | h2
  · have e0 : (((c p : Nat) : Int) == 0) = true := by rw [h0]; rfl
    have HF := hide (metLess_0 h0 (hown.alloc (.cells #[.int .i64 p.1, .int .i64 p.2] 32)) hcnt)
    clear h0 hcnt
    go_enter Try.func33, Try.ntmps33
    go_wp2_with (at_lookup; refine wpList_lookup_own_int _ rfl _ _ 68 rfl 32 3 .i64 keyedPick Try.underlying68 Try.underlying3 (zeroInt _) B n D rfl (hown.alloc _) _ _ rfl HK.out ?_; intro c0 hat0 hwc0; obtain rfl : ((c p : Nat) : Int) = c0 := (by rw [HA.out] at hat0; injection hat0 with h; injection h))
    go_end0
    exact ⟨rfl, HF.out, World.grownBy_alloc _ _ _⟩
  · have e0 : (((c p : Nat) : Int) == 0) = false := by rw [h1]; rfl
    have e1 : (((c p : Nat) : Int) == 1) = true := by rw [h1]; rfl
    have HF := fun (w' : World) (ho : w'.ownsMap Try.prog 32 (plainElem Try.prog 3) B n (D.del (keyP p))) => metLess_1 hp h1 ho hcnt
    have HF := hide HF
    clear h1 hcnt
    go_enter Try.func33, Try.ntmps33
    go_wp2_with (first
      | (at_lookup; refine wpList_lookup_own_int _ rfl _ _ 68 rfl 32 3 .i64 keyedPick Try.underlying68 Try.underlying3 (zeroInt _) B n D rfl (hown.alloc _) _ _ rfl HK.out ?_; intro c0 hat0 hwc0; obtain rfl : ((c p : Nat) : Int) = c0 := (by rw [HA.out] at hat0; injection hat0 with h; injection h))
      | (at_delete; refine wpList_delete_own _ rfl _ _ 68 32 rfl 3 keyedPick Try.underlying68 _ B n D rfl (hown.alloc _) _ _ rfl HK.out ?_; intro w1 hown1 hturn1))
    go_end0
    exact ⟨rfl, HF.out _ hown1, (World.grownBy_alloc _ _ _).trans hturn1.grown⟩
  · have e0 : (((c p : Nat) : Int) == 0) = false := by rw [beq_eq_false_iff_ne]; omega
    have e1 : (((c p : Nat) : Int) == 1) = false := by rw [beq_eq_false_iff_ne]; omega
    have HF := fun (w' : World) (ho : w'.ownsMap Try.prog 32 (plainElem Try.prog 3) B (n + 1) (D.put (keyP p) (.lit (.int .i64 ((c p : Int) - 1))))) => metLess_2 hp h2 ho hcnt
    have HF := hide HF
    obtain ⟨c0, st, w2, hat0, _, hl1, he, hl2, hg2, hst⟩ := map_bump (hown.alloc (.cells #[.int .i64 p.1, .int .i64 p.2] 32)).drew keyedPick Try.underlying68 Try.underlying3 zeroInt hn HK.out
    obtain rfl : ((c p : Nat) : Int) = c0 := (by rw [HA.out] at hat0; injection hat0 with h; injection h)
    obtain ⟨w4, hst, hown4, hg4⟩ := hst ((c p : Int) - 1) (WalkArith.wf_i64 (by omega))
    clear hcnt hat0
    go_enter Try.func33, Try.ntmps33
    go_wp2_with (first
      | (at_lookup; refine wpList_lookup_own_int _ rfl _ _ 68 rfl 32 3 .i64 keyedPick Try.underlying68 Try.underlying3 (zeroInt _) B n D rfl (hown.alloc _) _ _ rfl HK.out ?_; intro c1 hat1 hwc1; obtain rfl : ((c p : Nat) : Int) = c1 := (by rw [HA.out] at hat1; injection hat1 with h; injection h)))
    go_region
    all_goals (go_wp2; go_end0; exact ⟨rfl, HF.out _ hown4, (grown_drew (World.grownBy_alloc _ _ _)).trans hg4⟩)

theorem met_below {w w' : World} {B n N : Nat} {c : PP → Nat} (h : Met w B n c N) (hb : Below w.heap.size w w') : Met w' B n c N := by
  obtain ⟨D, hown, hcnt⟩ := h
  exact ⟨D, hown.kept (grown_of_below hb none) (by simp), hcnt⟩
theorem bump_met {w : World} {B n N : Nat} {c : PP → Nat} {p : PP} (hm : Met w B n c N) (hp : Wf p) (hn : n < maxLen) (hc : c p ≤ 1000000000000000000) :
    ∃ (st : Int) (w3 w4 : World), (Instr.lookup 68 (.map (some B)) (.agg #[.int .i64 p.1, .int .i64 p.2]) false).run Try.prog w.drew = .ok (.int .i64 (c p : Nat)) w.drew ∧
      (Instr.mapEntry 68 (.map (some B)) (.agg #[.int .i64 p.1, .int .i64 p.2])).run Try.prog w.drew = .ok (.tuple #[.int .i64 (c p : Nat), .int .i64 st]) w3 ∧
      (Instr.lookup 68 (.map (some B)) (.agg #[.int .i64 p.1, .int .i64 p.2]) false).run Try.prog w3 = .ok (.int .i64 (c p : Nat)) w3 ∧
      (Instr.entryStore 68 (.map (some B)) (.int .i64 st) (.int .i64 ((c p : Int) + 1))).run Try.prog w3 = .ok () w4 ∧
      MetMore w4 B (n + 1) c p N ∧ w.grownBy w4 (some B) ∧ (∀ a : Addr, a.block ≠ B → a.block < w.heap.size → w3.cell? a = w.cell? a) := by
  obtain ⟨D, hown, hcnt⟩ := hm
  obtain ⟨c0, st, w3, hat0, _, hl1, he, hl2, hg3, hst⟩ := map_bump hown.drew keyedPick Try.underlying68 Try.underlying3 zeroInt hn (keyOf_pick p hp)
  obtain rfl : ((c p : Nat) : Int) = c0 := (by rw [hcnt.at_ p hp] at hat0; injection hat0 with h; injection h)
  obtain ⟨w4, hst, hown4, hg4⟩ := hst ((c p : Int) + 1) (WalkArith.wf_i64 (by omega))
  exact ⟨st, w3, w4, hl1, he, hl2, hst, metMore_ hp hown4 hcnt, (grown_drew (World.grownBy.refl w _)).trans hg4, fun a ha hlt => World.cell?_of_block (hg3.block a.block hlt (by simpa using ha))⟩

/-- the counts of a window, those in L alone -/
def cf (L V : List PP) : PP → Nat := fun p => if p ∈ L then V.count p else 0
def MetAt (L : List PP) (w : World) (B n : Nat) (V : List PP) : Prop := Met w B n (cf L V) (sz L V)
theorem metAt_start (L : List PP) (w : World) : MetAt L (w.alloc (.map #[] 0)) w.heap.size 0 [] := by
  have e : sz L [] = 0 := by simp [sz]
  unfold MetAt; rw [e]
  exact ⟨.map [], World.ownsMap_made _ _ _ _, Cnt.start.same fun p _ => by simp [cf]⟩
theorem metAt_more {L : List PP} (hL : L.Nodup) {w : World} {B n : Nat} {V : List PP} {p : PP} (hp : p ∈ L) (h : MetMore w B n (cf L V) p (sz L V)) : MetAt L w B n (V ++ [p]) := by
  obtain ⟨D, h1, h2⟩ := h
  refine ⟨D, h1, ?_⟩
  have e : sz L (V ++ [p]) = if cf L V p = 0 then sz L V + 1 else sz L V := by
    rw [sz_snoc L hL]
    by_cases hv : p ∈ V
    · have : 0 < V.count p := List.count_pos_iff.2 hv
      simp [hp, hv, cf]; omega
    · simp [hp, hv, cf, List.count_eq_zero.2 hv]
  rw [e]
  refine h2.same fun q _ => ?_
  unfold upd cf
  by_cases hq : q = p
  · subst hq; simp [hp, List.count_append]
  · simp [hq, List.count_append, List.count_singleton, Ne.symm hq]
theorem metAt_not {L : List PP} (hL : L.Nodup) {w : World} {B n : Nat} {V : List PP} {p : PP} (hp : p ∉ L) (h : MetAt L w B n V) : MetAt L w B n (V ++ [p]) := by
  obtain ⟨D, h1, h2⟩ := h
  refine ⟨D, h1, ?_⟩
  have e : sz L (V ++ [p]) = sz L V := by rw [sz_snoc L hL]; simp [hp]
  rw [e]
  refine h2.same fun q _ => ?_
  unfold cf
  by_cases hq : q ∈ L
  · have : p ≠ q := fun e => hp (e ▸ hq)
    simp [hq, List.count_append, List.count_singleton, this]
  · simp [hq]
theorem metAt_less {L : List PP} (hL : L.Nodup) {w : World} {B n : Nat} {V : List PP} {q : PP} (h : MetLess w B n (cf L (q :: V)) q (sz L (q :: V))) : MetAt L w B n V := by
  obtain ⟨D, h1, h2⟩ := h
  refine ⟨D, h1, ?_⟩
  have e : sz L V = if cf L (q :: V) q = 1 then sz L (q :: V) - 1 else sz L (q :: V) := by
    rw [sz_cons L hL]
    by_cases hq : q ∈ L
    · by_cases hv : q ∈ V
      · have : 0 < V.count q := List.count_pos_iff.2 hv
        simp [hq, hv, cf]; omega
      · simp [hq, hv, cf, List.count_eq_zero.2 hv]
    · simp [hq, cf]
  rw [e]
  refine h2.same fun p _ => ?_
  unfold upd cf
  by_cases hp : p = q
  · subst hp
    by_cases hq : p ∈ L <;> simp [hq]
  · by_cases hq : p ∈ L
    · simp [hq, hp, Ne.symm hp]
    · simp [hq, hp]
theorem cf_le (L V : List PP) (p : PP) : cf L V p ≤ V.length := by
  unfold cf; split
  · exact List.count_le_length
  · omega
theorem win_len (l : List PP) (K j : Nat) : (win l K j).length ≤ l.length := by
  unfold win; rw [List.length_drop, List.length_take]; omega
theorem metAt_len {L : List PP} {w : World} {B n : Nat} {V : List PP} (h : MetAt L w B n V) (ty : TypeId) :
    (Builtin.len_ #[68] ty #[.map (some B)]).run Try.prog w = .ok (.int .i64 (sz L V : Nat)) w := by
  obtain ⟨D, h1, h2⟩ := h
  rw [← h2.size_]
  exact h1.len Try.underlying68 ty
theorem metAt_mono {L : List PP} {w : World} {B n n' : Nat} {V : List PP} (h : MetAt L w B n V) (hn : n ≤ n') : MetAt L w B n' V := by
  obtain ⟨D, h1, h2⟩ := h
  exact ⟨D, h1.mono hn, h2⟩
theorem picks_cells {w : World} {b off n c : Nat} {l : List (Int × Int)} (h : Picks w (.slice (some ⟨b, off, none⟩) n c) l) {k : Nat} (hk : k < l.length) :
    w.cell? ⟨b, off + k * 2, none⟩ = some (.int .i64 (l[k]).1) ∧ w.cell? ⟨b, off + k * 2 + 1, none⟩ = some (.int .i64 (l[k]).2) := by
  obtain ⟨b', off', e, _, h1, h2⟩ := picks_at h hk
  injection e with e
  injection e with e1 e2
  subst e1; subst e2
  exact ⟨h1, h2⟩
theorem metAt_below {L : List PP} {w w' : World} {B n : Nat} {V : List PP} (h : MetAt L w B n V) (hb : Below w.heap.size w w') : MetAt L w' B n V := met_below h hb

end Go.Proofs.Ytbnnhalbgkaedaa
