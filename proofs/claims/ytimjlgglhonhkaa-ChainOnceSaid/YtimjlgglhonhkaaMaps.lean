/- Maps: 'm[k]++' as the translation has it (look-up, entry, store into the entry), whatever the key's type. -/
import Derived.Test.YtimjlgglhonhkaaCore
import Derived.Maps.OwnSet
import Derived.Maps.OwnOps
import Derived.WideKeyEntry
import Derived.DeepKeys4
namespace Go.Proofs.Ytimjlgglhonhkaa
open Go.RowKit Go.Maps Go.ChangeMaps Go.WideElems Go.ChangeShapes Go.WideShapes Go.MapKept

theorem setBlock_twice {w : World} {b : Nat} (o1 o2 : Obj) : setBlock (setBlock w b o1) b o2 = setBlock w b o2 := by
  simp [setBlock]

theorem map_bump {H : Type} {P : Program} {w : World} {t k e : TypeId} {b n : Nat} {D : DataW H} (hown : w.ownsMap P k (plainElem P e) b n D) (K : Keyed P k) (ht : P.underlying t = some (.map k e))
    (he : P.underlying e = some (.int .i64)) (hz : ∀ u : World, (zeroValue e).run P u = .ok (.int .i64 0) u) (hn : n < maxLen) {key : Value} {kl : Lit} (hkey : keyOf P k key = some kl) :
    ∃ (c st : Int) (w2 : World), D.atKey kl (.lit (.int .i64 0)) = .lit (.int .i64 c) ∧ (Lit.int .i64 c).wf = true ∧
      (Instr.lookup t (.map (some b)) key false).run P w = .ok (.int .i64 c) w ∧
      (Instr.mapEntry t (.map (some b)) key).run P w = .ok (.tuple #[.int .i64 c, .int .i64 st]) w2 ∧
      (Instr.lookup t (.map (some b)) key false).run P w2 = .ok (.int .i64 c) w2 ∧ w.grownBy w2 (some b) ∧
      ∀ c' : Int, (Lit.int .i64 c').wf = true → ∃ w4, (Instr.entryStore t (.map (some b)) (.int .i64 st) (.int .i64 c')).run P w2 = .ok () w4 ∧
        w4.ownsMap P k (plainElem P e) b (n + 1) (D.put kl (.lit (.int .i64 c'))) ∧ w.grownBy w4 (some b) := by
  obtain ⟨c, hrun, hat, hwc⟩ := hown.lookup_int K ht he (hz w) hkey
  have hup := fun (c' : Int) (hc' : (Lit.int .i64 c').wf = true) => hown.update K ht hn hkey (plainElem_int (H := H) he hc')
  obtain ⟨es, clock, hb, F, hs, rfl⟩ := hown
  obtain ⟨s1, s2, s3⟩ := F.stamped
  have hgr : ∀ o : Obj, w.grownBy (setBlock w b o) (some b) := fun o => ⟨rfl, rfl, rfl, by simp [setBlock], fun i _ hi => heap_setBlock_other hb _ (fun e => hi (by rw [e]))⟩
  rcases K.find w hkey es.toList F.keys with ⟨h1, h2⟩ | ⟨j, e0, h1, h2, h3⟩
  · have hc0 : c = 0 := by
      have hl : (Instr.lookup t (.map (some b)) key false).run P w = .ok (.int .i64 0) w := by
        simp [Instr.lookup, run_underlying ht, MapKept.run_getObj_map hb, K.check w _ hkey, h1, hz, Result.andThen]
      rw [hrun] at hl; injection hl with hl _; injection hl
    subst hc0
    have hw2 := heap_setBlock_same hb (.map (es.push ⟨key, .int .i64 0, clock⟩) (clock + 1))
    refine ⟨0, clock, setBlock w b (.map (es.push ⟨key, .int .i64 0, clock⟩) (clock + 1)), hat, hwc, hrun, ?_, ?_, hgr _, fun c' hc' => ?_⟩
    · simp [Instr.mapEntry, run_underlying ht, MapKept.run_getObj_map hb, K.check w false hkey, h1, hz, MapKept.run_setObj_map _ hb, Result.andThen, setBlock, goInt]
    · have hkeys : ∀ x ∈ (es.push ⟨key, .int .i64 0, clock⟩).toList, ∃ l, keyOf P k x.key = some l := by
        intro x hx
        simp only [Array.toList_push, List.mem_append, List.mem_singleton] at hx
        rcases hx with hx | rfl
        · exact F.keys x hx
        · exact ⟨_, hkey⟩
      rcases K.find (setBlock w b (.map (es.push ⟨key, .int .i64 0, clock⟩) (clock + 1))) hkey _ hkeys with ⟨_, g2⟩ | ⟨j, e1, g1, g2, g3⟩
      · exact absurd rfl (g2 ⟨key, .int .i64 0, clock⟩ (by simp))
      · have hv : e1.val = .int .i64 0 := by
          have hm := List.mem_of_getElem? g2
          simp only [Array.toList_push, List.mem_append, List.mem_singleton] at hm
          rcases hm with hm | rfl
          · exact absurd g3 (h2 e1 hm)
          · rfl
        rw [hv] at g1
        simp only [Array.toList_push] at g1
        simp [Instr.lookup, run_underlying ht, MapKept.run_getObj_map hw2, K.check _ _ hkey, g1, Result.andThen]
    · obtain ⟨w4, hu, ho, hg⟩ := hup c' hc'
      refine ⟨w4, ?_, ho, hg⟩
      have hidx : (es.push ⟨key, .int .i64 0, clock⟩).findIdx? (fun e => ((e.born : Nat) : Int) == ((clock : Nat) : Int)) = some es.size := by
        rw [findIdx_arr]
        exact findIdx_born (l := (es.push ⟨key, .int .i64 0, clock⟩).toList) (j := es.size) (e0 := ⟨key, .int .i64 0, clock⟩) (by
          simp only [Array.toList_push, List.map_append, List.map_cons, List.map_nil]
          refine List.nodup_append.2 ⟨s2, by simp, fun a ha c hc e1 => ?_⟩
          simp only [List.mem_singleton] at hc
          obtain ⟨x, hx, rfl⟩ := List.mem_map.1 ha
          have := s1 x hx
          omega) (by simp)
      have hmod : (es.push ⟨key, .int .i64 0, clock⟩).modify es.size (fun e => { e with val := .int .i64 c' }) = es.push ⟨key, .int .i64 c', clock⟩ := by
        apply Array.ext'
        rw [Array.toList_modify, Array.toList_push, Array.toList_push, ← Array.length_toList, modify_last]
      have hu' : (Instr.mapUpdate t (.map (some b)) key (.int .i64 c')).run P w = .ok () (setBlock w b (.map (es.push ⟨key, .int .i64 c', clock⟩) (clock + 1))) := by
        simp [Instr.mapUpdate, run_underlying ht, MapKept.run_getObj_map hb, K.check w false hkey, h1, MapKept.run_setObj_map _ hb, Result.andThen, setBlock]
      rw [hu] at hu'
      injection hu' with _ hw4
      rw [hw4, ← setBlock_twice (w := w) (b := b) (.map (es.push ⟨key, .int .i64 0, clock⟩) (clock + 1)) (.map (es.push ⟨key, .int .i64 c', clock⟩) (clock + 1))]
      generalize setBlock w b (.map (es.push ⟨key, .int .i64 0, clock⟩) (clock + 1)) = W2 at hw2 ⊢
      simp [Instr.entryStore, MapKept.run_getObj_map hw2, asInt, asIntOf, hidx, hmod, MapKept.run_setObj_map _ hw2, Result.andThen, setBlock]
  · have hj : es[j]? = some e0 := by simpa using h2
    have hv0 : e0.val = .int .i64 c := by
      have hl : (Instr.lookup t (.map (some b)) key false).run P w = .ok e0.val w := by
        simp [Instr.lookup, run_underlying ht, MapKept.run_getObj_map hb, K.check w _ hkey, h1, Result.andThen]
      rw [hrun] at hl; injection hl with hl _; exact hl.symm
    have hsame : es.modify j (fun e => { e with key := key }) = es := by
      apply Array.ext'
      rw [Array.toList_modify, modify_eq_set _ _ _ _ h2]
      have : ({ e0 with key := key } : MapEntry) = e0 := by rw [← h3]
      rw [this]
      exact set_self _ _ _ h2
    have hw2 := heap_setBlock_same hb (.map es clock)
    refine ⟨c, e0.born, setBlock w b (.map es clock), hat, hwc, hrun, ?_, ?_, hgr _, fun c' hc' => ?_⟩
    · simp [Instr.mapEntry, run_underlying ht, MapKept.run_getObj_map hb, K.check w false hkey, h1, hj, h3, K.stays w hkey, hsame, MapKept.run_setObj_map _ hb, Result.andThen, setBlock, hv0, goInt]
    · rcases K.find (setBlock w b (.map es clock)) hkey es.toList F.keys with ⟨_, g2⟩ | ⟨j', e1, g1, g2, g3⟩
      · exact absurd h3 (g2 e0 (List.mem_of_getElem? h2))
      · have hv1 : e0.val = e1.val := by
          have hjj : j' = j := by
            refine (List.getElem?_inj (l := es.toList.map (·.key)) ?_ s3).1 ?_
            · have := (List.getElem?_eq_some_iff.1 g2).1; simpa using this
            · rw [List.getElem?_map, List.getElem?_map, g2, h2]; simp [g3, h3]
          subst hjj
          rw [g2] at h2
          injection h2 with h2; rw [h2]
        rw [← hv1, hv0] at g1
        simp [Instr.lookup, run_underlying ht, MapKept.run_getObj_map hw2, K.check _ _ hkey, g1, Result.andThen]
    · obtain ⟨w4, hu, ho, hg⟩ := hup c' hc'
      refine ⟨w4, ?_, ho, hg⟩
      have hidx : es.findIdx? (fun e => ((e.born : Nat) : Int) == ((e0.born : Nat) : Int)) = some j := by
        rw [findIdx_arr]
        exact findIdx_born s2 h2
      have hmod : es.modify j (fun e => { e with val := .int .i64 c' }) = es.modify j (fun e' => { e' with key := key, val := .int .i64 c' }) := by
        apply Array.ext'
        rw [Array.toList_modify, Array.toList_modify, modify_eq_set _ _ _ _ h2, modify_eq_set _ _ _ _ h2, ← h3]
      have hu' : (Instr.mapUpdate t (.map (some b)) key (.int .i64 c')).run P w = .ok () (setBlock w b (.map (es.modify j (fun e' => { e' with key := key, val := .int .i64 c' })) clock)) := by
        simp [Instr.mapUpdate, run_underlying ht, MapKept.run_getObj_map hb, K.check w false hkey, h1, hj, h3, K.stays w hkey, MapKept.run_setObj_map _ hb, Result.andThen, setBlock]
      rw [hu] at hu'
      injection hu' with _ hw4
      rw [hw4, ← setBlock_twice (w := w) (b := b) (.map es clock) (.map (es.modify j (fun e' => { e' with key := key, val := .int .i64 c' })) clock)]
      generalize setBlock w b (.map es clock) = W2 at hw2 ⊢
      simp [Instr.entryStore, MapKept.run_getObj_map hw2, asInt, asIntOf, hidx, hmod, MapKept.run_setObj_map _ hw2, Result.andThen, setBlock]

/-- a map of counts: at each key that many, no entry where there is none; N entries -/
structure Cnt {α H : Type} (key : α → Lit) (Wf : α → Prop) (D : DataW H) (c : α → Nat) (N : Nat) : Prop where
  tidy : Maps.Tidy D
  at_ : ∀ p, Wf p → D.atKey (key p) (.lit (.int .i64 0)) = .lit (.int .i64 (c p : Nat))
  has_ : ∀ p, Wf p → Maps.has D (key p) = decide (0 < c p)
  size_ : Maps.size D = N
def upd {α : Type} [DecidableEq α] (c : α → Nat) (p : α) (n : Nat) : α → Nat := fun q => if q = p then n else c q
section
variable {α H : Type} [DecidableEq α] {key : α → Lit} {Wf : α → Prop} {D : DataW H} {c : α → Nat} {N : Nat}
omit [DecidableEq α] in
theorem Cnt.start : Cnt (H := H) key Wf (.map []) (fun _ => 0) 0 :=
  ⟨Maps.tidy_empty, fun _ _ => rfl, fun _ _ => rfl, rfl⟩
theorem Cnt.put (h : Cnt key Wf D c N) (hinj : ∀ p q, Wf p → Wf q → key p = key q → p = q) (hk : ∀ p, Wf p → WideAt.IsKeyLit (key p)) (p : α) (hp : Wf p) (n : Nat) (hn : 0 < n) :
    Cnt key Wf (D.put (key p) (.lit (.int .i64 (n : Nat)))) (upd c p n) (if c p = 0 then N + 1 else N) := by
  refine ⟨h.tidy.put (hk p hp) _, fun q hq => ?_, fun q hq => ?_, ?_⟩
  · unfold upd
    by_cases e : q = p
    · subst e; rw [if_pos rfl]; exact Maps.atKey_put_same h.tidy.isMap (hk q hq) _ _
    · rw [if_neg e, Maps.atKey_put_other (fun e' => e (hinj _ _ hq hp e')), h.at_ q hq]
  · unfold upd
    by_cases e : q = p
    · subst e; rw [if_pos rfl, Maps.has_put_same h.tidy.isMap (hk q hq)]; simp [hn]
    · rw [if_neg e, Maps.has_put_other (fun e' => e (hinj _ _ hq hp e')), h.has_ q hq]
  · rw [Maps.size_put h.tidy, h.has_ p hp, h.size_]
    by_cases e : c p = 0
    · simp [e]
    · have : 0 < c p := by omega
      simp [e, this]
theorem Cnt.del (h : Cnt key Wf D c N) (hinj : ∀ p q, Wf p → Wf q → key p = key q → p = q) (p : α) (hp : Wf p) (h1 : 0 < c p) :
    Cnt key Wf (D.del (key p)) (upd c p 0) (N - 1) := by
  refine ⟨h.tidy.del _, fun q hq => ?_, fun q hq => ?_, ?_⟩
  · unfold upd
    by_cases e : q = p
    · subst e; rw [if_pos rfl]; exact Maps.atKey_del_same _
    · rw [if_neg e, Maps.atKey_del_other (fun e' => e (hinj _ _ hq hp e')), h.at_ q hq]
  · unfold upd
    by_cases e : q = p
    · subst e; rw [if_pos rfl, Maps.has_del_same]; rfl
    · rw [if_neg e, Maps.has_del_other (fun e' => e (hinj _ _ hq hp e')), h.has_ q hq]
  · have := Maps.size_del (k := key p) h.tidy
    rw [h.has_ p hp, h.size_] at this
    simp [h1] at this
    omega
omit [DecidableEq α] in
theorem Cnt.same {c' : α → Nat} (h : Cnt key Wf D c N) (e : ∀ p, Wf p → c' p = c p) : Cnt key Wf D c' N :=
  ⟨h.tidy, fun p hp => by rw [h.at_ p hp, e p hp], fun p hp => by rw [h.has_ p hp, e p hp], h.size_⟩
end
end Go.Proofs.Ytimjlgglhonhkaa
