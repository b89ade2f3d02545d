import Derived.Test.YtjbaiibbgplljaaGreatDoorPbn
import Derived.Test.YtjbaiibbgplljaaGreatDoorPbh
import Derived.Test.YtjbaiibbgplljaaGreatDoorPbo
set_option maxRecDepth 100000
set_option maxHeartbeats 40000000
namespace Go.Proofs.YtjbaiibbgplljaaGreatDoor
open Go.RowKit Go.Shelf Go.Proofs Go.Joins
def StepP (g : Nat) (s : ByteArray) (w : World) (o : Except Int ((Pq → Pq) × List B8)) (e : Ending) (w' : World) : Prop :=
 w.grownBy w' (some g) ∧ match o with
 | .error k => PanQ k e
 | .ok (f, r) => ∃ (v : Value) (s' : ByteArray), e = .returned v ∧ PartAt g w' v f ∧ RdAt g s' w' ∧ cut 10 s'.data.toList = r ∧ s'.size ≤ s.size
theorem stepP_no {g : Nat} {s : ByteArray} {w w' : World} {o : Except Int ((Pq → Pq) × List B8)} {e : Ending} {k : Int} (h : o = .error k) (hg : w.grownBy w' (some g)) (he : PanQ k e) : StepP g s w o e w' := by subst h; exact ⟨hg, he⟩
theorem stepP_yes {g : Nat} {s s' : ByteArray} {w w' : World} {o : Except Int ((Pq → Pq) × List B8)} {f : Pq → Pq} {r : List B8} {v : Value} (h : o = .ok (f, r)) (hg : w.grownBy w' (some g)) (hp : PartAt g w' v f) (hr : RdAt g s' w') (hc : cut 10 s'.data.toList = r) (hs : s'.size ≤ s.size) : StepP g s w o (.returned v) w' := by subst h; exact ⟨hg, v, s', rfl, hp, hr, hc, hs⟩
def heapO : Option (B8 × List B8) → Except Int ((Pq → Pq) × List B8)
 | none => .error 2
 | some (t, r) => match heapF t with
   | none => .error 2
   | some (n, ls) => .ok (fun q => { q with sl := n, ob := ls }, r)
def heapQ (L : List B8) : Except Int ((Pq → Pq) × List B8) := heapO (lineF heapW L)
theorem makeFunc_ok (fn : Fn) (first cap : Array Value) (w : World) : (Instr.makeFunc fn first cap).run Tryz.prog w = .ok (.func fn first cap) w := rfl
theorem rdHeap_any (g : Nat) (s : ByteArray) (w : World) (hR : RdAt g s w) (hs : s.size ≤ 8796093022208) (hE : EnvR g w) :
 Calls Tryz.prog 72 #[.pointer (some ⟨g, 0, none⟩)] w (StepP g s w (heapQ (cut 10 s.data.toList))) := by
 have hmf := makeFunc_ok; have HL := hide (line_any g s ⟨#[104, 101, 97, 112]⟩ w hR hs (by decide)); have HE := hide hE; have hgl := hR.lt; obtain ⟨o, ho⟩ : ∃ o, lineF heapW (cut 10 s.data.toList) = o := ⟨_, rfl⟩; have HO := hide (show lineF (⟨#[104, 101, 97, 112]⟩ : ByteArray).data.toList (cut 10 s.data.toList) = o from ho); obtain ⟨Q, hQ⟩ : ∃ Q, heapQ (cut 10 s.data.toList) = Q := ⟨_, rfl⟩; have HQ := hide (show Q = heapO o by rw [← hQ, heapQ, ho]); rw [hQ]; clear hR hE ho hQ; go_enter Tryz.func72, Tryz.ntmps72
 go_wp2_with fail
 refine HL.out.mono ?_; rintro e w1 ⟨hg1, h1⟩; rw [HO.out] at h1; have HG1 := hide hg1; cases o with
 | none =>
   unfold PanQ at h1; subst h1; clear hg1; go_wp2; exact ⟨rfl, stepP_no HQ.out HG1.out rfl⟩
 | some x =>
   obtain ⟨t, r⟩ := x; obtain ⟨T, s', rfl, hT, hTs, hR1, hcr, hss⟩ := h1; have HR1 := hide hR1; have HCR := hide hcr; have hsz := hg1.size; have HE1 := hide (HE.out.grown hg1); clear hR1 hcr hg1; obtain ⟨n, ls, k, x, hx, hQx⟩ : ∃ (n : Int) (ls : Rws) (k : Nat) (x : Int), ((heapF T.data.toList = some (n, ls) ∧ x = 0) ∨ (heapF T.data.toList = none ∧ n = 0 ∧ ls = [] ∧ x = 2)) ∧ ls.length = k ∧ Q = if x = 0 then .ok (fun q => { q with sl := n, ob := ls }, r) else .error x := by
    rw [hT]; cases hh : heapF t with
    | none => exact ⟨0, [], _, 2, .inr ⟨rfl, rfl, rfl, rfl⟩, rfl, by rw [HQ.out, heapO, hh]; rfl⟩
    | some p => obtain ⟨n, ls⟩ := p; exact ⟨n, ls, _, 0, .inl ⟨rfl, rfl⟩, rfl, by rw [HQ.out, heapO, hh]; rfl⟩
   have HP := hide (Parse_cHp T w1 (by omega) HE1.out.env.h n ls x hx k hQx.1); have HX := hide hQx.2; clear hx hQx hT HQ; go_wp2_with fail
   refine HP.out.mono ?_; rintro e w2 ⟨A, c, rfl, hc1, hc2, HW, hb2⟩; have HG2 := hide (HG1.out.trans (grown_of_below hb2 (some g))); have HR2 := hide (HR1.out.below hb2); go_wp2_with fail
   (with_reducible refine (fine_heap n x A k c _).mono ?_); rintro e w3 ⟨hb3, h3⟩; replace HG2 := hide (HG2.out.trans (grown_of_below hb3 (some g))); replace HR2 := hide (HR2.out.below hb3); have HW3 := hide (OwnRows.below HW.out hb3); by_cases hx0 : x = 0
   · subst hx0
     rw [if_pos rfl] at h3; subst h3; have HX2 := hide (show Q = .ok (fun q => { q with sl := n, ob := ls }, r) by rw [HX.out, if_pos rfl]); have hgn : g < w1.heap.size := by have := hsz; omega
     have HN := hide (show g < w3.heap.size by have h2 := hb2.size; have h3 := hb3.size; omega); clear hb2 hb3; go_wp2; go_ret
     have hO := HW3.out; exact stepP_yes HX2.out (HG2.out.trans (grown_of_below (balHp _ _) (some g))) (heap_part g w3.heap.size _ n A k c w1.heap.size ls (heap_alloc_new w3 _) (OwnRows.below hO (balHp _ _)) hgn (by have := HN.out; omega)) (HR2.out.below (balHp _ _)) HCR.out hss
   · rw [if_neg hx0] at h3
     unfold PanQ at h3; subst h3; have HX2 := hide (show Q = .error x by rw [HX.out, if_neg hx0]); clear hb2 hb3; go_wp2; exact ⟨rfl, stepP_no HX2.out HG2.out rfl⟩
def rootsO : Option (B8 × List B8) → Except Int ((Pq → Pq) × List B8)
 | none => .error 2
 | some (t, r) => if (parseFSt t).2 = 0 then .ok (fun q => { q with ro := (parseFSt t).1 }, r) else .error (parseFSt t).2
def rootsQ (L : List B8) : Except Int ((Pq → Pq) × List B8) := rootsO (lineF rootsW L)
theorem rdRoots_any (g : Nat) (s : ByteArray) (w : World) (hR : RdAt g s w) (hs : s.size ≤ 8796093022208) (hE : EnvR g w) :
 Calls Tryz.prog 73 #[.pointer (some ⟨g, 0, none⟩)] w (StepP g s w (rootsQ (cut 10 s.data.toList))) := by
 have hmf := makeFunc_ok; have HL := hide (line_any g s ⟨#[114, 111, 111, 116, 115]⟩ w hR hs (by decide)); have HE := hide hE; have hgl := hR.lt; obtain ⟨o, ho⟩ : ∃ o, lineF rootsW (cut 10 s.data.toList) = o := ⟨_, rfl⟩; have HO := hide (show lineF (⟨#[114, 111, 111, 116, 115]⟩ : ByteArray).data.toList (cut 10 s.data.toList) = o from ho); obtain ⟨Q, hQ⟩ : ∃ Q, rootsQ (cut 10 s.data.toList) = Q := ⟨_, rfl⟩; have HQ := hide (show Q = rootsO o by rw [← hQ, rootsQ, ho]); rw [hQ]; clear hR hE ho hQ; go_enter Tryz.func73, Tryz.ntmps73
 go_wp2_with fail
 refine HL.out.mono ?_; rintro e w1 ⟨hg1, h1⟩; rw [HO.out] at h1; have HG1 := hide hg1; cases o with
 | none =>
   unfold PanQ at h1; subst h1; clear hg1; go_wp2; exact ⟨rfl, stepP_no HQ.out HG1.out rfl⟩
 | some x =>
   obtain ⟨t, r⟩ := x; obtain ⟨T, s', rfl, hT, hTs, hR1, hcr, hss⟩ := h1; have HR1 := hide hR1; have HCR := hide hcr; have hsz := hg1.size; have HE1 := hide (HE.out.grown hg1); have hgn : g < w1.heap.size := by omega
   clear hR1 hcr hg1; obtain ⟨m, x, hmx, hQx⟩ : ∃ (m : Nat) (x : Int), parseFSt T.data.toList = (m, x) ∧ Q = if x = 0 then .ok (fun q => { q with ro := m }, r) else .error x := ⟨(parseFSt T.data.toList).1, (parseFSt T.data.toList).2, rfl, by rw [HQ.out, hT]; rfl⟩
   have HP := hide (Parse_anySt T w1 (by omega) HE1.out.env.e); rw [hmx] at HP; have HX := hide hQx; clear hmx hQx hT HQ; go_wp2_with fail
   refine HP.out.mono ?_; rintro e w2 ⟨rfl, hb2⟩; have HG2 := hide (HG1.out.trans (grown_of_below hb2 (some g))); have HR2 := hide (HR1.out.below hb2); go_wp2_with fail
   (with_reducible refine (fine_set (m : Int) x _).mono ?_); rintro e w3 ⟨hb3, h3⟩; replace HG2 := hide (HG2.out.trans (grown_of_below hb3 (some g))); replace HR2 := hide (HR2.out.below hb3); by_cases hx0 : x = 0
   · subst hx0
     rw [if_pos rfl] at h3; subst h3; have HX2 := hide (show Q = .ok (fun q => { q with ro := m }, r) by rw [HX.out, if_pos rfl]); have HN := hide (show g < w3.heap.size by have h2 := hb2.size; have h3 := hb3.size; omega); clear hb2 hb3; go_wp2; go_ret
     exact stepP_yes HX2.out (HG2.out.trans (grown_of_below (balHp _ _) (some g))) (roots_part g w3.heap.size _ m (heap_alloc_new w3 _) (by have := HN.out; omega)) (HR2.out.below (balHp _ _)) HCR.out hss
   · rw [if_neg hx0] at h3
     unfold PanQ at h3; subst h3; have HX2 := hide (show Q = .error x by rw [HX.out, if_neg hx0]); clear hb2 hb3; go_wp2; exact ⟨rfl, stepP_no HX2.out HG2.out rfl⟩
def picksO : Option (B8 × List B8) → Except Int ((Pq → Pq) × List B8)
 | none => .error 2
 | some (t, r) => if (parseFPk ⟨t.toArray⟩).2 = 0 then .ok (fun q => { q with pk := (parseFPk ⟨t.toArray⟩).1 }, r) else .error (parseFPk ⟨t.toArray⟩).2
def picksQ (L : List B8) : Except Int ((Pq → Pq) × List B8) := picksO (lineF pickW L)
theorem rdPicks_any (g : Nat) (s : ByteArray) (w : World) (hR : RdAt g s w) (hs : s.size ≤ 8796093022208) (hE : EnvR g w) :
 Calls Tryz.prog 75 #[.pointer (some ⟨g, 0, none⟩)] w (StepP g s w (picksQ (cut 10 s.data.toList))) := by
 have hmf := makeFunc_ok; have HL := hide (line_any g s ⟨#[112, 105, 99, 107, 115]⟩ w hR hs (by decide)); have HE := hide hE; have hgl := hR.lt; obtain ⟨o, ho⟩ : ∃ o, lineF pickW (cut 10 s.data.toList) = o := ⟨_, rfl⟩; have HO := hide (show lineF (⟨#[112, 105, 99, 107, 115]⟩ : ByteArray).data.toList (cut 10 s.data.toList) = o from ho); obtain ⟨Q, hQ⟩ : ∃ Q, picksQ (cut 10 s.data.toList) = Q := ⟨_, rfl⟩; have HQ := hide (show Q = picksO o by rw [← hQ, picksQ, ho]); rw [hQ]; clear hR hE ho hQ; go_enter Tryz.func75, Tryz.ntmps75
 go_wp2_with fail
 refine HL.out.mono ?_; rintro e w1 ⟨hg1, h1⟩; rw [HO.out] at h1; have HG1 := hide hg1; cases o with
 | none =>
   unfold PanQ at h1; subst h1; clear hg1; go_wp2; exact ⟨rfl, stepP_no HQ.out HG1.out rfl⟩
 | some x =>
   obtain ⟨t, r⟩ := x; obtain ⟨T, s', rfl, hT, hTs, hR1, hcr, hss⟩ := h1; have HR1 := hide hR1; have HCR := hide hcr; have hsz := hg1.size; have HE1 := hide (HE.out.grown hg1); have hgn : g < w1.heap.size := by omega
   clear hR1 hcr hg1; obtain ⟨lk, x, hmx, hQx⟩ : ∃ (lk : List PP) (x : Int), parseFPk T = (lk, x) ∧ Q = if x = 0 then .ok (fun q => { q with pk := lk }, r) else .error x := ⟨(parseFPk T).1, (parseFPk T).2, rfl, by rw [HQ.out, ← hT]; rfl⟩
   have HP := hide (Parse_anyPk T w1); rw [hmx] at HP; have HX := hide hQx; clear hmx hQx hT HQ; go_wp2_with fail
   refine HP.out.mono ?_; rintro e w2 ⟨v, rfl, hown, hb2⟩; obtain ⟨A, c, rfl, hc1, hc2⟩ := own_form hown; have HW := hide hown; have HG2 := hide (HG1.out.trans (grown_of_below hb2 (some g))); have HR2 := hide (HR1.out.below hb2); clear hown; obtain ⟨k, hk⟩ : ∃ k, lk.length = k := ⟨_, rfl⟩; have HK := hide hk; have HC2 := hide hc2; rw [hk] at HW hc1 ⊢; clear hk hc2; go_wp2_with fail
   (with_reducible refine (fine_picks A k c x _).mono ?_); rintro e w3 ⟨hb3, h3⟩; replace HG2 := hide (HG2.out.trans (grown_of_below hb3 (some g))); replace HR2 := hide (HR2.out.below hb3); have HW3 := hide (own_below HW.out hb3); by_cases hx0 : x = 0
   · subst hx0
     rw [if_pos rfl] at h3; subst h3; have HX2 := hide (show Q = .ok (fun q => { q with pk := lk }, r) by rw [HX.out, if_pos rfl]); have HN := hide (show g < w3.heap.size by have h2 := hb2.size; have h3 := hb3.size; omega); clear hb2 hb3; go_wp2; go_ret
     exact stepP_yes HX2.out (HG2.out.trans (grown_of_below (balHp _ _) (some g))) (picks_part g w3.heap.size _ A k c w1.heap.size lk HK.out (heap_alloc_new w3 _) (own_below HW3.out (balHp _ _)) hgn (by have := HN.out; omega)) (HR2.out.below (balHp _ _)) HCR.out hss
   · rw [if_neg hx0] at h3
     unfold PanQ at h3; subst h3; have HX2 := hide (show Q = .error x by rw [HX.out, if_neg hx0]); clear hb2 hb3; go_wp2; exact ⟨rfl, stepP_no HX2.out HG2.out rfl⟩
def mutO : Option (B8 × List B8) → Except Int ((Pq → Pq) × List B8)
 | none => .error 2
 | some (t, r) => match mutS t with
   | .error e => .error e
   | .ok (l, p) => .ok (fun q => { q with rg := q.rg ++ [l], pg := q.pg ++ [p] }, r)
def mutQ (L : List B8) : Except Int ((Pq → Pq) × List B8) := mutO (lineF mutW L)
theorem rdMut_any (g : Nat) (s : ByteArray) (w : World) (hR : RdAt g s w) (hs : s.size ≤ 8796093022208) (hE : EnvR g w) :
 Calls Tryz.prog 74 #[.pointer (some ⟨g, 0, none⟩)] w (StepP g s w (mutQ (cut 10 s.data.toList))) := by
 have hmf := makeFunc_ok; have HL := hide (line_any g s ⟨#[109, 117, 116, 97, 116, 111, 114]⟩ w hR hs (by decide)); have HE := hide hE; have hgl := hR.lt; obtain ⟨o, ho⟩ : ∃ o, lineF mutW (cut 10 s.data.toList) = o := ⟨_, rfl⟩; have HO := hide (show lineF (⟨#[109, 117, 116, 97, 116, 111, 114]⟩ : ByteArray).data.toList (cut 10 s.data.toList) = o from ho); obtain ⟨Q, hQ⟩ : ∃ Q, mutQ (cut 10 s.data.toList) = Q := ⟨_, rfl⟩; have HQ := hide (show Q = mutO o by rw [← hQ, mutQ, ho]); rw [hQ]; clear hR hE ho hQ; go_enter Tryz.func74, Tryz.ntmps74
 go_wp2_with fail
 refine HL.out.mono ?_; rintro e w1 ⟨hg1, h1⟩; rw [HO.out] at h1; have HG1 := hide hg1; cases o with
 | none =>
   unfold PanQ at h1; subst h1; clear hg1; go_wp2; exact ⟨rfl, stepP_no HQ.out HG1.out rfl⟩
 | some x =>
   obtain ⟨t, r⟩ := x; obtain ⟨T, s', rfl, hT, hTs, hR1, hcr, hss⟩ := h1; have HR1 := hide hR1; have HCR := hide hcr; have hsz := hg1.size; have HE1 := hide (HE.out.grown hg1); have hgn : g < w1.heap.size := by omega
   clear hR1 hcr hg1; have HC := hide (CutC_any 32 T · (by omega)); have HT := hide hT; clear hT; go_wp2_with fail
   (with_reducible refine (HC.out _).mono ?_); rintro e w2 ⟨x, y, b, rfl, hxy, -, hxl, hyl, hb2⟩; have hx : x.data.toList = (sepC 32 t).1 := by rw [← HT.out, ← hxy]
   have hy : y.data.toList = (sepC 32 t).2 := by rw [← HT.out, ← hxy]
   have HG2 := hide (HG1.out.trans (grown_of_below hb2 (some g))); have HR2 := hide (HR1.out.below hb2); have HE2 := hide (HE1.out.below hb2); have HN := hide ((callsIn_wide (n := 4)).1 (numsIn_any 44 x w2 (by omega) HE2.out.env)); obtain ⟨o2, ho2⟩ : ∃ o2, listFPl 44 (sepC 32 t).1 = o2 := ⟨_, rfl⟩; have HO2 := hide (show listFPl 44 x.data.toList = o2 by rw [hx]; exact ho2); have HSZ := hide hb2.size; clear hxy hb2; cases o2 with
   | none =>
     have HX2 := hide (show Q = .error 2 by rw [HQ.out, mutO, mutS, ho2]); clear hx hy ho2; go_wp2_with fail
     refine HN.out.mono ?_; rintro e w3 ⟨h3, hb3⟩; rw [HO2.out] at h3; subst h3; unfold ch2; have HG3 := hide (HG2.out.trans (grown_of_below hb3 (some g))); clear hb3; go_wp2; exact ⟨rfl, stepP_no HX2.out HG3.out rfl⟩
   | some l =>
     obtain ⟨p, z, hpz⟩ : ∃ (p : List Oq) (z : Int), cParse (sepC 32 t).2 = (p, z) := ⟨_, _, rfl⟩; have HX := hide (show Q = if z = 0 then .ok (fun q => { q with rg := q.rg ++ [l], pg := q.pg ++ [p] }, r) else .error z by
      rw [HQ.out, mutO, mutS, ho2, hpz]; by_cases hz : z = 0
      · simp only [hz, if_true]
      · simp only [hz, if_false])
     have HPZ := hide (show cParse y.data.toList = (p, z) by rw [hy]; exact hpz); clear hx hy ho2 hpz; go_wp2_with fail
     refine HN.out.mono ?_; rintro e w3 ⟨h3, hb3⟩; rw [HO2.out] at h3; obtain ⟨v3, rfl, hw3⟩ := h3; obtain ⟨A1, c1, rfl, hc1, hc2⟩ := own_form hw3; have HG3 := hide (HG2.out.trans (grown_of_below hb3 (some g))); have HR3 := hide (HR2.out.below hb3); have HW3 := hide hw3; have HP := hide (Parse_anyCd y w3 (by omega)); have HS3 := hide hb3.size; clear hw3 hb3; obtain ⟨N1, hN1⟩ : ∃ k, l.length = k := ⟨_, rfl⟩; have HN1 := hide hN1; rw [hN1] at HW3 hc1 ⊢; clear hN1; go_wp2_with fail
     refine HP.out.mono ?_; rintro e w4 h4; unfold ParseP at h4; rw [HPZ.out] at h4; obtain ⟨v4, rfl, hw4, hb4⟩ := h4; obtain ⟨A2, c2, rfl, hd1, hd2⟩ := own_form hw4; have HG4 := hide (HG3.out.trans (grown_of_below hb4 (some g))); have HR4 := hide (HR3.out.below hb4); have HW4 := hide hw4; have HV4 := hide (own_below HW3.out hb4); have HS4 := hide hb4.size; clear hw4 hb4; obtain ⟨N2, hN2⟩ : ∃ k, p.length = k := ⟨_, rfl⟩; have HN2 := hide hN2; rw [hN2] at HW4 hd1 ⊢; clear hN2; go_wp2_with fail
     (with_reducible refine (fine_ops A2 N2 c2 z _).mono ?_); rintro e w5 ⟨hb5, h5⟩; have HG5 := hide (HG4.out.trans (grown_of_below hb5 (some g))); have HR5 := hide (HR4.out.below hb5); have HW5 := hide (own_below HW4.out hb5); have HV5 := hide (own_below HV4.out hb5); have HS5 := hide hb5.size; clear hb5; by_cases hz0 : z = 0
     · subst hz0
       rw [if_pos rfl] at h5; subst h5; have HX2 := hide (show Q = .ok (fun q => { q with rg := q.rg ++ [l], pg := q.pg ++ [p] }, r) by rw [HX.out, if_pos rfl]); have hn5 : g < w5.heap.size := by have h1 := HSZ.out; have h2 := HS3.out; have h3 := HS4.out; have h4 := HS5.out; omega
       have HN5 := hide hn5; have HB2 := hide (show g < w2.heap.size by have h1 := HSZ.out; omega); go_wp2; go_ret
       have hb6 : Below w5.heap.size w5 ((w5.alloc (.cells #[.slice A1 N1 c1] 67)).alloc (.cells #[.slice A2 N2 c2] 87)) := bcall (balHp _ _) (balHp _ _); have hc2 : ((w5.alloc (.cells #[.slice A1 N1 c1] 67)).alloc (.cells #[.slice A2 N2 c2] 87)).heap[w5.heap.size + 1]? = some (.cells #[.slice A2 N2 c2] 87) := by
        have h := heap_alloc_new (w5.alloc (.cells #[.slice A1 N1 c1] 67)) (.cells #[.slice A2 N2 c2] 87); rwa [World.size_alloc] at h
       have hc1 : ((w5.alloc (.cells #[.slice A1 N1 c1] 67)).alloc (.cells #[.slice A2 N2 c2] 87)).heap[w5.heap.size]? = some (.cells #[.slice A1 N1 c1] 67) := (Below.heap_alloc _ _ _ (by simp)).trans (heap_alloc_new w5 _); exact stepP_yes HX2.out (HG5.out.trans (grown_of_below hb6 (some g))) (mut_part g w5.heap.size (w5.heap.size + 1) w2.heap.size _ A1 A2 N1 c1 N2 c2 l p HN1.out HN2.out hc1 hc2 (own_below HV5.out hb6) (own_base (own_below HW5.out hb6) HS3.out) HB2.out (by have := HN5.out; omega) (by have := HN5.out; omega)) (HR5.out.below hb6) HCR.out hss
     · rw [if_neg hz0] at h5
       unfold PanQ at h5; subst h5; have HX2 := hide (show Q = .error z by rw [HX.out, if_neg hz0]); go_wp2; exact ⟨rfl, stepP_no HX2.out HG5.out rfl⟩
def engO : Option (B8 × List B8) → Except Int ((Pq → Pq) × Int × List B8)
 | none => .error 2
 | some (t, r) => match listFPl 32 t with
   | some [a, b, c, d, e, f, g, h] => .ok (fun q => { q with wk := a, mu := b, cp := c, bf := d, bn := e, mo := f, pr := g, li := h }, b, r)
   | _ => .error 2
def EngP (g : Nat) (s : ByteArray) (w : World) (o : Except Int ((Pq → Pq) × Int × List B8)) (e : Ending) (w' : World) : Prop :=
 w.grownBy w' (some g) ∧ match o with
 | .error k => PanQ k e
 | .ok (f, b, r) => ∃ (v : Value) (s' : ByteArray), e = .returned (.tuple #[v, .int .i64 b]) ∧ PartAt g w' v f ∧ RdAt g s' w' ∧ cut 10 s'.data.toList = r ∧ s'.size ≤ s.size
theorem engP_no {g : Nat} {s : ByteArray} {w w' : World} {o : Except Int ((Pq → Pq) × Int × List B8)} {e : Ending} {k : Int} (h : o = .error k) (hg : w.grownBy w' (some g)) (he : PanQ k e) : EngP g s w o e w' := by subst h; exact ⟨hg, he⟩
theorem engP_yes {g : Nat} {s s' : ByteArray} {w w' : World} {o : Except Int ((Pq → Pq) × Int × List B8)} {f : Pq → Pq} {b : Int} {r : List B8} {v : Value} (h : o = .ok (f, b, r)) (hg : w.grownBy w' (some g)) (hp : PartAt g w' v f) (hr : RdAt g s' w') (hc : cut 10 s'.data.toList = r) (hs : s'.size ≤ s.size) : EngP g s w o (.returned (.tuple #[v, .int .i64 b])) w' := by subst h; exact ⟨hg, v, s', rfl, hp, hr, hc, hs⟩
theorem engO_len {t : B8} {r : List B8} {l : List Int} (h : listFPl 32 t = some l) (hl : l.length ≠ 8) : engO (some (t, r)) = .error 2 := by
 unfold engO; simp only [h]; split
 · rename_i he; injection he with he; subst he; simp at hl
 · rfl
theorem eight {l : List Int} (h : l.length = 8) : ∃ a b c d e f g h', l = [a, b, c, d, e, f, g, h'] := by
 match l, h with
 | [a, b, c, d, e, f, g, h'], _ => exact ⟨a, b, c, d, e, f, g, h', rfl⟩
theorem rdEng_any (g : Nat) (s : ByteArray) (w : World) (hR : RdAt g s w) (hs : s.size ≤ 8796093022208) (hE : EnvR g w) :
 Calls Tryz.prog 70 #[.pointer (some ⟨g, 0, none⟩)] w (EngP g s w (engO (lineF engW (cut 10 s.data.toList)))) := by
 have hmf := makeFunc_ok; have HL := hide (line_any g s ⟨#[101, 110, 103, 105, 110, 101]⟩ w hR hs (by decide)); have HE := hide hE; have hgl := hR.lt; obtain ⟨o, ho⟩ : ∃ o, lineF engW (cut 10 s.data.toList) = o := ⟨_, rfl⟩; have HO := hide (show lineF (⟨#[101, 110, 103, 105, 110, 101]⟩ : ByteArray).data.toList (cut 10 s.data.toList) = o from ho); obtain ⟨Q, hQ⟩ : ∃ Q, engO (lineF engW (cut 10 s.data.toList)) = Q := ⟨_, rfl⟩; have HQ := hide (show Q = engO o by rw [← hQ, ho]); rw [hQ]; clear hR hE ho hQ; go_enter Tryz.func70, Tryz.ntmps70
 go_wp2_with fail
 refine HL.out.mono ?_; rintro e w1 ⟨hg1, h1⟩; rw [HO.out] at h1; have HG1 := hide hg1; cases o with
 | none =>
   unfold PanQ at h1; subst h1; clear hg1; go_wp2; exact ⟨rfl, engP_no HQ.out HG1.out rfl⟩
 | some x =>
   obtain ⟨t, r⟩ := x; obtain ⟨T, s', rfl, hT, hTs, hR1, hcr, hss⟩ := h1; have HR1 := hide hR1; have HCR := hide hcr; have hsz := hg1.size; have HE1 := hide (HE.out.grown hg1); have hgn : g < w1.heap.size := by omega
   have HN := hide ((callsIn_wide (n := 4)).1 (numsIn_any 32 T w1 (by omega) HE1.out.env)); clear hR1 hcr hg1; obtain ⟨o2, ho2⟩ : ∃ o2, listFPl 32 t = o2 := ⟨_, rfl⟩; have HO2 := hide (show listFPl 32 T.data.toList = o2 by rw [hT]; exact ho2); clear hT; cases o2 with
   | none =>
     have HX2 := hide (show Q = .error 2 by rw [HQ.out, engO, ho2]); clear ho2; go_wp2_with fail
     refine HN.out.mono ?_; rintro e w3 ⟨h3, hb3⟩; rw [HO2.out] at h3; subst h3; unfold ch2; have HG3 := hide (HG1.out.trans (grown_of_below hb3 (some g))); clear hb3; go_wp2; exact ⟨rfl, engP_no HX2.out HG3.out rfl⟩
   | some l =>
     have HLL := hide ho2; clear ho2; go_wp2_with fail
     refine HN.out.mono ?_; rintro e w3 ⟨h3, hb3⟩; rw [HO2.out] at h3; obtain ⟨v3, rfl, hw3⟩ := h3; have HG3 := hide (HG1.out.trans (grown_of_below hb3 (some g))); have HR3 := hide (HR1.out.below hb3); have HS3 := hide hb3.size; clear hb3; by_cases h8 : l.length = 8
     · obtain ⟨x0, x1, x2, x3, x4, x5, x6, x7, rfl⟩ := eight h8
       have HX2 := hide (show Q = .ok (fun q => { q with wk := x0, mu := x1, cp := x2, bf := x3, bn := x4, mo := x5, pr := x6, li := x7 }, x1, r) by rw [HQ.out, engO, HLL.out]); obtain ⟨g3, c3, rfl, hc1, hc2, hlt⟩ : ∃ g3 c3, v3 = .slice (some ⟨g3, 0, none⟩) 8 c3 ∧ 8 ≤ c3 ∧ c3 ≤ 9223372036854775807 ∧ g3 < w3.heap.size := by
        rcases hw3.2 with ⟨_, hn⟩ | ⟨g3, cap, cur, hv, hb, hg, hnc, hcm, _, _⟩
        · simp at hn
        · exact ⟨g3, cap, hv, hnc, hcm, (Array.getElem?_eq_some_iff.1 hg).1⟩
       have hcell : w3.cell? ⟨g3, 1, none⟩ = some (.int .i64 x1) := by
        have h := hw3.cells (g := g3) rfl 1 (.int .i64 x1) rfl; rwa [add_none] at h
       have HW3 := hide hw3; have HN3 := hide (show g < w3.heap.size by have := HS3.out; omega); clear hw3 h8; go_wp2; go_quiet (fail); go_wp2; go_ret2
       have hp := engine_part g w3.heap.size g3 c3 w1.heap.size (w3.alloc (.cells #[.slice (some ⟨g3, 0, none⟩) 8 c3] 67)) x0 x1 x2 x3 x4 x5 x6 x7 hc1 hc2 (heap_alloc_new w3 _) (own_below HW3.out (balHp _ _)) hgn (by have := HN3.out; omega); exact engP_yes HX2.out (HG3.out.trans (grown_of_below (bdrewN (balHp _ _) _) (some g))) (hp.below (bdrewN (Below.refl _ _) _)) ((HR3.out.below (balHp _ _)).below (bdrewN (Below.refl _ _) _)) HCR.out hss
     · obtain ⟨A, c, rfl, hc1, hc2⟩ := own_form hw3
       have q1 : ((l.length : Int) != 8) = true := by rw [bne_iff_ne]; omega
       have HX2 := hide (show Q = .error 2 by rw [HQ.out]; exact engO_len HLL.out h8); clear hw3 h8; go_wp2; exact ⟨rfl, engP_no HX2.out (HG3.out.trans (grown_of_below (balHp _ _) (some g))) rfl⟩
theorem engO_err {L : List B8} {k : Int} (h : engO (lineF engW L) = .error k) : k = 2 ∧ linesP L = .error 2 := by
 cases hl : lineF engW L with
 | none =>
   rw [hl] at h; injection h with h; exact ⟨h.symm, linesP_1 hl⟩
 | some x =>
   obtain ⟨t, r⟩ := x; rw [hl] at h; match L, hl with
   | l :: q :: r', hl =>
     rw [lineF_cons (by simp)] at hl; cases ha : afterF engW l with
     | none => rw [ha] at hl; cases hl
     | some t' =>
       rw [ha] at hl; simp only [Option.some.injEq, Prod.mk.injEq] at hl; obtain ⟨rfl, rfl⟩ := hl; unfold engO at h; simp only at h
       cases hn : listFPl 32 t' with
       | none =>
         rw [hn] at h; injection h with h; exact ⟨h.symm, linesP_2 (engP_list ha hn)⟩
       | some n =>
         by_cases h8 : n.length = 8
         · obtain ⟨a, b, c, d, e, f, g, k', rfl⟩ := eight h8
           rw [hn] at h; cases h
         · have := engO_len (r := q :: r') hn h8
           unfold engO at this; simp only at this
           rw [this] at h; injection h with h; exact ⟨h.symm, linesP_2 (engP_len ha hn h8)⟩
theorem engO_ok {L : List B8} {F : Pq → Pq} {b : Int} {r : List B8} (h : engO (lineF engW L) = .ok (F, b, r)) :
 ∃ l0 a c d e f g k, L = l0 :: r ∧ r ≠ [] ∧ engP l0 = some (a, b, c, d, e, f, g, k) ∧ 0 ≤ b ∧ b ≤ 1000000 ∧ F = fun q => { q with wk := a, mu := b, cp := c, bf := d, bn := e, mo := f, pr := g, li := k } := by
 match L, h with
 | [], h => cases h
 | [_], h => cases h
 | l :: q :: r', h =>
   rw [lineF_cons (by simp)] at h; cases ha : afterF engW l with
   | none => rw [ha] at h; cases h
   | some t =>
     rw [ha] at h; unfold engO at h; simp only at h
     cases hn : listFPl 32 t with
     | none => rw [hn] at h; cases h
     | some n =>
       by_cases h8 : n.length = 8
       · obtain ⟨a, b', c, d, e, f, g, k', rfl⟩ := eight h8
         rw [hn] at h; simp only [Except.ok.injEq, Prod.mk.injEq] at h; obtain ⟨rfl, rfl, rfl⟩ := h; have hm := (list_back hn).2.1 b' (by simp); exact ⟨l, a, c, d, e, f, g, k', rfl, by simp, engP_some ha hn, hm.1, hm.2, rfl⟩
       · have := engO_len (r := q :: r') hn h8
         unfold engO at this; simp only at this
         rw [this] at h; cases h
theorem heapQ_err {l : B8} {r : List B8} (hr : r ≠ []) {k : Int} (h : heapQ (l :: r) = .error k) : k = 2 ∧ (afterF heapW l).bind heapF = none := by
 unfold heapQ at h; rw [lineF_cons hr] at h; cases ha : afterF heapW l with
 | none => rw [ha] at h; injection h with h; exact ⟨h.symm, rfl⟩
 | some t =>
   rw [ha] at h; unfold heapO at h; simp only at h
   cases hh : heapF t with
   | none => rw [hh] at h; injection h with h; exact ⟨h.symm, by rw [Option.bind_some]; exact hh⟩
   | some p => rw [hh] at h; cases h
theorem heapQ_ok {l : B8} {r : List B8} (hr : r ≠ []) {F : Pq → Pq} {r' : List B8} (h : heapQ (l :: r) = .ok (F, r')) : r' = r ∧ ∃ n ls, (afterF heapW l).bind heapF = some (n, ls) ∧ F = fun q => { q with sl := n, ob := ls } := by
 unfold heapQ at h; rw [lineF_cons hr] at h; cases ha : afterF heapW l with
 | none => rw [ha] at h; cases h
 | some t =>
   rw [ha] at h; unfold heapO at h; simp only at h
   cases hh : heapF t with
   | none => rw [hh] at h; cases h
   | some p =>
     obtain ⟨n, ls⟩ := p; rw [hh] at h; simp only [Except.ok.injEq, Prod.mk.injEq] at h; exact ⟨h.2.symm, n, ls, by rw [Option.bind_some]; exact hh, h.1.symm⟩
theorem rootsQ_err {n : Nat} {l0 l1 l : B8} {r : List B8} (hr : r ≠ []) {k : Int} (h : rootsQ (l :: r) = .error k) : k = 2 ∧ restP n (l0 :: l1 :: l :: r) = .error 2 := by
 unfold rootsQ at h; rw [lineF_cons hr] at h; cases ha : afterF rootsW l with
 | none => rw [ha] at h; injection h with h; exact ⟨h.symm, restP_2 ha⟩
 | some t =>
   rw [ha] at h; unfold rootsO at h; simp only at h
   rcases parse_cases t with ⟨h1, _⟩ | ⟨h1, _⟩
   · rw [h1, if_pos rfl] at h; cases h
   · rw [h1, if_neg (by decide)] at h
     injection h with h; exact ⟨h.symm, restP_2p ha (by rw [h1]; decide)⟩
theorem rootsQ_ok {l : B8} {r : List B8} (hr : r ≠ []) {F : Pq → Pq} {r' : List B8} (h : rootsQ (l :: r) = .ok (F, r')) : r' = r ∧ ∃ t, afterF rootsW l = some t ∧ (parseFSt t).2 = 0 ∧ F = fun q => { q with ro := (parseFSt t).1 } := by
 unfold rootsQ at h; rw [lineF_cons hr] at h; cases ha : afterF rootsW l with
 | none => rw [ha] at h; cases h
 | some t =>
   rw [ha] at h; unfold rootsO at h; simp only at h
   by_cases h0 : (parseFSt t).2 = 0
   · rw [if_pos h0] at h
     simp only [Except.ok.injEq, Prod.mk.injEq] at h; exact ⟨h.2.symm, t, rfl, h0, h.1.symm⟩
   · rw [if_neg h0] at h; cases h
def finQ (a b c d e f g k : Int) : Except Int (Int × Rws × Nat × List (List Int × List Oq) × List (Int × Int)) → Except Int Pq
 | .error z => .error z
 | .ok (m, ls, s, xs, ps) => .ok ⟨a, b, c, d, e, f, g, k, m, ls, s, xs.map (·.1), xs.map (·.2), ps⟩
theorem linesP_fin {l : B8} {r : List B8} {a b c d e f g k : Int} (h : engP l = some (a, b, c, d, e, f, g, k)) (hr : r ≠ []) (hn : (r.length : Int) = b + 4 ∧ r.getLast? = some []) : linesP (l :: r) = finQ a b c d e f g k (restP b.toNat (l :: r)) := by
 rw [linesP_4 h hr hn]; cases restP b.toNat (l :: r) <;> rfl
def tailQ (n : Nat) (r : List B8) (m : Int) (ls : Rws) (s : Nat) : Except Int (Int × Rws × Nat × List (List Int × List Oq) × List (Int × Int)) :=
 match mutsP (r.take n) with
 | .error e => .error e
 | .ok xs =>
   match afterF pickW (r.getD n []) with
   | none => .error 2
   | some u => if (parseFPk ⟨u.toArray⟩).2 = 0 then .ok (m, ls, s, xs, (parseFPk ⟨u.toArray⟩).1) else .error (parseFPk ⟨u.toArray⟩).2
theorem restP_tail {n : Nat} {l0 l1 l2 t : B8} {r : List B8} {m : Int} {ls : Rws} (h1 : (afterF heapW l1).bind heapF = some (m, ls)) (h : afterF rootsW l2 = some t) (h2 : (parseFSt t).2 = 0) : restP n (l0 :: l1 :: l2 :: r) = tailQ n r m ls (parseFSt t).1 := by
 rw [restP_3 h1 h h2]; unfold tailQ; cases mutsP (r.take n) with
 | error e => rfl
 | ok xs => cases afterF pickW (r.getD n []) <;> rfl
theorem tailQ_err {n : Nat} {r : List B8} {m : Int} {ls : Rws} {s : Nat} {e : Int} (h : mutsP (r.take n) = .error e) : tailQ n r m ls s = .error e := by unfold tailQ; rw [h]
theorem tailQ_ok {n : Nat} {r : List B8} {m : Int} {ls : Rws} {s : Nat} {xs : List (List Int × List Oq)} (h : mutsP (r.take n) = .ok xs) : tailQ n r m ls s = match afterF pickW (r.getD n []) with | none => .error 2 | some u => if (parseFPk ⟨u.toArray⟩).2 = 0 then .ok (m, ls, s, xs, (parseFPk ⟨u.toArray⟩).1) else .error (parseFPk ⟨u.toArray⟩).2 := by
 unfold tailQ; rw [h]
def mutL (x : List Int × List Oq) : Pq → Pq := fun q => { q with rg := q.rg ++ [x.1], pg := q.pg ++ [x.2] }
theorem mutQ_drop {r : List B8} {k : Nat} (hk : k + 1 < r.length) : mutQ (r.drop k) = match mutP r[k] with | .error e => .error e | .ok x => .ok (mutL x, r.drop (k + 1)) := by
 have h1 : r.drop k = r[k] :: r.drop (k + 1) := List.drop_eq_getElem_cons (by omega); have h2 : r.drop (k + 1) ≠ [] := by intro e; have := congrArg List.length e; simp at this; omega
 rw [h1, mutQ, lineF_cons h2]; cases ha : afterF mutW r[k] with
 | none => simp only; rw [mutP_none ha]; rfl
 | some t =>
   simp only
   rw [mutP_some ha, mutO]; cases mutS t with
   | error e => rfl
   | ok x => rfl
theorem picksQ_is {l : B8} : picksQ [l, []] = match afterF pickW l with | none => .error 2 | some u => if (parseFPk ⟨u.toArray⟩).2 = 0 then .ok (fun q => { q with pk := (parseFPk ⟨u.toArray⟩).1 }, [[]]) else .error (parseFPk ⟨u.toArray⟩).2 := by
 rw [picksQ, lineF_cons (by simp)]; cases afterF pickW l <;> rfl
theorem lay_app (a b : List (Pq → Pq)) (q : Pq) : layFPl (a ++ b) q = layFPl b (layFPl a q) := by unfold layFPl; rw [List.foldl_append]
theorem lay_muts : ∀ (xs : List (List Int × List Oq)) (q : Pq), layFPl (xs.map mutL) q = { q with rg := q.rg ++ xs.map (·.1), pg := q.pg ++ xs.map (·.2) }
 | [], q => by simp [layFPl]
 | x :: xs, q => by
   have h : layFPl ((x :: xs).map mutL) q = layFPl (xs.map mutL) (mutL x q) := rfl; rw [h, lay_muts xs]; simp [mutL]
theorem drop_two {r : List B8} {n : Nat} (h : r.length = n + 2) (hl : r.getLast? = some []) : r.drop n = [r.getD n [], []] := by
 have h1 : r.drop n = r[n] :: r.drop (n + 1) := List.drop_eq_getElem_cons (by omega); have h2 : r.drop (n + 1) = r[n + 1] :: r.drop (n + 2) := List.drop_eq_getElem_cons (by omega); have h3 : r.drop (n + 2) = [] := List.drop_of_length_le (by omega); have h4 : r[n + 1] = [] := by
  rw [List.getLast?_eq_getElem?] at hl; rw [show r.length - 1 = n + 1 by omega] at hl; rw [List.getElem?_eq_getElem (by omega)] at hl; injection hl
 rw [h1, h2, h3, h4]; simp [List.getD_eq_getElem?_getD, List.getElem?_eq_getElem (show n < r.length by omega)]
theorem four_lines {r : List B8} (h : 4 ≤ r.length) : ∃ l1 l2 r2, r = l1 :: l2 :: r2 := by
 match r, h with
 | l1 :: l2 :: r2, _ => exact ⟨l1, l2, r2, rfl⟩
theorem last_drop {l1 l2 : B8} {r : List B8} (h : (l1 :: l2 :: r).getLast? = some []) (hr : r ≠ []) : r.getLast? = some [] := by
 cases r with
 | nil => exact absurd rfl hr
 | cons q r => simpa using h
structure PSt (g : Nat) (w0 w : World) (s0 : ByteArray) (v : Value) (fs : List (Pq → Pq)) (r : List B8) : Prop where
 gl : g < w0.heap.size
 gr : w0.grownBy w (some g)
 own : ∃ vs : List Value, w.ownsRow w0.heap.size 124 1 v vs.length vs ∧ vs.length = fs.length ∧ ∀ (i : Nat) (u : Value) (f : Pq → Pq), vs[i]? = some u → fs[i]? = some f → PartAt g w u f
 rd : ∃ s' : ByteArray, RdAt g s' w ∧ cut 10 s'.data.toList = r ∧ s'.size ≤ s0.size
theorem PSt.form {g : Nat} {w0 w : World} {s0 : ByteArray} {v : Value} {fs : List (Pq → Pq)} {r : List B8} (h : PSt g w0 w s0 v fs r) : ∃ A c, v = .slice A fs.length c ∧ fs.length ≤ c ∧ c ≤ maxLen := by
 obtain ⟨vs, h1, h2, _⟩ := h.own; obtain ⟨A, c, e, h3, h4⟩ := own_form h1; exact ⟨A, c, by rw [e, h2], by omega, h4⟩
theorem infoPart : (Tryz.prog.info? 124).map (fun i => (i.zero, i.size, i.bytes)) = some (some .nilFunc, 1, 8) := by kernel_rfl
theorem parts_snoc {g : Nat} {w : World} {vs : List Value} {fs : List (Pq → Pq)} {u : Value} {f : Pq → Pq} (hl : vs.length = fs.length) (hp : ∀ (i : Nat) (u : Value) (f : Pq → Pq), vs[i]? = some u → fs[i]? = some f → PartAt g w u f) (hu : PartAt g w u f) :
 ∀ (i : Nat) (u' : Value) (f' : Pq → Pq), (vs ++ [u])[i]? = some u' → (fs ++ [f])[i]? = some f' → PartAt g w u' f' := by
 intro i u' f' hu' hf'; by_cases hi : i < vs.length
 · rw [List.getElem?_append_left hi] at hu'
   rw [List.getElem?_append_left (by rw [← hl]; exact hi)] at hf'; exact hp i u' f' hu' hf'
 · have hlt := (List.getElem?_eq_some_iff.1 hu').1
   rw [List.length_append] at hlt; obtain rfl : i = vs.length := by simp at hlt; omega
   rw [List.getElem?_concat_length] at hu'; rw [hl, List.getElem?_concat_length] at hf'; cases hu'; cases hf'; exact hu
theorem PSt.read {g : Nat} {w0 w w2 : World} {s0 s1 : ByteArray} {v u : Value} {fs : List (Pq → Pq)} {f : Pq → Pq} {r r' : List B8} (h : PSt g w0 w s0 v fs r) (hg : w.grownBy w2 (some g)) (_hu : PartAt g w2 u f) (hr : RdAt g s1 w2) (hc : cut 10 s1.data.toList = r') (hs : s1.size ≤ s0.size) :
 PSt g w0 w2 s0 v fs r' := by
 obtain ⟨vs, h1, h2, h3⟩ := h.own; have hgl := h.gl; refine ⟨h.gl, h.gr.trans hg, ⟨vs, h1.kept hg (.inr fun e => ?_), h2, fun i u f hu hf => (h3 i u f hu hf).grown hg⟩, s1, hr, hc, hs⟩; have := own_ge h1 _ e; omega
theorem PSt.app {g : Nat} {w0 w w' : World} {s0 : ByteArray} {v v' u : Value} {fs : List (Pq → Pq)} {f : Pq → Pq} {r : List B8} {vs : List Value} (h : PSt g w0 w s0 v fs r) (h1 : w.ownsRow w0.heap.size 124 1 v vs.length vs) (h2 : vs.length = fs.length)
 (h3 : ∀ (i : Nat) (u : Value) (f : Pq → Pq), vs[i]? = some u → fs[i]? = some f → PartAt g w u f) (hu : PartAt g w u f) {o : Obj} (hown' : w'.ownsRow w0.heap.size 124 1 v' (vs.length + 1) (vs ++ [u])) (hg : (w.alloc o).grownBy w' v.ownBlock) : PSt g w0 w' s0 v' (fs ++ [f]) r := by
 have hge := own_ge h1; have hax : Below w.heap.size w (w.alloc o) := balHp w o; have hk : KpR g w w' := (KpR.of_below hax).trans (KpR.of_row (own_below h1 hax) hg); have hbel : Below w0.heap.size w w' := Below.grown (hax.mono h.gr.size) hg (by have := h.gr.size; rw [World.size_alloc]; omega) (fun k hk => hge k hk); refine ⟨h.gl, ?_, ⟨vs ++ [u], by rw [List.length_append]; exact hown', by rw [List.length_append, List.length_append, h2]; rfl, parts_snoc h2 (fun i u f hu hf => (h3 i u f hu hf).kept hk) (hu.kept hk)⟩, ?_⟩
 · exact ⟨hbel.os.trans h.gr.os, hbel.tape.trans h.gr.tape, hbel.output.trans h.gr.output, Nat.le_trans h.gr.size hk.size, fun i hi hne => (hbel.block i hi).trans (h.gr.block i hi hne)⟩
 · obtain ⟨s', hr, hc, hs⟩ := h.rd
   exact ⟨s', (hbel.block g h.gl).trans hr, hc, hs⟩
def PartsP (g : Nat) (s : ByteArray) (w : World) (e : Ending) (w' : World) : Prop :=
 w.grownBy w' (some g) ∧ match linesP (cut 10 s.data.toList) with
 | .error k => PanQ k e
 | .ok p => ∃ v fs, e = .returned v ∧ PartsAt g w' v fs ∧ layFPl fs zeroQ = p ∧ fs.length ≤ 2000000
theorem partsP_no {g : Nat} {s : ByteArray} {w w' : World} {e : Ending} {k : Int} (h : linesP (cut 10 s.data.toList) = .error k) (hg : w.grownBy w' (some g)) (he : PanQ k e) : PartsP g s w e w' := by
 refine ⟨hg, ?_⟩; rw [h]; exact he
theorem partsP_yes {g : Nat} {s : ByteArray} {w w' : World} {v : Value} {fs : List (Pq → Pq)} {p : Pq} (h : linesP (cut 10 s.data.toList) = .ok p) (hg : w.grownBy w' (some g)) (hp : PartsAt g w' v fs) (hl : layFPl fs zeroQ = p) (hn : fs.length ≤ 2000000) : PartsP g s w (.returned v) w' := by
 refine ⟨hg, ?_⟩; rw [h]; exact ⟨v, fs, rfl, hp, hl, hn⟩
theorem PSt.parts {g : Nat} {w0 w : World} {s0 : ByteArray} {v : Value} {fs : List (Pq → Pq)} {r : List B8} (h : PSt g w0 w s0 v fs r) : PartsAt g w v fs := by
 obtain ⟨vs, h1, h2, h3⟩ := h.own; exact ⟨vs, Sl.of_own (enc := one) (size := 1) one_len (by rw [flat_one]; exact h1), h2, h3⟩
theorem parts_any (g : Nat) (s : ByteArray) (w : World) (hR : RdAt g s w) (hs : s.size ≤ 8796093022208) (hE : EnvR g w) :
 Calls Tryz.prog 25 #[.pointer (some ⟨g, 0, none⟩)] w (PartsP g s w) := by
 obtain ⟨i0, hi, hz0, hz1, hz2⟩ := info_parts infoPart; have HEN := hide (rdEng_any g s w hR hs hE); obtain ⟨L, hL⟩ : ∃ L, cut 10 s.data.toList = L := ⟨_, rfl⟩; obtain ⟨o, ho⟩ : ∃ o, engO (lineF engW L) = o := ⟨_, rfl⟩; have HO := hide (show engO (lineF engW (cut 10 s.data.toList)) = o by rw [hL]; exact ho); have HL := hide hL; have HE := hide hE; have hgl := hR.lt; clear hR hE hL; go_enter Tryz.func25, Tryz.ntmps25
 go_wp2_with fail
 refine HEN.out.mono ?_; rintro e w1 ⟨hg1, h1⟩; rw [HO.out] at h1; have HG1 := hide hg1; have HE1 := hide (HE.out.grown hg1); have HS1 := hide hg1.size; clear hg1; cases o with
 | error k =>
   obtain ⟨rfl, hl⟩ := engO_err ho; have HX := hide (show linesP (cut 10 s.data.toList) = .error 2 by rw [HL.out]; exact hl); unfold PanQ at h1; subst h1; clear ho hl; go_wp2; exact ⟨rfl, partsP_no HX.out HG1.out rfl⟩
 | ok x =>
   obtain ⟨fe, b, r⟩ := x; obtain ⟨l0, xa, xc, xd, xe, xf, xg, xk, hLr, hrn, hep, hb0, hb1, hfe⟩ := engO_ok ho; obtain ⟨ve, s1, rfl, hpe, hr1, hc1, hs1⟩ := h1; have HPE := hide hpe; have HR1 := hide hr1; have HC1 := hide hc1; obtain ⟨B, hB⟩ : ∃ B, decide ((r.length : Int) = b + 4 ∧ r.getLast? = some []) = B := ⟨_, rfl⟩; have HND := hide (need_any g s1 (3 + b) w1 hr1 (by omega) B (by rw [hc1, ← hB, show (3 + b : Int) + 1 = b + 4 by omega]) (by omega)); have hw3 : IntKind.i64.wrap (3 + b) = 3 + b := by simp [IntKind.wrap, IntKind.bits, IntKind.signed]; omega
   obtain ⟨fo, caps, hvf, -⟩ := id hpe; subst hvf; clear hpe hr1 hc1 ho; cases B with
   | false =>
     have HX := hide (show linesP (cut 10 s.data.toList) = .error 2 by rw [HL.out, hLr]; exact linesP_3 hep hrn (of_decide_eq_false hB)); clear hLr hrn hep hfe hB; go_wp2_with fail
     (with_reducible refine HND.out.mono ?_); rintro e w2 ⟨hw2, h2⟩; obtain rfl := hw2.symm; simp only [Bool.false_eq_true, if_false] at h2; unfold PanQ at h2; subst h2; go_wp2; exact ⟨rfl, partsP_no HX.out HG1.out rfl⟩
   | true =>
     obtain ⟨n, hn⟩ : ∃ n : Nat, b = n := ⟨b.toNat, by omega⟩; subst hn; have hln := of_decide_eq_true hB; have HX := hide (show linesP (cut 10 s.data.toList) = finQ xa n xc xd xe xf xg xk (restP n (l0 :: r)) by
      rw [HL.out, hLr, linesP_fin hep hrn hln, Int.toNat_natCast])
     obtain ⟨l1, l2, r2, rfl⟩ := four_lines (r := r) (by omega); have hr2 : r2.length = n + 2 := by have := hln.1; simp at this; omega
     have hr2n : r2 ≠ [] := by intro e; rw [e] at hr2; simp at hr2
     have HLS := hide (last_drop hln.2 hr2n); have HFE := hide hfe; have HR2 := hide hr2; clear hLr hrn hep hB hln hfe hr2; go_wp2_with fail
     (with_reducible refine HND.out.mono ?_); rintro e w2 ⟨hw2, h2⟩; obtain rfl := hw2.symm; simp only [if_true] at h2; subst h2; have HH := hide (rdHeap_any g s1 w1 HR1.out (by omega) HE1.out); rw [HC1.out] at HH; go_wp2_with fail
     refine HH.out.mono ?_; rintro e w3 ⟨hg3, h3⟩; have HG3 := hide (HG1.out.trans hg3); have HE3 := hide (HE1.out.grown hg3); have HPE3 := hide (HPE.out.grown hg3); clear hg3; obtain ⟨o3, ho3⟩ : ∃ o3, heapQ (l1 :: l2 :: r2) = o3 := ⟨_, rfl⟩; rw [ho3] at h3; cases o3 with
     | error k =>
       obtain ⟨rfl, hk⟩ := heapQ_err (by simp) ho3; have HX2 := hide (show linesP (cut 10 s.data.toList) = .error 2 by rw [HX.out, restP_1 hk]; rfl); unfold PanQ at h3; subst h3; clear ho3 hk; go_wp2; exact ⟨rfl, partsP_no HX2.out HG3.out rfl⟩
     | ok x =>
       obtain ⟨fh, r'⟩ := x; obtain ⟨rfl, m, ls, hm, hfh⟩ := heapQ_ok (by simp) ho3; obtain ⟨vh, s3, rfl, hph, hr3, hc3, hs3⟩ := h3; have HPH := hide hph; have HC3 := hide hc3; have HR3 := hide (rdRoots_any g s3 w3 hr3 (by omega) HE3.out); rw [hc3] at HR3; obtain ⟨fo3, caps3, hvf3, -⟩ := id hph; subst hvf3; have HM := hide hm; have HFH := hide hfh; clear hph hr3 hc3 ho3 hm hfh; go_wp2_with fail
       refine HR3.out.mono ?_; rintro e w4 ⟨hg4, h4⟩; have HG4 := hide (HG3.out.trans hg4); have HE4 := hide (HE3.out.grown hg4); have HPE4 := hide (HPE3.out.grown hg4); have HPH4 := hide (HPH.out.grown hg4); clear hg4; obtain ⟨o4, ho4⟩ : ∃ o4, rootsQ (l2 :: r2) = o4 := ⟨_, rfl⟩; rw [ho4] at h4; cases o4 with
       | error k =>
         obtain ⟨rfl, hk⟩ := rootsQ_err (n := n) (l0 := l0) (l1 := l1) hr2n ho4; have HX2 := hide (show linesP (cut 10 s.data.toList) = .error 2 by rw [HX.out, hk]; rfl); unfold PanQ at h4; subst h4; clear ho4 hk; go_wp2; exact ⟨rfl, partsP_no HX2.out HG4.out rfl⟩
       | ok x =>
         obtain ⟨fr, r'⟩ := x; obtain ⟨rfl, t, ht, ht0, hfr⟩ := rootsQ_ok hr2n ho4; obtain ⟨vr, s4, rfl, hpr, hr4, hc4, hs4⟩ := h4; have HX4 := hide (show linesP (cut 10 s.data.toList) = finQ xa n xc xd xe xf xg xk (tailQ n r' m ls (parseFSt t).1) by rw [HX.out, restP_tail HM.out ht ht0]); obtain ⟨fo4, caps4, hvf4, -⟩ := id hpr; subst hvf4; have HFR := hide hfr; obtain ⟨w5, e5⟩ : ∃ w5, w4.alloc (.cells #[.func (.func fo) #[] caps, .func (.func fo3) #[] caps3, .func (.func fo4) #[] caps4] 124) = w5 := ⟨_, rfl⟩; have hb5 : Below w4.heap.size w4 w5 := by rw [← e5]; exact balHp _ _
         have hsw : w.heap.size ≤ w4.heap.size := HG4.out.size; have hP5 : PSt g w w5 s (.slice (some ⟨w4.heap.size, 0, none⟩) 3 3) [fe, fh, fr] r' := by
          refine ⟨hgl, HG4.out.trans (grown_of_below hb5 _), ⟨[.func (.func fo) #[] caps, .func (.func fo3) #[] caps3, .func (.func fo4) #[] caps4], ?_, rfl, ?_⟩, s4, hr4.below hb5, hc4, by omega⟩
          · rw [← e5]; exact own_new w4 w.heap.size [.func (.func fo) #[] caps, .func (.func fo3) #[] caps3, .func (.func fo4) #[] caps4] 124 1 3 hsw rfl (by decide)
          · intro i u f hu hf
            match i, hu, hf with
            | 0, hu, hf => cases hu; cases hf; exact HPE4.out.below hb5
            | 1, hu, hf => cases hu; cases hf; exact HPH4.out.below hb5
            | 2, hu, hf => cases hu; cases hf; exact hpr.below hb5
            | i + 3, hu, hf => simp at hu
         have HP5 := hide hP5; have HE5 := hide e5; clear hpr hr4 hc4 ho4 ht ht0 hfr e5 hb5 hP5; go_wp2_with fail
         rw [HE5.out]; go_loopw [5, 22] (fun lv iv wr => ∃ (k : Nat) (xs : List (List Int × List Oq)), k ≤ n ∧ iv = .int .i64 k ∧ Hid (xs.length = k ∧ mutsP (r'.take k) = .ok xs ∧ PSt g w wr s lv ([fe, fh, fr] ++ xs.map mutL) (r'.drop k))) (fun _ iv _ => n - (intOf iv).toNat)
         case atStart => exact ⟨0, [], Nat.zero_le _, rfl, hide ⟨rfl, rfl, HP5.out⟩⟩
         case round =>
          obtain ⟨k, xs, hk, rfl, HK⟩ := hrel; obtain ⟨hxl, hmx, hP⟩ := HK.out; obtain ⟨A, c, rfl, hc1, hc2⟩ := hP.form; obtain ⟨N, hN⟩ : ∃ N, ([fe, fh, fr] ++ xs.map mutL).length = N := ⟨_, rfl⟩; have hN3 : N ≤ k + 3 ∧ k + 3 ≤ N := by rw [← hN]; simp [hxl]
          rw [hN] at hc1 hP ⊢; obtain ⟨vs, ho1, ho2, ho3⟩ := hP.own; obtain ⟨s', hr', hcr, hss⟩ := hP.rd; have HE' := HE.out.grown hP.gr; have hsz := hP.gr.size; by_cases hlt : k < n
          · have hkr : k + 1 < r'.length := by have := HR2.out; omega
            have HMU := hide (rdMut_any g s' wr hr' (by omega) HE'); rw [hcr, mutQ_drop hkr] at HMU; obtain ⟨om, hom⟩ : ∃ om, mutP r'[k] = om := ⟨_, rfl⟩; rw [hom] at HMU; have HP := hide hP; have HOW := hide (And.intro ho1 (And.intro ho2 ho3)); have HVL := hide (show vs.length = N by rw [ho2, hN]); cases om with
            | error z =>
              have HX2 := hide (show linesP (cut 10 s.data.toList) = .error z by rw [HX4.out, tailQ_err (mutsP_stop hmx (by omega) hlt hom)]; rfl); clear hP ho1 ho2 ho3 hr' hcr HE' hmx hom hxl hN; go_wp2_with fail
              refine HMU.out.mono ?_; rintro e w6 ⟨hg6, h6⟩; unfold PanQ at h6; simp only at h6
              subst h6; have HG6 := hide (HP.out.gr.trans hg6); clear hg6; go_wp2; exact ⟨rfl, partsP_no HX2.out HG6.out rfl⟩
            | ok x =>
              have HMX := hide (mutsP_take hmx (by omega) hom); have HXL := hide hxl; have HNL := hide hN; clear hP ho1 ho2 ho3 hr' hcr HE' hmx hom hxl hN; go_wp2_with fail
              refine HMU.out.mono ?_; rintro e w6 ⟨hg6, h6⟩; obtain ⟨v6, s6, rfl, hp6, hr6, hc6, hs6⟩ := h6; obtain ⟨fo6, caps6, hvf6, -⟩ := id hp6; subst hvf6; have HP6 := hide (HP.out.read hg6 hp6 hr6 hc6 (by omega)); have HPA := hide hp6; have HO6 := hide (show w6.ownsRow w.heap.size 124 1 (.slice A N c) vs.length vs from HOW.out.1.kept hg6 (.inr fun e => by have := own_ge HOW.out.1 _ e; omega)); have HH6 := hide (show ∀ (i : Nat) (u : Value) (f : Pq → Pq), vs[i]? = some u → ([fe, fh, fr] ++ xs.map mutL)[i]? = some f → PartAt g w6 u f from fun i u f hu hf => (HOW.out.2.2 i u f hu hf).grown hg6); have hs6' : w.heap.size ≤ w6.heap.size := Nat.le_trans hsz hg6.size; clear hg6 hp6 hr6 hc6; go_wp2_with (at_builtin; refine wpList_append_own _ rfl _ _ 61 rfl w.heap.size 124 i0 .nilFunc 1 8 Tryz.underlying61 hi hz0 hz1 hz2 rfl (by decide) _ _ _ rfl (HO6.out.alloc _) ⟨_, 0, none⟩ 1 1 [.func (.func fo6) #[] caps6] rfl rfl (row_at _ _ _ (by simp)) (by simp [Value.oneCell']) (by have := HVL.out; simp only [maxLen]; omega) (by have := HVL.out; omega) (by simp; omega) ?_; intro v' w7 hown' hgrow _)
              have HP7 := hide (HP6.out.app HO6.out HOW.out.2.1 HH6.out HPA.out hown' hgrow); clear hown' hgrow; go_roundw
              case rel => exact ⟨k + 1, xs ++ [x], by omega, by go_num, hide ⟨by rw [List.length_append, HXL.out]; rfl, HMX.out, by have h := HP7.out; rw [List.append_assoc] at h; rw [List.map_append]; exact h⟩⟩
              case measure => simp [intOf]; omega
          · obtain rfl : k = n := by omega
            have hdr := drop_two HR2.out HLS.out; have HPI := hide (rdPicks_any g s' wr hr' (by omega) HE'); rw [hcr, hdr, picksQ_is] at HPI; have hXX := HX4.out; rw [tailQ_ok hmx] at hXX; obtain ⟨om, hom⟩ : ∃ om, afterF pickW (r'.getD k []) = om := ⟨_, rfl⟩; rw [hom] at HPI hXX; have HP := hide hP; have HOW := hide (And.intro ho1 (And.intro ho2 ho3)); have HVL := hide (show vs.length = N by rw [ho2, hN]); clear hP ho1 ho2 ho3 hr' hcr HE' hmx hxl hN hdr hom; cases om with
            | none =>
              have HX2 := hide (show linesP (cut 10 s.data.toList) = .error 2 from hXX); clear hXX; go_wp2_with fail
              refine HPI.out.mono ?_; rintro e w6 ⟨hg6, h6⟩; unfold PanQ at h6; simp only at h6
              subst h6; have HG6 := hide (HP.out.gr.trans hg6); clear hg6; go_wp2; exact ⟨rfl, partsP_no HX2.out HG6.out rfl⟩
            | some u =>
              simp only at hXX HPI
              by_cases hz : (parseFPk ⟨u.toArray⟩).2 = 0
              · rw [if_pos hz] at HPI hXX
                have HX2 := hide (show linesP (cut 10 s.data.toList) = .ok ⟨xa, (k : Int), xc, xd, xe, xf, xg, xk, m, ls, (parseFSt t).1, xs.map (·.1), xs.map (·.2), (parseFPk ⟨u.toArray⟩).1⟩ from hXX); clear hXX hz; go_wp2_with fail
                refine HPI.out.mono ?_; rintro e w6 ⟨hg6, h6⟩; obtain ⟨v6, s6, rfl, hp6, hr6, hc6, hs6⟩ := h6; obtain ⟨fo6, caps6, hvf6, -⟩ := id hp6; subst hvf6; have HP6 := hide (HP.out.read hg6 hp6 hr6 hc6 (by omega)); have HPA := hide hp6; have HO6 := hide (show w6.ownsRow w.heap.size 124 1 (.slice A N c) vs.length vs from HOW.out.1.kept hg6 (.inr fun e => by have := own_ge HOW.out.1 _ e; omega)); have HH6 := hide (show ∀ (i : Nat) (u : Value) (f : Pq → Pq), vs[i]? = some u → ([fe, fh, fr] ++ xs.map mutL)[i]? = some f → PartAt g w6 u f from fun i u f hu hf => (HOW.out.2.2 i u f hu hf).grown hg6); have hs6' : w.heap.size ≤ w6.heap.size := Nat.le_trans hsz hg6.size; clear hg6 hp6 hr6 hc6; go_wp2_with (at_builtin; refine wpList_append_own _ rfl _ _ 61 rfl w.heap.size 124 i0 .nilFunc 1 8 Tryz.underlying61 hi hz0 hz1 hz2 rfl (by decide) _ _ _ rfl (HO6.out.alloc _) ⟨_, 0, none⟩ 1 1 [.func (.func fo6) #[] caps6] rfl rfl (row_at _ _ _ (by simp)) (by simp [Value.oneCell']) (by have := HVL.out; simp only [maxLen]; omega) (by have := HVL.out; omega) (by simp; omega) ?_; intro v' w7 hown' hgrow _)
                have HP7 := hide (HP6.out.app HO6.out HOW.out.2.1 HH6.out HPA.out hown' hgrow); clear hown' hgrow; go_ret
                refine partsP_yes HX2.out HP7.out.gr HP7.out.parts ?_ (by have := HK.out.1; simp; omega); rw [lay_app, lay_app, lay_muts, HFE.out, HFH.out, HFR.out]; rfl
              · rw [if_neg hz] at HPI hXX
                have HX2 := hide (show linesP (cut 10 s.data.toList) = .error (parseFPk ⟨u.toArray⟩).2 from hXX); clear hXX hz; go_wp2_with fail
                refine HPI.out.mono ?_; rintro e w6 ⟨hg6, h6⟩; unfold PanQ at h6; simp only at h6
                subst h6; have HG6 := hide (HP.out.gr.trans hg6); clear hg6; go_wp2; exact ⟨rfl, partsP_no HX2.out HG6.out rfl⟩
