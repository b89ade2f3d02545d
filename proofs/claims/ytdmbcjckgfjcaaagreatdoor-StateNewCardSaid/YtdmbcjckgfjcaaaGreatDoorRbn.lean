import Derived.Test.YtdmbcjckgfjcaaaGreatDoorRbm
/- Layer plan: the program's Same. Written by tools/genplanr6.py. -/
namespace Go.Proofs.YtdmbcjckgfjcaaaGreatDoor
open Go.RowKit Go.Joins
theorem Bp.two {t t' : TypeId} {w w' : World} {B B' : Nat} {a b c d e f g h n : Int} {ob : Value} {s : Nat} {rg pg pk : Value} {a' b' c' d' e' f' g' h' n' : Int} {ob' : Value} {s' : Nat} {rg' pg' pk' : Value} (k : Bp t w B a b c d e f g h n ob s rg pg pk) (k' : Bp t' w B' a' b' c' d' e' f' g' h' n' ob' s' rg' pg' pk') (hb : Below w.heap.size w w') :
    (w'.cell? ⟨B, 0, none⟩ = some (.int .i64 a) ∧ w'.cell? ⟨B, 1, none⟩ = some (.int .i64 b) ∧ w'.cell? ⟨B, 2, none⟩ = some (.int .i64 c) ∧ w'.cell? ⟨B, 3, none⟩ = some (.int .i64 d) ∧ w'.cell? ⟨B, 4, none⟩ = some (.int .i64 e) ∧ w'.cell? ⟨B, 5, none⟩ = some (.int .i64 f) ∧ w'.cell? ⟨B, 6, none⟩ = some (.int .i64 g) ∧ w'.cell? ⟨B, 7, none⟩ = some (.int .i64 h) ∧ w'.cell? ⟨B, 8, none⟩ = some (.int .i64 n) ∧ w'.cell? ⟨B, 9, none⟩ = some (ob) ∧ w'.cell? ⟨B, 10, none⟩ = some (.int .u64 (s : Int)) ∧ w'.cell? ⟨B, 11, none⟩ = some (rg) ∧ w'.cell? ⟨B, 12, none⟩ = some (pg) ∧ w'.cell? ⟨B, 13, none⟩ = some (pk)) ∧ (w'.cell? ⟨B', 0, none⟩ = some (.int .i64 a') ∧ w'.cell? ⟨B', 1, none⟩ = some (.int .i64 b') ∧ w'.cell? ⟨B', 2, none⟩ = some (.int .i64 c') ∧ w'.cell? ⟨B', 3, none⟩ = some (.int .i64 d') ∧ w'.cell? ⟨B', 4, none⟩ = some (.int .i64 e') ∧ w'.cell? ⟨B', 5, none⟩ = some (.int .i64 f') ∧ w'.cell? ⟨B', 6, none⟩ = some (.int .i64 g') ∧ w'.cell? ⟨B', 7, none⟩ = some (.int .i64 h') ∧ w'.cell? ⟨B', 8, none⟩ = some (.int .i64 n') ∧ w'.cell? ⟨B', 9, none⟩ = some (ob') ∧ w'.cell? ⟨B', 10, none⟩ = some (.int .u64 (s' : Int)) ∧ w'.cell? ⟨B', 11, none⟩ = some (rg') ∧ w'.cell? ⟨B', 12, none⟩ = some (pg') ∧ w'.cell? ⟨B', 13, none⟩ = some (pk')) := ⟨(k.below hb).cells, (k'.below hb).cells⟩
set_option maxRecDepth 100000 in
set_option maxHeartbeats 40000000 in
theorem pSame_0 (a b c d e f g h n : Int) (ob : Value) (s : Nat) (rg pg pk : Value) (lo lr : Rws) (lp : List (List Oq)) (lk : List PP) (a' b' c' d' e' f' g' h' n' : Int) (ob' : Value) (s' : Nat) (rg' pg' pk' : Value) (lo' lr' : Rws) (lp' : List (List Oq)) (lk' : List PP) (w w2 : World) (HE : Hid ((w.alloc (.cells #[.int .i64 a, .int .i64 b, .int .i64 c, .int .i64 d, .int .i64 e, .int .i64 f, .int .i64 g, .int .i64 h, .int .i64 n, ob, .int .u64 (s : Int), rg, pg, pk] 30)).alloc (.cells #[.int .i64 a', .int .i64 b', .int .i64 c', .int .i64 d', .int .i64 e', .int .i64 f', .int .i64 g', .int .i64 h', .int .i64 n', ob', .int .u64 (s' : Int), rg', pg', pk'] 30) = w2)) (HB2 : Hid (Below w.heap.size w w2))
    (HX : Hid (Bp 30 w2 w.heap.size a b c d e f g h n ob s rg pg pk)) (HY : Hid (Bp 30 w2 (w.heap.size + 1) a' b' c' d' e' f' g' h' n' ob' s' rg' pg' pk')) (_HP : Hid (PlanR w2 ob rg pg pk ⟨a, b, c, d, e, f, g, h, n, lo, s, lr, lp, lk⟩)) (_HR : Hid (PlanR w2 ob' rg' pg' pk' ⟨a', b', c', d', e', f', g', h', n', lo', s', lr', lp', lk'⟩)) (Q0 : Hid ((decide ([a, b, c, d, e, f, g, h] = [a', b', c', d', e', f', g', h'])) = false)) :
    Calls Tryz.prog 81 #[planV a b c d e f g h n ob s rg pg pk, planV a' b' c' d' e' f' g' h' n' ob' s' rg' pg' pk'] w fun x w' => x = .returned (.bool false) ∧ Below w.heap.size w w' := by
  have HBC := hide (belowD (Below.refl w2.heap.size w2))
  have hq0 := eql_nums a b c d e f g h a' b' c' d' e' f' g' h'
  rw [Q0.out] at hq0
  unfold planV
  go_enter Tryz.func81, Tryz.ntmps81
  go_wp2
  rw [HE.out]
  refine wp_region_held_drew (S := fun w' => (w'.cell? ⟨w.heap.size, 0, none⟩ = some (.int .i64 a) ∧ w'.cell? ⟨w.heap.size, 1, none⟩ = some (.int .i64 b) ∧ w'.cell? ⟨w.heap.size, 2, none⟩ = some (.int .i64 c) ∧ w'.cell? ⟨w.heap.size, 3, none⟩ = some (.int .i64 d) ∧ w'.cell? ⟨w.heap.size, 4, none⟩ = some (.int .i64 e) ∧ w'.cell? ⟨w.heap.size, 5, none⟩ = some (.int .i64 f) ∧ w'.cell? ⟨w.heap.size, 6, none⟩ = some (.int .i64 g) ∧ w'.cell? ⟨w.heap.size, 7, none⟩ = some (.int .i64 h) ∧ w'.cell? ⟨w.heap.size, 8, none⟩ = some (.int .i64 n) ∧ w'.cell? ⟨w.heap.size, 9, none⟩ = some (ob) ∧ w'.cell? ⟨w.heap.size, 10, none⟩ = some (.int .u64 (s : Int)) ∧ w'.cell? ⟨w.heap.size, 11, none⟩ = some (rg) ∧ w'.cell? ⟨w.heap.size, 12, none⟩ = some (pg) ∧ w'.cell? ⟨w.heap.size, 13, none⟩ = some (pk)) ∧ (w'.cell? ⟨w.heap.size + 1, 0, none⟩ = some (.int .i64 a') ∧ w'.cell? ⟨w.heap.size + 1, 1, none⟩ = some (.int .i64 b') ∧ w'.cell? ⟨w.heap.size + 1, 2, none⟩ = some (.int .i64 c') ∧ w'.cell? ⟨w.heap.size + 1, 3, none⟩ = some (.int .i64 d') ∧ w'.cell? ⟨w.heap.size + 1, 4, none⟩ = some (.int .i64 e') ∧ w'.cell? ⟨w.heap.size + 1, 5, none⟩ = some (.int .i64 f') ∧ w'.cell? ⟨w.heap.size + 1, 6, none⟩ = some (.int .i64 g') ∧ w'.cell? ⟨w.heap.size + 1, 7, none⟩ = some (.int .i64 h') ∧ w'.cell? ⟨w.heap.size + 1, 8, none⟩ = some (.int .i64 n') ∧ w'.cell? ⟨w.heap.size + 1, 9, none⟩ = some (ob') ∧ w'.cell? ⟨w.heap.size + 1, 10, none⟩ = some (.int .u64 (s' : Int)) ∧ w'.cell? ⟨w.heap.size + 1, 11, none⟩ = some (rg') ∧ w'.cell? ⟨w.heap.size + 1, 12, none⟩ = some (pg') ∧ w'.cell? ⟨w.heap.size + 1, 13, none⟩ = some (pk'))) (by kernel_rfl) ?_ (fun hHeld => ?_)
  · exact (by exact HX.out.two HY.out HBC.out)
  refine tk 0 (h := ?_)
  refine tk 2 (h := ?_)
  refine wpAnyH_ready (rs := [1]) (by kernel_rfl) (by simp) ?_
  refine AllReadyH.cons rfl (fun K hK => ?_) AllReadyH.nil
  go_simp
  go_at_call 132
  (with_reducible refine (numbersOf_any a b c d e f g h n ob s rg pg pk _).mono ?_)
  rintro x w4 ⟨rfl, hb⟩
  have HBC := hide (bcall HBC.out hb)
  clear hb
  (try go_simp)
  refine hK.out _ _ (by exact HX.out.two HY.out HBC.out) (fun hHeld => ?_)
  (try simp only [Act.put, List.setIfInBounds_toArray, List.set_cons_zero, List.set_cons_succ])
  refine wpAnyH_ready (rs := [3]) (by kernel_rfl) (by simp) ?_
  refine AllReadyH.cons rfl (fun K hK => ?_) AllReadyH.nil
  go_simp
  go_at_call 132
  (with_reducible refine (numbersOf_any a' b' c' d' e' f' g' h' n' ob' s' rg' pg' pk' _).mono ?_)
  rintro x w4 ⟨rfl, hb⟩
  have HBC := hide (bcall HBC.out hb)
  clear hb
  (try go_simp)
  refine hK.out _ _ (by exact HX.out.two HY.out HBC.out) (fun hHeld => ?_)
  (try simp only [Act.put, List.setIfInBounds_toArray, List.set_cons_zero, List.set_cons_succ])
  refine tk 4 (h := ?_)
  refine tk 5 (h := ?_)
  refine tu 6 (h := ?_)
  refine tu 7 (h := ?_)
  refine tu 8 (h := ?_)
  refine tu 9 (h := ?_)
  refine tu 10 (h := ?_)
  refine tk 11 (h := ?_)
  refine tk 12 (h := ?_)
  refine tu 13 (h := ?_)
  refine tu 14 (h := ?_)
  refine tu 15 (h := ?_)
  refine tu 16 (h := ?_)
  refine tu 17 (h := ?_)
  refine tk 18 (h := ?_)
  refine tk 19 (h := ?_)
  refine tu 20 (h := ?_)
  refine tu 21 (h := ?_)
  refine tu 22 (h := ?_)
  refine tu 23 (h := ?_)
  refine tu 24 (h := ?_)
  refine tk 25 (h := ?_)
  refine tk 26 (h := ?_)
  refine tu 27 (h := ?_)
  refine tu 28 (h := ?_)
  refine tu 29 (h := ?_)
  refine tu 30 (h := ?_)
  refine tu 31 (h := ?_)
  refine tk 32 (h := ?_)
  refine tk 33 (h := ?_)
  refine tu 34 (h := ?_)
  refine tu 35 (h := ?_)
  refine tu 36 (h := ?_)
  refine tu 37 (h := ?_)
  refine tu 38 (h := ?_)
  refine tk 39 (h := ?_)
  refine tk 40 (h := ?_)
  refine wpAnyH_done (by kernel_rfl) ?_ _
  go_wp2
  go_ret
  exact ⟨rfl, bcall HB2.out HBC.out⟩
set_option maxRecDepth 100000 in
set_option maxHeartbeats 40000000 in
theorem pSame_1 (a b c d e f g h n : Int) (ob : Value) (s : Nat) (rg pg pk : Value) (lo lr : Rws) (lp : List (List Oq)) (lk : List PP) (a' b' c' d' e' f' g' h' n' : Int) (ob' : Value) (s' : Nat) (rg' pg' pk' : Value) (lo' lr' : Rws) (lp' : List (List Oq)) (lk' : List PP) (w w2 : World) (HE : Hid ((w.alloc (.cells #[.int .i64 a, .int .i64 b, .int .i64 c, .int .i64 d, .int .i64 e, .int .i64 f, .int .i64 g, .int .i64 h, .int .i64 n, ob, .int .u64 (s : Int), rg, pg, pk] 30)).alloc (.cells #[.int .i64 a', .int .i64 b', .int .i64 c', .int .i64 d', .int .i64 e', .int .i64 f', .int .i64 g', .int .i64 h', .int .i64 n', ob', .int .u64 (s' : Int), rg', pg', pk'] 30) = w2)) (HB2 : Hid (Below w.heap.size w w2))
    (HX : Hid (Bp 30 w2 w.heap.size a b c d e f g h n ob s rg pg pk)) (HY : Hid (Bp 30 w2 (w.heap.size + 1) a' b' c' d' e' f' g' h' n' ob' s' rg' pg' pk')) (HP : Hid (PlanR w2 ob rg pg pk ⟨a, b, c, d, e, f, g, h, n, lo, s, lr, lp, lk⟩)) (HR : Hid (PlanR w2 ob' rg' pg' pk' ⟨a', b', c', d', e', f', g', h', n', lo', s', lr', lp', lk'⟩)) (Q0 : Hid ((decide ([a, b, c, d, e, f, g, h] = [a', b', c', d', e', f', g', h'])) = true)) (Q1 : Hid ((sameF n lo n' lo') = false)) :
    Calls Tryz.prog 81 #[planV a b c d e f g h n ob s rg pg pk, planV a' b' c' d' e' f' g' h' n' ob' s' rg' pg' pk'] w fun x w' => x = .returned (.bool false) ∧ Below w.heap.size w w' := by
  have HBC := hide (belowD (Below.refl w2.heap.size w2))
  have hq0 := eql_nums a b c d e f g h a' b' c' d' e' f' g' h'
  rw [Q0.out] at hq0
  unfold planV
  go_enter Tryz.func81, Tryz.ntmps81
  go_wp2
  rw [HE.out]
  refine wp_region_held_drew (S := fun w' => (w'.cell? ⟨w.heap.size, 0, none⟩ = some (.int .i64 a) ∧ w'.cell? ⟨w.heap.size, 1, none⟩ = some (.int .i64 b) ∧ w'.cell? ⟨w.heap.size, 2, none⟩ = some (.int .i64 c) ∧ w'.cell? ⟨w.heap.size, 3, none⟩ = some (.int .i64 d) ∧ w'.cell? ⟨w.heap.size, 4, none⟩ = some (.int .i64 e) ∧ w'.cell? ⟨w.heap.size, 5, none⟩ = some (.int .i64 f) ∧ w'.cell? ⟨w.heap.size, 6, none⟩ = some (.int .i64 g) ∧ w'.cell? ⟨w.heap.size, 7, none⟩ = some (.int .i64 h) ∧ w'.cell? ⟨w.heap.size, 8, none⟩ = some (.int .i64 n) ∧ w'.cell? ⟨w.heap.size, 9, none⟩ = some (ob) ∧ w'.cell? ⟨w.heap.size, 10, none⟩ = some (.int .u64 (s : Int)) ∧ w'.cell? ⟨w.heap.size, 11, none⟩ = some (rg) ∧ w'.cell? ⟨w.heap.size, 12, none⟩ = some (pg) ∧ w'.cell? ⟨w.heap.size, 13, none⟩ = some (pk)) ∧ (w'.cell? ⟨w.heap.size + 1, 0, none⟩ = some (.int .i64 a') ∧ w'.cell? ⟨w.heap.size + 1, 1, none⟩ = some (.int .i64 b') ∧ w'.cell? ⟨w.heap.size + 1, 2, none⟩ = some (.int .i64 c') ∧ w'.cell? ⟨w.heap.size + 1, 3, none⟩ = some (.int .i64 d') ∧ w'.cell? ⟨w.heap.size + 1, 4, none⟩ = some (.int .i64 e') ∧ w'.cell? ⟨w.heap.size + 1, 5, none⟩ = some (.int .i64 f') ∧ w'.cell? ⟨w.heap.size + 1, 6, none⟩ = some (.int .i64 g') ∧ w'.cell? ⟨w.heap.size + 1, 7, none⟩ = some (.int .i64 h') ∧ w'.cell? ⟨w.heap.size + 1, 8, none⟩ = some (.int .i64 n') ∧ w'.cell? ⟨w.heap.size + 1, 9, none⟩ = some (ob') ∧ w'.cell? ⟨w.heap.size + 1, 10, none⟩ = some (.int .u64 (s' : Int)) ∧ w'.cell? ⟨w.heap.size + 1, 11, none⟩ = some (rg') ∧ w'.cell? ⟨w.heap.size + 1, 12, none⟩ = some (pg') ∧ w'.cell? ⟨w.heap.size + 1, 13, none⟩ = some (pk'))) (by kernel_rfl) ?_ (fun hHeld => ?_)
  · exact (by exact HX.out.two HY.out HBC.out)
  refine tk 0 (h := ?_)
  refine tk 2 (h := ?_)
  refine wpAnyH_ready (rs := [1]) (by kernel_rfl) (by simp) ?_
  refine AllReadyH.cons rfl (fun K hK => ?_) AllReadyH.nil
  go_simp
  go_at_call 132
  (with_reducible refine (numbersOf_any a b c d e f g h n ob s rg pg pk _).mono ?_)
  rintro x w4 ⟨rfl, hb⟩
  have HBC := hide (bcall HBC.out hb)
  clear hb
  (try go_simp)
  refine hK.out _ _ (by exact HX.out.two HY.out HBC.out) (fun hHeld => ?_)
  (try simp only [Act.put, List.setIfInBounds_toArray, List.set_cons_zero, List.set_cons_succ])
  refine wpAnyH_ready (rs := [3]) (by kernel_rfl) (by simp) ?_
  refine AllReadyH.cons rfl (fun K hK => ?_) AllReadyH.nil
  go_simp
  go_at_call 132
  (with_reducible refine (numbersOf_any a' b' c' d' e' f' g' h' n' ob' s' rg' pg' pk' _).mono ?_)
  rintro x w4 ⟨rfl, hb⟩
  have HBC := hide (bcall HBC.out hb)
  clear hb
  (try go_simp)
  refine hK.out _ _ (by exact HX.out.two HY.out HBC.out) (fun hHeld => ?_)
  (try simp only [Act.put, List.setIfInBounds_toArray, List.set_cons_zero, List.set_cons_succ])
  refine tk 4 (h := ?_)
  refine tk 5 (h := ?_)
  refine tk 6 (h := ?_)
  refine tk 7 (h := ?_)
  refine tk 8 (h := ?_)
  refine tk 9 (h := ?_)
  refine wpAnyH_ready (rs := [10]) (by kernel_rfl) (by simp) ?_
  refine AllReadyH.cons rfl (fun K hK => ?_) AllReadyH.nil
  go_simp
  go_at_call 72
  (with_reducible refine (Same_cHp n n' ob ob' lo lo' _ (HP.out.ob.below HBC.out) (HR.out.ob.below HBC.out) _ Q1.out).mono ?_)
  rintro x w4 ⟨rfl, hb⟩
  have HBC := hide (bcall HBC.out hb)
  clear hb
  (try go_simp)
  refine hK.out _ _ (by exact HX.out.two HY.out HBC.out) (fun hHeld => ?_)
  (try simp only [Act.put, List.setIfInBounds_toArray, List.set_cons_zero, List.set_cons_succ])
  refine tk 11 (h := ?_)
  refine tk 12 (h := ?_)
  refine tu 13 (h := ?_)
  refine tu 14 (h := ?_)
  refine tu 15 (h := ?_)
  refine tu 16 (h := ?_)
  refine tu 17 (h := ?_)
  refine tk 18 (h := ?_)
  refine tk 19 (h := ?_)
  refine tu 20 (h := ?_)
  refine tu 21 (h := ?_)
  refine tu 22 (h := ?_)
  refine tu 23 (h := ?_)
  refine tu 24 (h := ?_)
  refine tk 25 (h := ?_)
  refine tk 26 (h := ?_)
  refine tu 27 (h := ?_)
  refine tu 28 (h := ?_)
  refine tu 29 (h := ?_)
  refine tu 30 (h := ?_)
  refine tu 31 (h := ?_)
  refine tk 32 (h := ?_)
  refine tk 33 (h := ?_)
  refine tu 34 (h := ?_)
  refine tu 35 (h := ?_)
  refine tu 36 (h := ?_)
  refine tu 37 (h := ?_)
  refine tu 38 (h := ?_)
  refine tk 39 (h := ?_)
  refine tk 40 (h := ?_)
  refine wpAnyH_done (by kernel_rfl) ?_ _
  go_wp2
  go_ret
  exact ⟨rfl, bcall HB2.out HBC.out⟩
set_option maxRecDepth 100000 in
set_option maxHeartbeats 40000000 in
theorem pSame_2 (a b c d e f g h n : Int) (ob : Value) (s : Nat) (rg pg pk : Value) (lo lr : Rws) (lp : List (List Oq)) (lk : List PP) (a' b' c' d' e' f' g' h' n' : Int) (ob' : Value) (s' : Nat) (rg' pg' pk' : Value) (lo' lr' : Rws) (lp' : List (List Oq)) (lk' : List PP) (w w2 : World) (HE : Hid ((w.alloc (.cells #[.int .i64 a, .int .i64 b, .int .i64 c, .int .i64 d, .int .i64 e, .int .i64 f, .int .i64 g, .int .i64 h, .int .i64 n, ob, .int .u64 (s : Int), rg, pg, pk] 30)).alloc (.cells #[.int .i64 a', .int .i64 b', .int .i64 c', .int .i64 d', .int .i64 e', .int .i64 f', .int .i64 g', .int .i64 h', .int .i64 n', ob', .int .u64 (s' : Int), rg', pg', pk'] 30) = w2)) (HB2 : Hid (Below w.heap.size w w2))
    (HX : Hid (Bp 30 w2 w.heap.size a b c d e f g h n ob s rg pg pk)) (HY : Hid (Bp 30 w2 (w.heap.size + 1) a' b' c' d' e' f' g' h' n' ob' s' rg' pg' pk')) (HP : Hid (PlanR w2 ob rg pg pk ⟨a, b, c, d, e, f, g, h, n, lo, s, lr, lp, lk⟩)) (HR : Hid (PlanR w2 ob' rg' pg' pk' ⟨a', b', c', d', e', f', g', h', n', lo', s', lr', lp', lk'⟩)) (Q0 : Hid ((decide ([a, b, c, d, e, f, g, h] = [a', b', c', d', e', f', g', h'])) = true)) (Q1 : Hid ((sameF n lo n' lo') = true)) (Q2 : Hid ((decide (s = s')) = false)) :
    Calls Tryz.prog 81 #[planV a b c d e f g h n ob s rg pg pk, planV a' b' c' d' e' f' g' h' n' ob' s' rg' pg' pk'] w fun x w' => x = .returned (.bool false) ∧ Below w.heap.size w w' := by
  have HBC := hide (belowD (Below.refl w2.heap.size w2))
  have hq0 := eql_nums a b c d e f g h a' b' c' d' e' f' g' h'
  rw [Q0.out] at hq0
  have e2 : ((s : Int) == (s' : Int)) = false := by have q := Q2.out; rw [decide_eq_false_iff_not] at q; rw [beq_eq_false_iff_ne]; omega
  unfold planV
  go_enter Tryz.func81, Tryz.ntmps81
  go_wp2
  rw [HE.out]
  refine wp_region_held_drew (S := fun w' => (w'.cell? ⟨w.heap.size, 0, none⟩ = some (.int .i64 a) ∧ w'.cell? ⟨w.heap.size, 1, none⟩ = some (.int .i64 b) ∧ w'.cell? ⟨w.heap.size, 2, none⟩ = some (.int .i64 c) ∧ w'.cell? ⟨w.heap.size, 3, none⟩ = some (.int .i64 d) ∧ w'.cell? ⟨w.heap.size, 4, none⟩ = some (.int .i64 e) ∧ w'.cell? ⟨w.heap.size, 5, none⟩ = some (.int .i64 f) ∧ w'.cell? ⟨w.heap.size, 6, none⟩ = some (.int .i64 g) ∧ w'.cell? ⟨w.heap.size, 7, none⟩ = some (.int .i64 h) ∧ w'.cell? ⟨w.heap.size, 8, none⟩ = some (.int .i64 n) ∧ w'.cell? ⟨w.heap.size, 9, none⟩ = some (ob) ∧ w'.cell? ⟨w.heap.size, 10, none⟩ = some (.int .u64 (s : Int)) ∧ w'.cell? ⟨w.heap.size, 11, none⟩ = some (rg) ∧ w'.cell? ⟨w.heap.size, 12, none⟩ = some (pg) ∧ w'.cell? ⟨w.heap.size, 13, none⟩ = some (pk)) ∧ (w'.cell? ⟨w.heap.size + 1, 0, none⟩ = some (.int .i64 a') ∧ w'.cell? ⟨w.heap.size + 1, 1, none⟩ = some (.int .i64 b') ∧ w'.cell? ⟨w.heap.size + 1, 2, none⟩ = some (.int .i64 c') ∧ w'.cell? ⟨w.heap.size + 1, 3, none⟩ = some (.int .i64 d') ∧ w'.cell? ⟨w.heap.size + 1, 4, none⟩ = some (.int .i64 e') ∧ w'.cell? ⟨w.heap.size + 1, 5, none⟩ = some (.int .i64 f') ∧ w'.cell? ⟨w.heap.size + 1, 6, none⟩ = some (.int .i64 g') ∧ w'.cell? ⟨w.heap.size + 1, 7, none⟩ = some (.int .i64 h') ∧ w'.cell? ⟨w.heap.size + 1, 8, none⟩ = some (.int .i64 n') ∧ w'.cell? ⟨w.heap.size + 1, 9, none⟩ = some (ob') ∧ w'.cell? ⟨w.heap.size + 1, 10, none⟩ = some (.int .u64 (s' : Int)) ∧ w'.cell? ⟨w.heap.size + 1, 11, none⟩ = some (rg') ∧ w'.cell? ⟨w.heap.size + 1, 12, none⟩ = some (pg') ∧ w'.cell? ⟨w.heap.size + 1, 13, none⟩ = some (pk'))) (by kernel_rfl) ?_ (fun hHeld => ?_)
  · exact (by exact HX.out.two HY.out HBC.out)
  refine tk 0 (h := ?_)
  refine tk 2 (h := ?_)
  refine wpAnyH_ready (rs := [1]) (by kernel_rfl) (by simp) ?_
  refine AllReadyH.cons rfl (fun K hK => ?_) AllReadyH.nil
  go_simp
  go_at_call 132
  (with_reducible refine (numbersOf_any a b c d e f g h n ob s rg pg pk _).mono ?_)
  rintro x w4 ⟨rfl, hb⟩
  have HBC := hide (bcall HBC.out hb)
  clear hb
  (try go_simp)
  refine hK.out _ _ (by exact HX.out.two HY.out HBC.out) (fun hHeld => ?_)
  (try simp only [Act.put, List.setIfInBounds_toArray, List.set_cons_zero, List.set_cons_succ])
  refine wpAnyH_ready (rs := [3]) (by kernel_rfl) (by simp) ?_
  refine AllReadyH.cons rfl (fun K hK => ?_) AllReadyH.nil
  go_simp
  go_at_call 132
  (with_reducible refine (numbersOf_any a' b' c' d' e' f' g' h' n' ob' s' rg' pg' pk' _).mono ?_)
  rintro x w4 ⟨rfl, hb⟩
  have HBC := hide (bcall HBC.out hb)
  clear hb
  (try go_simp)
  refine hK.out _ _ (by exact HX.out.two HY.out HBC.out) (fun hHeld => ?_)
  (try simp only [Act.put, List.setIfInBounds_toArray, List.set_cons_zero, List.set_cons_succ])
  refine tk 4 (h := ?_)
  refine tk 5 (h := ?_)
  refine tk 6 (h := ?_)
  refine tk 7 (h := ?_)
  refine tk 8 (h := ?_)
  refine tk 9 (h := ?_)
  refine wpAnyH_ready (rs := [10]) (by kernel_rfl) (by simp) ?_
  refine AllReadyH.cons rfl (fun K hK => ?_) AllReadyH.nil
  go_simp
  go_at_call 72
  (with_reducible refine (Same_cHp n n' ob ob' lo lo' _ (HP.out.ob.below HBC.out) (HR.out.ob.below HBC.out) _ Q1.out).mono ?_)
  rintro x w4 ⟨rfl, hb⟩
  have HBC := hide (bcall HBC.out hb)
  clear hb
  (try go_simp)
  refine hK.out _ _ (by exact HX.out.two HY.out HBC.out) (fun hHeld => ?_)
  (try simp only [Act.put, List.setIfInBounds_toArray, List.set_cons_zero, List.set_cons_succ])
  refine tk 11 (h := ?_)
  refine tk 12 (h := ?_)
  refine tk 13 (h := ?_)
  refine tk 14 (h := ?_)
  refine tk 15 (h := ?_)
  refine tk 16 (h := ?_)
  refine tk 17 (h := ?_)
  refine tk 18 (h := ?_)
  refine tk 19 (h := ?_)
  refine tu 20 (h := ?_)
  refine tu 21 (h := ?_)
  refine tu 22 (h := ?_)
  refine tu 23 (h := ?_)
  refine tu 24 (h := ?_)
  refine tk 25 (h := ?_)
  refine tk 26 (h := ?_)
  refine tu 27 (h := ?_)
  refine tu 28 (h := ?_)
  refine tu 29 (h := ?_)
  refine tu 30 (h := ?_)
  refine tu 31 (h := ?_)
  refine tk 32 (h := ?_)
  refine tk 33 (h := ?_)
  refine tu 34 (h := ?_)
  refine tu 35 (h := ?_)
  refine tu 36 (h := ?_)
  refine tu 37 (h := ?_)
  refine tu 38 (h := ?_)
  refine tk 39 (h := ?_)
  refine tk 40 (h := ?_)
  refine wpAnyH_done (by kernel_rfl) ?_ _
  go_wp2
  go_ret
  exact ⟨rfl, bcall HB2.out HBC.out⟩
set_option maxRecDepth 100000 in
set_option maxHeartbeats 40000000 in
theorem pSame_3 (a b c d e f g h n : Int) (ob : Value) (s : Nat) (rg pg pk : Value) (lo lr : Rws) (lp : List (List Oq)) (lk : List PP) (a' b' c' d' e' f' g' h' n' : Int) (ob' : Value) (s' : Nat) (rg' pg' pk' : Value) (lo' lr' : Rws) (lp' : List (List Oq)) (lk' : List PP) (w w2 : World) (HE : Hid ((w.alloc (.cells #[.int .i64 a, .int .i64 b, .int .i64 c, .int .i64 d, .int .i64 e, .int .i64 f, .int .i64 g, .int .i64 h, .int .i64 n, ob, .int .u64 (s : Int), rg, pg, pk] 30)).alloc (.cells #[.int .i64 a', .int .i64 b', .int .i64 c', .int .i64 d', .int .i64 e', .int .i64 f', .int .i64 g', .int .i64 h', .int .i64 n', ob', .int .u64 (s' : Int), rg', pg', pk'] 30) = w2)) (HB2 : Hid (Below w.heap.size w w2))
    (HX : Hid (Bp 30 w2 w.heap.size a b c d e f g h n ob s rg pg pk)) (HY : Hid (Bp 30 w2 (w.heap.size + 1) a' b' c' d' e' f' g' h' n' ob' s' rg' pg' pk')) (HP : Hid (PlanR w2 ob rg pg pk ⟨a, b, c, d, e, f, g, h, n, lo, s, lr, lp, lk⟩)) (HR : Hid (PlanR w2 ob' rg' pg' pk' ⟨a', b', c', d', e', f', g', h', n', lo', s', lr', lp', lk'⟩)) (Q0 : Hid ((decide ([a, b, c, d, e, f, g, h] = [a', b', c', d', e', f', g', h'])) = true)) (Q1 : Hid ((sameF n lo n' lo') = true)) (Q2 : Hid ((decide (s = s')) = true)) (Q3 : Hid ((decide (lr = lr')) = false)) :
    Calls Tryz.prog 81 #[planV a b c d e f g h n ob s rg pg pk, planV a' b' c' d' e' f' g' h' n' ob' s' rg' pg' pk'] w fun x w' => x = .returned (.bool false) ∧ Below w.heap.size w w' := by
  have HBC := hide (belowD (Below.refl w2.heap.size w2))
  have hq0 := eql_nums a b c d e f g h a' b' c' d' e' f' g' h'
  rw [Q0.out] at hq0
  have e2 : ((s : Int) == (s' : Int)) = true := by have q := Q2.out; rw [decide_eq_true_eq] at q; rw [beq_iff_eq, q]
  unfold planV
  go_enter Tryz.func81, Tryz.ntmps81
  go_wp2
  rw [HE.out]
  refine wp_region_held_drew (S := fun w' => (w'.cell? ⟨w.heap.size, 0, none⟩ = some (.int .i64 a) ∧ w'.cell? ⟨w.heap.size, 1, none⟩ = some (.int .i64 b) ∧ w'.cell? ⟨w.heap.size, 2, none⟩ = some (.int .i64 c) ∧ w'.cell? ⟨w.heap.size, 3, none⟩ = some (.int .i64 d) ∧ w'.cell? ⟨w.heap.size, 4, none⟩ = some (.int .i64 e) ∧ w'.cell? ⟨w.heap.size, 5, none⟩ = some (.int .i64 f) ∧ w'.cell? ⟨w.heap.size, 6, none⟩ = some (.int .i64 g) ∧ w'.cell? ⟨w.heap.size, 7, none⟩ = some (.int .i64 h) ∧ w'.cell? ⟨w.heap.size, 8, none⟩ = some (.int .i64 n) ∧ w'.cell? ⟨w.heap.size, 9, none⟩ = some (ob) ∧ w'.cell? ⟨w.heap.size, 10, none⟩ = some (.int .u64 (s : Int)) ∧ w'.cell? ⟨w.heap.size, 11, none⟩ = some (rg) ∧ w'.cell? ⟨w.heap.size, 12, none⟩ = some (pg) ∧ w'.cell? ⟨w.heap.size, 13, none⟩ = some (pk)) ∧ (w'.cell? ⟨w.heap.size + 1, 0, none⟩ = some (.int .i64 a') ∧ w'.cell? ⟨w.heap.size + 1, 1, none⟩ = some (.int .i64 b') ∧ w'.cell? ⟨w.heap.size + 1, 2, none⟩ = some (.int .i64 c') ∧ w'.cell? ⟨w.heap.size + 1, 3, none⟩ = some (.int .i64 d') ∧ w'.cell? ⟨w.heap.size + 1, 4, none⟩ = some (.int .i64 e') ∧ w'.cell? ⟨w.heap.size + 1, 5, none⟩ = some (.int .i64 f') ∧ w'.cell? ⟨w.heap.size + 1, 6, none⟩ = some (.int .i64 g') ∧ w'.cell? ⟨w.heap.size + 1, 7, none⟩ = some (.int .i64 h') ∧ w'.cell? ⟨w.heap.size + 1, 8, none⟩ = some (.int .i64 n') ∧ w'.cell? ⟨w.heap.size + 1, 9, none⟩ = some (ob') ∧ w'.cell? ⟨w.heap.size + 1, 10, none⟩ = some (.int .u64 (s' : Int)) ∧ w'.cell? ⟨w.heap.size + 1, 11, none⟩ = some (rg') ∧ w'.cell? ⟨w.heap.size + 1, 12, none⟩ = some (pg') ∧ w'.cell? ⟨w.heap.size + 1, 13, none⟩ = some (pk'))) (by kernel_rfl) ?_ (fun hHeld => ?_)
  · exact (by exact HX.out.two HY.out HBC.out)
  refine tk 0 (h := ?_)
  refine tk 2 (h := ?_)
  refine wpAnyH_ready (rs := [1]) (by kernel_rfl) (by simp) ?_
  refine AllReadyH.cons rfl (fun K hK => ?_) AllReadyH.nil
  go_simp
  go_at_call 132
  (with_reducible refine (numbersOf_any a b c d e f g h n ob s rg pg pk _).mono ?_)
  rintro x w4 ⟨rfl, hb⟩
  have HBC := hide (bcall HBC.out hb)
  clear hb
  (try go_simp)
  refine hK.out _ _ (by exact HX.out.two HY.out HBC.out) (fun hHeld => ?_)
  (try simp only [Act.put, List.setIfInBounds_toArray, List.set_cons_zero, List.set_cons_succ])
  refine wpAnyH_ready (rs := [3]) (by kernel_rfl) (by simp) ?_
  refine AllReadyH.cons rfl (fun K hK => ?_) AllReadyH.nil
  go_simp
  go_at_call 132
  (with_reducible refine (numbersOf_any a' b' c' d' e' f' g' h' n' ob' s' rg' pg' pk' _).mono ?_)
  rintro x w4 ⟨rfl, hb⟩
  have HBC := hide (bcall HBC.out hb)
  clear hb
  (try go_simp)
  refine hK.out _ _ (by exact HX.out.two HY.out HBC.out) (fun hHeld => ?_)
  (try simp only [Act.put, List.setIfInBounds_toArray, List.set_cons_zero, List.set_cons_succ])
  refine tk 4 (h := ?_)
  refine tk 5 (h := ?_)
  refine tk 6 (h := ?_)
  refine tk 7 (h := ?_)
  refine tk 8 (h := ?_)
  refine tk 9 (h := ?_)
  refine wpAnyH_ready (rs := [10]) (by kernel_rfl) (by simp) ?_
  refine AllReadyH.cons rfl (fun K hK => ?_) AllReadyH.nil
  go_simp
  go_at_call 72
  (with_reducible refine (Same_cHp n n' ob ob' lo lo' _ (HP.out.ob.below HBC.out) (HR.out.ob.below HBC.out) _ Q1.out).mono ?_)
  rintro x w4 ⟨rfl, hb⟩
  have HBC := hide (bcall HBC.out hb)
  clear hb
  (try go_simp)
  refine hK.out _ _ (by exact HX.out.two HY.out HBC.out) (fun hHeld => ?_)
  (try simp only [Act.put, List.setIfInBounds_toArray, List.set_cons_zero, List.set_cons_succ])
  refine tk 11 (h := ?_)
  refine tk 12 (h := ?_)
  refine tk 13 (h := ?_)
  refine tk 14 (h := ?_)
  refine tk 15 (h := ?_)
  refine tk 16 (h := ?_)
  refine tk 17 (h := ?_)
  refine tk 18 (h := ?_)
  refine tk 19 (h := ?_)
  refine tk 20 (h := ?_)
  refine tk 21 (h := ?_)
  refine tk 22 (h := ?_)
  refine tk 23 (h := ?_)
  refine wpAnyH_ready (rs := [24]) (by kernel_rfl) (by simp) ?_
  refine AllReadyH.cons rfl (fun K hK => ?_) AllReadyH.nil
  go_simp
  go_at_call 74
  (with_reducible refine (EqualFunc_rows rg rg' lr lr' _ (HP.out.rg.below HBC.out) (HR.out.rg.below HBC.out)).mono ?_)
  rintro x w4 ⟨rfl, hb⟩
  rw [Q3.out]
  have HBC := hide (bcall HBC.out hb)
  clear hb
  (try go_simp)
  refine hK.out _ _ (by exact HX.out.two HY.out HBC.out) (fun hHeld => ?_)
  (try simp only [Act.put, List.setIfInBounds_toArray, List.set_cons_zero, List.set_cons_succ])
  refine tk 25 (h := ?_)
  refine tk 26 (h := ?_)
  refine tu 27 (h := ?_)
  refine tu 28 (h := ?_)
  refine tu 29 (h := ?_)
  refine tu 30 (h := ?_)
  refine tu 31 (h := ?_)
  refine tk 32 (h := ?_)
  refine tk 33 (h := ?_)
  refine tu 34 (h := ?_)
  refine tu 35 (h := ?_)
  refine tu 36 (h := ?_)
  refine tu 37 (h := ?_)
  refine tu 38 (h := ?_)
  refine tk 39 (h := ?_)
  refine tk 40 (h := ?_)
  refine wpAnyH_done (by kernel_rfl) ?_ _
  go_wp2
  go_ret
  exact ⟨rfl, bcall HB2.out HBC.out⟩
set_option maxRecDepth 100000 in
set_option maxHeartbeats 40000000 in
theorem pSame_4 (a b c d e f g h n : Int) (ob : Value) (s : Nat) (rg pg pk : Value) (lo lr : Rws) (lp : List (List Oq)) (lk : List PP) (a' b' c' d' e' f' g' h' n' : Int) (ob' : Value) (s' : Nat) (rg' pg' pk' : Value) (lo' lr' : Rws) (lp' : List (List Oq)) (lk' : List PP) (w w2 : World) (HE : Hid ((w.alloc (.cells #[.int .i64 a, .int .i64 b, .int .i64 c, .int .i64 d, .int .i64 e, .int .i64 f, .int .i64 g, .int .i64 h, .int .i64 n, ob, .int .u64 (s : Int), rg, pg, pk] 30)).alloc (.cells #[.int .i64 a', .int .i64 b', .int .i64 c', .int .i64 d', .int .i64 e', .int .i64 f', .int .i64 g', .int .i64 h', .int .i64 n', ob', .int .u64 (s' : Int), rg', pg', pk'] 30) = w2)) (HB2 : Hid (Below w.heap.size w w2))
    (HX : Hid (Bp 30 w2 w.heap.size a b c d e f g h n ob s rg pg pk)) (HY : Hid (Bp 30 w2 (w.heap.size + 1) a' b' c' d' e' f' g' h' n' ob' s' rg' pg' pk')) (HP : Hid (PlanR w2 ob rg pg pk ⟨a, b, c, d, e, f, g, h, n, lo, s, lr, lp, lk⟩)) (HR : Hid (PlanR w2 ob' rg' pg' pk' ⟨a', b', c', d', e', f', g', h', n', lo', s', lr', lp', lk'⟩)) (Q0 : Hid ((decide ([a, b, c, d, e, f, g, h] = [a', b', c', d', e', f', g', h'])) = true)) (Q1 : Hid ((sameF n lo n' lo') = true)) (Q2 : Hid ((decide (s = s')) = true)) (Q3 : Hid ((decide (lr = lr')) = true)) (Q4 : Hid ((decide (lp = lp')) = false)) :
    Calls Tryz.prog 81 #[planV a b c d e f g h n ob s rg pg pk, planV a' b' c' d' e' f' g' h' n' ob' s' rg' pg' pk'] w fun x w' => x = .returned (.bool false) ∧ Below w.heap.size w w' := by
  have HBC := hide (belowD (Below.refl w2.heap.size w2))
  have hq0 := eql_nums a b c d e f g h a' b' c' d' e' f' g' h'
  rw [Q0.out] at hq0
  have e2 : ((s : Int) == (s' : Int)) = true := by have q := Q2.out; rw [decide_eq_true_eq] at q; rw [beq_iff_eq, q]
  unfold planV
  go_enter Tryz.func81, Tryz.ntmps81
  go_wp2
  rw [HE.out]
  refine wp_region_held_drew (S := fun w' => (w'.cell? ⟨w.heap.size, 0, none⟩ = some (.int .i64 a) ∧ w'.cell? ⟨w.heap.size, 1, none⟩ = some (.int .i64 b) ∧ w'.cell? ⟨w.heap.size, 2, none⟩ = some (.int .i64 c) ∧ w'.cell? ⟨w.heap.size, 3, none⟩ = some (.int .i64 d) ∧ w'.cell? ⟨w.heap.size, 4, none⟩ = some (.int .i64 e) ∧ w'.cell? ⟨w.heap.size, 5, none⟩ = some (.int .i64 f) ∧ w'.cell? ⟨w.heap.size, 6, none⟩ = some (.int .i64 g) ∧ w'.cell? ⟨w.heap.size, 7, none⟩ = some (.int .i64 h) ∧ w'.cell? ⟨w.heap.size, 8, none⟩ = some (.int .i64 n) ∧ w'.cell? ⟨w.heap.size, 9, none⟩ = some (ob) ∧ w'.cell? ⟨w.heap.size, 10, none⟩ = some (.int .u64 (s : Int)) ∧ w'.cell? ⟨w.heap.size, 11, none⟩ = some (rg) ∧ w'.cell? ⟨w.heap.size, 12, none⟩ = some (pg) ∧ w'.cell? ⟨w.heap.size, 13, none⟩ = some (pk)) ∧ (w'.cell? ⟨w.heap.size + 1, 0, none⟩ = some (.int .i64 a') ∧ w'.cell? ⟨w.heap.size + 1, 1, none⟩ = some (.int .i64 b') ∧ w'.cell? ⟨w.heap.size + 1, 2, none⟩ = some (.int .i64 c') ∧ w'.cell? ⟨w.heap.size + 1, 3, none⟩ = some (.int .i64 d') ∧ w'.cell? ⟨w.heap.size + 1, 4, none⟩ = some (.int .i64 e') ∧ w'.cell? ⟨w.heap.size + 1, 5, none⟩ = some (.int .i64 f') ∧ w'.cell? ⟨w.heap.size + 1, 6, none⟩ = some (.int .i64 g') ∧ w'.cell? ⟨w.heap.size + 1, 7, none⟩ = some (.int .i64 h') ∧ w'.cell? ⟨w.heap.size + 1, 8, none⟩ = some (.int .i64 n') ∧ w'.cell? ⟨w.heap.size + 1, 9, none⟩ = some (ob') ∧ w'.cell? ⟨w.heap.size + 1, 10, none⟩ = some (.int .u64 (s' : Int)) ∧ w'.cell? ⟨w.heap.size + 1, 11, none⟩ = some (rg') ∧ w'.cell? ⟨w.heap.size + 1, 12, none⟩ = some (pg') ∧ w'.cell? ⟨w.heap.size + 1, 13, none⟩ = some (pk'))) (by kernel_rfl) ?_ (fun hHeld => ?_)
  · exact (by exact HX.out.two HY.out HBC.out)
  refine tk 0 (h := ?_)
  refine tk 2 (h := ?_)
  refine wpAnyH_ready (rs := [1]) (by kernel_rfl) (by simp) ?_
  refine AllReadyH.cons rfl (fun K hK => ?_) AllReadyH.nil
  go_simp
  go_at_call 132
  (with_reducible refine (numbersOf_any a b c d e f g h n ob s rg pg pk _).mono ?_)
  rintro x w4 ⟨rfl, hb⟩
  have HBC := hide (bcall HBC.out hb)
  clear hb
  (try go_simp)
  refine hK.out _ _ (by exact HX.out.two HY.out HBC.out) (fun hHeld => ?_)
  (try simp only [Act.put, List.setIfInBounds_toArray, List.set_cons_zero, List.set_cons_succ])
  refine wpAnyH_ready (rs := [3]) (by kernel_rfl) (by simp) ?_
  refine AllReadyH.cons rfl (fun K hK => ?_) AllReadyH.nil
  go_simp
  go_at_call 132
  (with_reducible refine (numbersOf_any a' b' c' d' e' f' g' h' n' ob' s' rg' pg' pk' _).mono ?_)
  rintro x w4 ⟨rfl, hb⟩
  have HBC := hide (bcall HBC.out hb)
  clear hb
  (try go_simp)
  refine hK.out _ _ (by exact HX.out.two HY.out HBC.out) (fun hHeld => ?_)
  (try simp only [Act.put, List.setIfInBounds_toArray, List.set_cons_zero, List.set_cons_succ])
  refine tk 4 (h := ?_)
  refine tk 5 (h := ?_)
  refine tk 6 (h := ?_)
  refine tk 7 (h := ?_)
  refine tk 8 (h := ?_)
  refine tk 9 (h := ?_)
  refine wpAnyH_ready (rs := [10]) (by kernel_rfl) (by simp) ?_
  refine AllReadyH.cons rfl (fun K hK => ?_) AllReadyH.nil
  go_simp
  go_at_call 72
  (with_reducible refine (Same_cHp n n' ob ob' lo lo' _ (HP.out.ob.below HBC.out) (HR.out.ob.below HBC.out) _ Q1.out).mono ?_)
  rintro x w4 ⟨rfl, hb⟩
  have HBC := hide (bcall HBC.out hb)
  clear hb
  (try go_simp)
  refine hK.out _ _ (by exact HX.out.two HY.out HBC.out) (fun hHeld => ?_)
  (try simp only [Act.put, List.setIfInBounds_toArray, List.set_cons_zero, List.set_cons_succ])
  refine tk 11 (h := ?_)
  refine tk 12 (h := ?_)
  refine tk 13 (h := ?_)
  refine tk 14 (h := ?_)
  refine tk 15 (h := ?_)
  refine tk 16 (h := ?_)
  refine tk 17 (h := ?_)
  refine tk 18 (h := ?_)
  refine tk 19 (h := ?_)
  refine tk 20 (h := ?_)
  refine tk 21 (h := ?_)
  refine tk 22 (h := ?_)
  refine tk 23 (h := ?_)
  refine wpAnyH_ready (rs := [24]) (by kernel_rfl) (by simp) ?_
  refine AllReadyH.cons rfl (fun K hK => ?_) AllReadyH.nil
  go_simp
  go_at_call 74
  (with_reducible refine (EqualFunc_rows rg rg' lr lr' _ (HP.out.rg.below HBC.out) (HR.out.rg.below HBC.out)).mono ?_)
  rintro x w4 ⟨rfl, hb⟩
  rw [Q3.out]
  have HBC := hide (bcall HBC.out hb)
  clear hb
  (try go_simp)
  refine hK.out _ _ (by exact HX.out.two HY.out HBC.out) (fun hHeld => ?_)
  (try simp only [Act.put, List.setIfInBounds_toArray, List.set_cons_zero, List.set_cons_succ])
  refine tk 25 (h := ?_)
  refine tk 26 (h := ?_)
  refine tk 27 (h := ?_)
  refine tk 28 (h := ?_)
  refine tk 29 (h := ?_)
  refine tk 30 (h := ?_)
  refine wpAnyH_ready (rs := [31]) (by kernel_rfl) (by simp) ?_
  refine AllReadyH.cons rfl (fun K hK => ?_) AllReadyH.nil
  go_simp
  go_at_call 133
  (with_reducible refine (EqualFunc_ops pg pg' lp lp' _ (HP.out.pg.below HBC.out) (HR.out.pg.below HBC.out)).mono ?_)
  rintro x w4 ⟨rfl, hb⟩
  rw [Q4.out]
  have HBC := hide (bcall HBC.out hb)
  clear hb
  (try go_simp)
  refine hK.out _ _ (by exact HX.out.two HY.out HBC.out) (fun hHeld => ?_)
  (try simp only [Act.put, List.setIfInBounds_toArray, List.set_cons_zero, List.set_cons_succ])
  refine tk 32 (h := ?_)
  refine tk 33 (h := ?_)
  refine tu 34 (h := ?_)
  refine tu 35 (h := ?_)
  refine tu 36 (h := ?_)
  refine tu 37 (h := ?_)
  refine tu 38 (h := ?_)
  refine tk 39 (h := ?_)
  refine tk 40 (h := ?_)
  refine wpAnyH_done (by kernel_rfl) ?_ _
  go_wp2
  go_ret
  exact ⟨rfl, bcall HB2.out HBC.out⟩
set_option maxRecDepth 100000 in
set_option maxHeartbeats 40000000 in
theorem pSame_5 (a b c d e f g h n : Int) (ob : Value) (s : Nat) (rg pg pk : Value) (lo lr : Rws) (lp : List (List Oq)) (lk : List PP) (a' b' c' d' e' f' g' h' n' : Int) (ob' : Value) (s' : Nat) (rg' pg' pk' : Value) (lo' lr' : Rws) (lp' : List (List Oq)) (lk' : List PP) (w w2 : World) (HE : Hid ((w.alloc (.cells #[.int .i64 a, .int .i64 b, .int .i64 c, .int .i64 d, .int .i64 e, .int .i64 f, .int .i64 g, .int .i64 h, .int .i64 n, ob, .int .u64 (s : Int), rg, pg, pk] 30)).alloc (.cells #[.int .i64 a', .int .i64 b', .int .i64 c', .int .i64 d', .int .i64 e', .int .i64 f', .int .i64 g', .int .i64 h', .int .i64 n', ob', .int .u64 (s' : Int), rg', pg', pk'] 30) = w2)) (HB2 : Hid (Below w.heap.size w w2))
    (HX : Hid (Bp 30 w2 w.heap.size a b c d e f g h n ob s rg pg pk)) (HY : Hid (Bp 30 w2 (w.heap.size + 1) a' b' c' d' e' f' g' h' n' ob' s' rg' pg' pk')) (HP : Hid (PlanR w2 ob rg pg pk ⟨a, b, c, d, e, f, g, h, n, lo, s, lr, lp, lk⟩)) (HR : Hid (PlanR w2 ob' rg' pg' pk' ⟨a', b', c', d', e', f', g', h', n', lo', s', lr', lp', lk'⟩)) (Q0 : Hid ((decide ([a, b, c, d, e, f, g, h] = [a', b', c', d', e', f', g', h'])) = true)) (Q1 : Hid ((sameF n lo n' lo') = true)) (Q2 : Hid ((decide (s = s')) = true)) (Q3 : Hid ((decide (lr = lr')) = true)) (Q4 : Hid ((decide (lp = lp')) = true)) (Q5 : Hid ((decide (lk = lk')) = false)) :
    Calls Tryz.prog 81 #[planV a b c d e f g h n ob s rg pg pk, planV a' b' c' d' e' f' g' h' n' ob' s' rg' pg' pk'] w fun x w' => x = .returned (.bool false) ∧ Below w.heap.size w w' := by
  have HBC := hide (belowD (Below.refl w2.heap.size w2))
  have hq0 := eql_nums a b c d e f g h a' b' c' d' e' f' g' h'
  rw [Q0.out] at hq0
  have e2 : ((s : Int) == (s' : Int)) = true := by have q := Q2.out; rw [decide_eq_true_eq] at q; rw [beq_iff_eq, q]
  unfold planV
  go_enter Tryz.func81, Tryz.ntmps81
  go_wp2
  rw [HE.out]
  refine wp_region_held_drew (S := fun w' => (w'.cell? ⟨w.heap.size, 0, none⟩ = some (.int .i64 a) ∧ w'.cell? ⟨w.heap.size, 1, none⟩ = some (.int .i64 b) ∧ w'.cell? ⟨w.heap.size, 2, none⟩ = some (.int .i64 c) ∧ w'.cell? ⟨w.heap.size, 3, none⟩ = some (.int .i64 d) ∧ w'.cell? ⟨w.heap.size, 4, none⟩ = some (.int .i64 e) ∧ w'.cell? ⟨w.heap.size, 5, none⟩ = some (.int .i64 f) ∧ w'.cell? ⟨w.heap.size, 6, none⟩ = some (.int .i64 g) ∧ w'.cell? ⟨w.heap.size, 7, none⟩ = some (.int .i64 h) ∧ w'.cell? ⟨w.heap.size, 8, none⟩ = some (.int .i64 n) ∧ w'.cell? ⟨w.heap.size, 9, none⟩ = some (ob) ∧ w'.cell? ⟨w.heap.size, 10, none⟩ = some (.int .u64 (s : Int)) ∧ w'.cell? ⟨w.heap.size, 11, none⟩ = some (rg) ∧ w'.cell? ⟨w.heap.size, 12, none⟩ = some (pg) ∧ w'.cell? ⟨w.heap.size, 13, none⟩ = some (pk)) ∧ (w'.cell? ⟨w.heap.size + 1, 0, none⟩ = some (.int .i64 a') ∧ w'.cell? ⟨w.heap.size + 1, 1, none⟩ = some (.int .i64 b') ∧ w'.cell? ⟨w.heap.size + 1, 2, none⟩ = some (.int .i64 c') ∧ w'.cell? ⟨w.heap.size + 1, 3, none⟩ = some (.int .i64 d') ∧ w'.cell? ⟨w.heap.size + 1, 4, none⟩ = some (.int .i64 e') ∧ w'.cell? ⟨w.heap.size + 1, 5, none⟩ = some (.int .i64 f') ∧ w'.cell? ⟨w.heap.size + 1, 6, none⟩ = some (.int .i64 g') ∧ w'.cell? ⟨w.heap.size + 1, 7, none⟩ = some (.int .i64 h') ∧ w'.cell? ⟨w.heap.size + 1, 8, none⟩ = some (.int .i64 n') ∧ w'.cell? ⟨w.heap.size + 1, 9, none⟩ = some (ob') ∧ w'.cell? ⟨w.heap.size + 1, 10, none⟩ = some (.int .u64 (s' : Int)) ∧ w'.cell? ⟨w.heap.size + 1, 11, none⟩ = some (rg') ∧ w'.cell? ⟨w.heap.size + 1, 12, none⟩ = some (pg') ∧ w'.cell? ⟨w.heap.size + 1, 13, none⟩ = some (pk'))) (by kernel_rfl) ?_ (fun hHeld => ?_)
  · exact (by exact HX.out.two HY.out HBC.out)
  refine tk 0 (h := ?_)
  refine tk 2 (h := ?_)
  refine wpAnyH_ready (rs := [1]) (by kernel_rfl) (by simp) ?_
  refine AllReadyH.cons rfl (fun K hK => ?_) AllReadyH.nil
  go_simp
  go_at_call 132
  (with_reducible refine (numbersOf_any a b c d e f g h n ob s rg pg pk _).mono ?_)
  rintro x w4 ⟨rfl, hb⟩
  have HBC := hide (bcall HBC.out hb)
  clear hb
  (try go_simp)
  refine hK.out _ _ (by exact HX.out.two HY.out HBC.out) (fun hHeld => ?_)
  (try simp only [Act.put, List.setIfInBounds_toArray, List.set_cons_zero, List.set_cons_succ])
  refine wpAnyH_ready (rs := [3]) (by kernel_rfl) (by simp) ?_
  refine AllReadyH.cons rfl (fun K hK => ?_) AllReadyH.nil
  go_simp
  go_at_call 132
  (with_reducible refine (numbersOf_any a' b' c' d' e' f' g' h' n' ob' s' rg' pg' pk' _).mono ?_)
  rintro x w4 ⟨rfl, hb⟩
  have HBC := hide (bcall HBC.out hb)
  clear hb
  (try go_simp)
  refine hK.out _ _ (by exact HX.out.two HY.out HBC.out) (fun hHeld => ?_)
  (try simp only [Act.put, List.setIfInBounds_toArray, List.set_cons_zero, List.set_cons_succ])
  refine tk 4 (h := ?_)
  refine tk 5 (h := ?_)
  refine tk 6 (h := ?_)
  refine tk 7 (h := ?_)
  refine tk 8 (h := ?_)
  refine tk 9 (h := ?_)
  refine wpAnyH_ready (rs := [10]) (by kernel_rfl) (by simp) ?_
  refine AllReadyH.cons rfl (fun K hK => ?_) AllReadyH.nil
  go_simp
  go_at_call 72
  (with_reducible refine (Same_cHp n n' ob ob' lo lo' _ (HP.out.ob.below HBC.out) (HR.out.ob.below HBC.out) _ Q1.out).mono ?_)
  rintro x w4 ⟨rfl, hb⟩
  have HBC := hide (bcall HBC.out hb)
  clear hb
  (try go_simp)
  refine hK.out _ _ (by exact HX.out.two HY.out HBC.out) (fun hHeld => ?_)
  (try simp only [Act.put, List.setIfInBounds_toArray, List.set_cons_zero, List.set_cons_succ])
  refine tk 11 (h := ?_)
  refine tk 12 (h := ?_)
  refine tk 13 (h := ?_)
  refine tk 14 (h := ?_)
  refine tk 15 (h := ?_)
  refine tk 16 (h := ?_)
  refine tk 17 (h := ?_)
  refine tk 18 (h := ?_)
  refine tk 19 (h := ?_)
  refine tk 20 (h := ?_)
  refine tk 21 (h := ?_)
  refine tk 22 (h := ?_)
  refine tk 23 (h := ?_)
  refine wpAnyH_ready (rs := [24]) (by kernel_rfl) (by simp) ?_
  refine AllReadyH.cons rfl (fun K hK => ?_) AllReadyH.nil
  go_simp
  go_at_call 74
  (with_reducible refine (EqualFunc_rows rg rg' lr lr' _ (HP.out.rg.below HBC.out) (HR.out.rg.below HBC.out)).mono ?_)
  rintro x w4 ⟨rfl, hb⟩
  rw [Q3.out]
  have HBC := hide (bcall HBC.out hb)
  clear hb
  (try go_simp)
  refine hK.out _ _ (by exact HX.out.two HY.out HBC.out) (fun hHeld => ?_)
  (try simp only [Act.put, List.setIfInBounds_toArray, List.set_cons_zero, List.set_cons_succ])
  refine tk 25 (h := ?_)
  refine tk 26 (h := ?_)
  refine tk 27 (h := ?_)
  refine tk 28 (h := ?_)
  refine tk 29 (h := ?_)
  refine tk 30 (h := ?_)
  refine wpAnyH_ready (rs := [31]) (by kernel_rfl) (by simp) ?_
  refine AllReadyH.cons rfl (fun K hK => ?_) AllReadyH.nil
  go_simp
  go_at_call 133
  (with_reducible refine (EqualFunc_ops pg pg' lp lp' _ (HP.out.pg.below HBC.out) (HR.out.pg.below HBC.out)).mono ?_)
  rintro x w4 ⟨rfl, hb⟩
  rw [Q4.out]
  have HBC := hide (bcall HBC.out hb)
  clear hb
  (try go_simp)
  refine hK.out _ _ (by exact HX.out.two HY.out HBC.out) (fun hHeld => ?_)
  (try simp only [Act.put, List.setIfInBounds_toArray, List.set_cons_zero, List.set_cons_succ])
  refine tk 32 (h := ?_)
  refine tk 33 (h := ?_)
  refine tk 34 (h := ?_)
  refine tk 35 (h := ?_)
  refine tk 36 (h := ?_)
  refine tk 37 (h := ?_)
  refine wpAnyH_ready (rs := [38]) (by kernel_rfl) (by simp) ?_
  refine AllReadyH.cons rfl (fun K hK => ?_) AllReadyH.nil
  go_simp
  go_at_call 135
  (with_reducible refine (Equal_picks pk pk' lk lk' _ (HP.out.pk.below HBC.out) (HR.out.pk.below HBC.out)).mono ?_)
  rintro x w4 ⟨rfl, hb⟩
  rw [Q5.out]
  have HBC := hide (bcall HBC.out hb)
  clear hb
  (try go_simp)
  refine hK.out _ _ (by exact HX.out.two HY.out HBC.out) (fun hHeld => ?_)
  (try simp only [Act.put, List.setIfInBounds_toArray, List.set_cons_zero, List.set_cons_succ])
  refine tk 39 (h := ?_)
  refine tk 40 (h := ?_)
  refine wpAnyH_done (by kernel_rfl) ?_ _
  go_wp2
  go_ret
  exact ⟨rfl, bcall HB2.out HBC.out⟩
set_option maxRecDepth 100000 in
set_option maxHeartbeats 40000000 in
theorem pSame_6 (a b c d e f g h n : Int) (ob : Value) (s : Nat) (rg pg pk : Value) (lo lr : Rws) (lp : List (List Oq)) (lk : List PP) (a' b' c' d' e' f' g' h' n' : Int) (ob' : Value) (s' : Nat) (rg' pg' pk' : Value) (lo' lr' : Rws) (lp' : List (List Oq)) (lk' : List PP) (w w2 : World) (HE : Hid ((w.alloc (.cells #[.int .i64 a, .int .i64 b, .int .i64 c, .int .i64 d, .int .i64 e, .int .i64 f, .int .i64 g, .int .i64 h, .int .i64 n, ob, .int .u64 (s : Int), rg, pg, pk] 30)).alloc (.cells #[.int .i64 a', .int .i64 b', .int .i64 c', .int .i64 d', .int .i64 e', .int .i64 f', .int .i64 g', .int .i64 h', .int .i64 n', ob', .int .u64 (s' : Int), rg', pg', pk'] 30) = w2)) (HB2 : Hid (Below w.heap.size w w2))
    (HX : Hid (Bp 30 w2 w.heap.size a b c d e f g h n ob s rg pg pk)) (HY : Hid (Bp 30 w2 (w.heap.size + 1) a' b' c' d' e' f' g' h' n' ob' s' rg' pg' pk')) (HP : Hid (PlanR w2 ob rg pg pk ⟨a, b, c, d, e, f, g, h, n, lo, s, lr, lp, lk⟩)) (HR : Hid (PlanR w2 ob' rg' pg' pk' ⟨a', b', c', d', e', f', g', h', n', lo', s', lr', lp', lk'⟩)) (Q0 : Hid ((decide ([a, b, c, d, e, f, g, h] = [a', b', c', d', e', f', g', h'])) = true)) (Q1 : Hid ((sameF n lo n' lo') = true)) (Q2 : Hid ((decide (s = s')) = true)) (Q3 : Hid ((decide (lr = lr')) = true)) (Q4 : Hid ((decide (lp = lp')) = true)) (Q5 : Hid ((decide (lk = lk')) = true)) :
    Calls Tryz.prog 81 #[planV a b c d e f g h n ob s rg pg pk, planV a' b' c' d' e' f' g' h' n' ob' s' rg' pg' pk'] w fun x w' => x = .returned (.bool true) ∧ Below w.heap.size w w' := by
  have HBC := hide (belowD (Below.refl w2.heap.size w2))
  have hq0 := eql_nums a b c d e f g h a' b' c' d' e' f' g' h'
  rw [Q0.out] at hq0
  have e2 : ((s : Int) == (s' : Int)) = true := by have q := Q2.out; rw [decide_eq_true_eq] at q; rw [beq_iff_eq, q]
  unfold planV
  go_enter Tryz.func81, Tryz.ntmps81
  go_wp2
  rw [HE.out]
  refine wp_region_held_drew (S := fun w' => (w'.cell? ⟨w.heap.size, 0, none⟩ = some (.int .i64 a) ∧ w'.cell? ⟨w.heap.size, 1, none⟩ = some (.int .i64 b) ∧ w'.cell? ⟨w.heap.size, 2, none⟩ = some (.int .i64 c) ∧ w'.cell? ⟨w.heap.size, 3, none⟩ = some (.int .i64 d) ∧ w'.cell? ⟨w.heap.size, 4, none⟩ = some (.int .i64 e) ∧ w'.cell? ⟨w.heap.size, 5, none⟩ = some (.int .i64 f) ∧ w'.cell? ⟨w.heap.size, 6, none⟩ = some (.int .i64 g) ∧ w'.cell? ⟨w.heap.size, 7, none⟩ = some (.int .i64 h) ∧ w'.cell? ⟨w.heap.size, 8, none⟩ = some (.int .i64 n) ∧ w'.cell? ⟨w.heap.size, 9, none⟩ = some (ob) ∧ w'.cell? ⟨w.heap.size, 10, none⟩ = some (.int .u64 (s : Int)) ∧ w'.cell? ⟨w.heap.size, 11, none⟩ = some (rg) ∧ w'.cell? ⟨w.heap.size, 12, none⟩ = some (pg) ∧ w'.cell? ⟨w.heap.size, 13, none⟩ = some (pk)) ∧ (w'.cell? ⟨w.heap.size + 1, 0, none⟩ = some (.int .i64 a') ∧ w'.cell? ⟨w.heap.size + 1, 1, none⟩ = some (.int .i64 b') ∧ w'.cell? ⟨w.heap.size + 1, 2, none⟩ = some (.int .i64 c') ∧ w'.cell? ⟨w.heap.size + 1, 3, none⟩ = some (.int .i64 d') ∧ w'.cell? ⟨w.heap.size + 1, 4, none⟩ = some (.int .i64 e') ∧ w'.cell? ⟨w.heap.size + 1, 5, none⟩ = some (.int .i64 f') ∧ w'.cell? ⟨w.heap.size + 1, 6, none⟩ = some (.int .i64 g') ∧ w'.cell? ⟨w.heap.size + 1, 7, none⟩ = some (.int .i64 h') ∧ w'.cell? ⟨w.heap.size + 1, 8, none⟩ = some (.int .i64 n') ∧ w'.cell? ⟨w.heap.size + 1, 9, none⟩ = some (ob') ∧ w'.cell? ⟨w.heap.size + 1, 10, none⟩ = some (.int .u64 (s' : Int)) ∧ w'.cell? ⟨w.heap.size + 1, 11, none⟩ = some (rg') ∧ w'.cell? ⟨w.heap.size + 1, 12, none⟩ = some (pg') ∧ w'.cell? ⟨w.heap.size + 1, 13, none⟩ = some (pk'))) (by kernel_rfl) ?_ (fun hHeld => ?_)
  · exact (by exact HX.out.two HY.out HBC.out)
  refine tk 0 (h := ?_)
  refine tk 2 (h := ?_)
  refine wpAnyH_ready (rs := [1]) (by kernel_rfl) (by simp) ?_
  refine AllReadyH.cons rfl (fun K hK => ?_) AllReadyH.nil
  go_simp
  go_at_call 132
  (with_reducible refine (numbersOf_any a b c d e f g h n ob s rg pg pk _).mono ?_)
  rintro x w4 ⟨rfl, hb⟩
  have HBC := hide (bcall HBC.out hb)
  clear hb
  (try go_simp)
  refine hK.out _ _ (by exact HX.out.two HY.out HBC.out) (fun hHeld => ?_)
  (try simp only [Act.put, List.setIfInBounds_toArray, List.set_cons_zero, List.set_cons_succ])
  refine wpAnyH_ready (rs := [3]) (by kernel_rfl) (by simp) ?_
  refine AllReadyH.cons rfl (fun K hK => ?_) AllReadyH.nil
  go_simp
  go_at_call 132
  (with_reducible refine (numbersOf_any a' b' c' d' e' f' g' h' n' ob' s' rg' pg' pk' _).mono ?_)
  rintro x w4 ⟨rfl, hb⟩
  have HBC := hide (bcall HBC.out hb)
  clear hb
  (try go_simp)
  refine hK.out _ _ (by exact HX.out.two HY.out HBC.out) (fun hHeld => ?_)
  (try simp only [Act.put, List.setIfInBounds_toArray, List.set_cons_zero, List.set_cons_succ])
  refine tk 4 (h := ?_)
  refine tk 5 (h := ?_)
  refine tk 6 (h := ?_)
  refine tk 7 (h := ?_)
  refine tk 8 (h := ?_)
  refine tk 9 (h := ?_)
  refine wpAnyH_ready (rs := [10]) (by kernel_rfl) (by simp) ?_
  refine AllReadyH.cons rfl (fun K hK => ?_) AllReadyH.nil
  go_simp
  go_at_call 72
  (with_reducible refine (Same_cHp n n' ob ob' lo lo' _ (HP.out.ob.below HBC.out) (HR.out.ob.below HBC.out) _ Q1.out).mono ?_)
  rintro x w4 ⟨rfl, hb⟩
  have HBC := hide (bcall HBC.out hb)
  clear hb
  (try go_simp)
  refine hK.out _ _ (by exact HX.out.two HY.out HBC.out) (fun hHeld => ?_)
  (try simp only [Act.put, List.setIfInBounds_toArray, List.set_cons_zero, List.set_cons_succ])
  refine tk 11 (h := ?_)
  refine tk 12 (h := ?_)
  refine tk 13 (h := ?_)
  refine tk 14 (h := ?_)
  refine tk 15 (h := ?_)
  refine tk 16 (h := ?_)
  refine tk 17 (h := ?_)
  refine tk 18 (h := ?_)
  refine tk 19 (h := ?_)
  refine tk 20 (h := ?_)
  refine tk 21 (h := ?_)
  refine tk 22 (h := ?_)
  refine tk 23 (h := ?_)
  refine wpAnyH_ready (rs := [24]) (by kernel_rfl) (by simp) ?_
  refine AllReadyH.cons rfl (fun K hK => ?_) AllReadyH.nil
  go_simp
  go_at_call 74
  (with_reducible refine (EqualFunc_rows rg rg' lr lr' _ (HP.out.rg.below HBC.out) (HR.out.rg.below HBC.out)).mono ?_)
  rintro x w4 ⟨rfl, hb⟩
  rw [Q3.out]
  have HBC := hide (bcall HBC.out hb)
  clear hb
  (try go_simp)
  refine hK.out _ _ (by exact HX.out.two HY.out HBC.out) (fun hHeld => ?_)
  (try simp only [Act.put, List.setIfInBounds_toArray, List.set_cons_zero, List.set_cons_succ])
  refine tk 25 (h := ?_)
  refine tk 26 (h := ?_)
  refine tk 27 (h := ?_)
  refine tk 28 (h := ?_)
  refine tk 29 (h := ?_)
  refine tk 30 (h := ?_)
  refine wpAnyH_ready (rs := [31]) (by kernel_rfl) (by simp) ?_
  refine AllReadyH.cons rfl (fun K hK => ?_) AllReadyH.nil
  go_simp
  go_at_call 133
  (with_reducible refine (EqualFunc_ops pg pg' lp lp' _ (HP.out.pg.below HBC.out) (HR.out.pg.below HBC.out)).mono ?_)
  rintro x w4 ⟨rfl, hb⟩
  rw [Q4.out]
  have HBC := hide (bcall HBC.out hb)
  clear hb
  (try go_simp)
  refine hK.out _ _ (by exact HX.out.two HY.out HBC.out) (fun hHeld => ?_)
  (try simp only [Act.put, List.setIfInBounds_toArray, List.set_cons_zero, List.set_cons_succ])
  refine tk 32 (h := ?_)
  refine tk 33 (h := ?_)
  refine tk 34 (h := ?_)
  refine tk 35 (h := ?_)
  refine tk 36 (h := ?_)
  refine tk 37 (h := ?_)
  refine wpAnyH_ready (rs := [38]) (by kernel_rfl) (by simp) ?_
  refine AllReadyH.cons rfl (fun K hK => ?_) AllReadyH.nil
  go_simp
  go_at_call 135
  (with_reducible refine (Equal_picks pk pk' lk lk' _ (HP.out.pk.below HBC.out) (HR.out.pk.below HBC.out)).mono ?_)
  rintro x w4 ⟨rfl, hb⟩
  rw [Q5.out]
  have HBC := hide (bcall HBC.out hb)
  clear hb
  (try go_simp)
  refine hK.out _ _ (by exact HX.out.two HY.out HBC.out) (fun hHeld => ?_)
  (try simp only [Act.put, List.setIfInBounds_toArray, List.set_cons_zero, List.set_cons_succ])
  refine tk 39 (h := ?_)
  refine tk 40 (h := ?_)
  refine wpAnyH_done (by kernel_rfl) ?_ _
  go_wp2
  go_ret
  exact ⟨rfl, bcall HB2.out HBC.out⟩
end Go.Proofs.YtdmbcjckgfjcaaaGreatDoor
/- Layer plan: the program's Same, all cases together. Written by tools/genplanr6.py. -/
namespace Go.Proofs.YtdmbcjckgfjcaaaGreatDoor
open Go.RowKit Go.Joins
theorem pSame_parts (a b c d e f g h n : Int) (s : Nat) (lo lr : Rws) (lp : List (List Oq)) (lk : List PP) (a' b' c' d' e' f' g' h' n' : Int) (s' : Nat) (lo' lr' : Rws) (lp' : List (List Oq)) (lk' : List PP) :
    decide ((⟨a, b, c, d, e, f, g, h, n, lo, s, lr, lp, lk⟩ : Pq) = ⟨a', b', c', d', e', f', g', h', n', lo', s', lr', lp', lk'⟩) = (decide ([a, b, c, d, e, f, g, h] = [a', b', c', d', e', f', g', h']) && (sameF n lo n' lo' && (decide (s = s') && (decide (lr = lr') && (decide (lp = lp') && (decide (lk = lk'))))))) := by
  rw [Bool.eq_iff_iff]
  simp only [decide_eq_true_eq, Bool.and_eq_true, sameF, Pq.mk.injEq, List.cons.injEq, and_true]
  constructor
  · rintro ⟨h1, h2, h3, h4, h5, h6, h7, h8, h9, h10, h11, h12, h13, h14⟩; exact ⟨⟨h1, h2, h3, h4, h5, h6, h7, h8⟩, ⟨h9, h10⟩, h11, h12, h13, h14⟩
  · rintro ⟨⟨h1, h2, h3, h4, h5, h6, h7, h8⟩, ⟨h9, h10⟩, h11, h12, h13, h14⟩; exact ⟨h1, h2, h3, h4, h5, h6, h7, h8, h9, h10, h11, h12, h13, h14⟩
theorem pSame_any (a b c d e f g h n : Int) (ob : Value) (s : Nat) (rg pg pk : Value) (p : Pq) (a' b' c' d' e' f' g' h' n' : Int) (ob' : Value) (s' : Nat) (rg' pg' pk' : Value) (q : Pq) (w : World) (hp : PlanR w ob rg pg pk p) (hq : PlanR w ob' rg' pg' pk' q) (ep : p = ⟨a, b, c, d, e, f, g, h, n, p.ob, s, p.rg, p.pg, p.pk⟩) (eq : q = ⟨a', b', c', d', e', f', g', h', n', q.ob, s', q.rg, q.pg, q.pk⟩) (r : Bool) (hr : decide (p = q) = r) :
    Calls Tryz.prog 81 #[planV a b c d e f g h n ob s rg pg pk, planV a' b' c' d' e' f' g' h' n' ob' s' rg' pg' pk'] w fun x w' => x = .returned (.bool r) ∧ Below w.heap.size w w' := by
  obtain ⟨a0, b0, c0, d0, e0, f0, g0, h0, n0, lo, s0, lr, lp, lk⟩ := p
  obtain ⟨a1, b1, c1, d1, e1, f1, g1, h1, n1, lo', s1, lr', lp', lk'⟩ := q
  rw [Pq.mk.injEq] at ep eq
  obtain ⟨p1, p2, p3, p4, p5, p6, p7, p8, p9, -, p10, -⟩ := ep
  obtain ⟨q1, q2, q3, q4, q5, q6, q7, q8, q9, -, q10, -⟩ := eq
  subst p1 p2 p3 p4 p5 p6 p7 p8 p9 p10 q1 q2 q3 q4 q5 q6 q7 q8 q9 q10
  rw [pSame_parts] at hr
  obtain ⟨w1, E1, hb1, hs1, X⟩ := bp_new w a0 b0 c0 d0 e0 f0 g0 h0 n0 ob s0 rg pg pk 30
  obtain ⟨w2, E2, hb2, hs2, Y⟩ := bp_new w1 a1 b1 c1 d1 e1 f1 g1 h1 n1 ob' s1 rg' pg' pk' 30
  rw [hs1] at Y
  rw [← E1] at E2
  have HE := hide E2
  have hb12 := bcall hb1 hb2
  have HB2 := hide hb12
  have HX := hide (X.below hb2)
  have HY := hide Y
  clear E1
  have HP := hide (hp.below hb12)
  have HR := hide (hq.below hb12)
  cases k0 : decide ([a0, b0, c0, d0, e0, f0, g0, h0] = [a1, b1, c1, d1, e1, f1, g1, h1])
  · obtain rfl : r = false := by rw [← hr, k0]; rfl
    exact pSame_0 _ _ _ _ _ _ _ _ _ _ _ _ _ _ _ _ _ _ _ _ _ _ _ _ _ _ _ _ _ _ _ _ _ _ _ _ w w2 HE HB2 HX HY HP HR (hide k0)
  cases k1 : sameF n0 lo n1 lo'
  · obtain rfl : r = false := by rw [← hr, k0, k1]; rfl
    exact pSame_1 _ _ _ _ _ _ _ _ _ _ _ _ _ _ _ _ _ _ _ _ _ _ _ _ _ _ _ _ _ _ _ _ _ _ _ _ w w2 HE HB2 HX HY HP HR (hide k0) (hide k1)
  cases k2 : decide (s0 = s1)
  · obtain rfl : r = false := by rw [← hr, k0, k1, k2]; rfl
    exact pSame_2 _ _ _ _ _ _ _ _ _ _ _ _ _ _ _ _ _ _ _ _ _ _ _ _ _ _ _ _ _ _ _ _ _ _ _ _ w w2 HE HB2 HX HY HP HR (hide k0) (hide k1) (hide k2)
  cases k3 : decide (lr = lr')
  · obtain rfl : r = false := by rw [← hr, k0, k1, k2, k3]; rfl
    exact pSame_3 _ _ _ _ _ _ _ _ _ _ _ _ _ _ _ _ _ _ _ _ _ _ _ _ _ _ _ _ _ _ _ _ _ _ _ _ w w2 HE HB2 HX HY HP HR (hide k0) (hide k1) (hide k2) (hide k3)
  cases k4 : decide (lp = lp')
  · obtain rfl : r = false := by rw [← hr, k0, k1, k2, k3, k4]; rfl
    exact pSame_4 _ _ _ _ _ _ _ _ _ _ _ _ _ _ _ _ _ _ _ _ _ _ _ _ _ _ _ _ _ _ _ _ _ _ _ _ w w2 HE HB2 HX HY HP HR (hide k0) (hide k1) (hide k2) (hide k3) (hide k4)
  cases k5 : decide (lk = lk')
  · obtain rfl : r = false := by rw [← hr, k0, k1, k2, k3, k4, k5]; rfl
    exact pSame_5 _ _ _ _ _ _ _ _ _ _ _ _ _ _ _ _ _ _ _ _ _ _ _ _ _ _ _ _ _ _ _ _ _ _ _ _ w w2 HE HB2 HX HY HP HR (hide k0) (hide k1) (hide k2) (hide k3) (hide k4) (hide k5)
  obtain rfl : r = true := by rw [← hr, k0, k1, k2, k3, k4, k5]; rfl
  exact pSame_6 _ _ _ _ _ _ _ _ _ _ _ _ _ _ _ _ _ _ _ _ _ _ _ _ _ _ _ _ _ _ _ _ _ _ _ _ w w2 HE HB2 HX HY HP HR (hide k0) (hide k1) (hide k2) (hide k3) (hide k4) (hide k5)
end Go.Proofs.YtdmbcjckgfjcaaaGreatDoor
