/- Layer plan: the program's Same. Written by tools/genplanr6.py. -/
import Derived.Test.YtjnokhaojpijhaaGreatDoorPbd
import Derived.Test.YtjnokhaojpijhaaGreatDoorPab
namespace Go.Proofs.YtjnokhaojpijhaaGreatDoor
open Go.RowKit Go.Joins
theorem Bp.two {t t' : TypeId} {w w' : World} {B B' : Nat} {a b c d e f g h n : Int} {ob : Value} {s : Nat} {rg pg pk : Value} {a' b' c' d' e' f' g' h' n' : Int} {ob' : Value} {s' : Nat} {rg' pg' pk' : Value} (k : Bp t w B a b c d e f g h n ob s rg pg pk) (k' : Bp t' w B' a' b' c' d' e' f' g' h' n' ob' s' rg' pg' pk') (hb : Below w.heap.size w w') :
    (w'.cell? ⟨B, 0, none⟩ = some (.int .i64 a) ∧ w'.cell? ⟨B, 1, none⟩ = some (.int .i64 b) ∧ w'.cell? ⟨B, 2, none⟩ = some (.int .i64 c) ∧ w'.cell? ⟨B, 3, none⟩ = some (.int .i64 d) ∧ w'.cell? ⟨B, 4, none⟩ = some (.int .i64 e) ∧ w'.cell? ⟨B, 5, none⟩ = some (.int .i64 f) ∧ w'.cell? ⟨B, 6, none⟩ = some (.int .i64 g) ∧ w'.cell? ⟨B, 7, none⟩ = some (.int .i64 h) ∧ w'.cell? ⟨B, 8, none⟩ = some (.int .i64 n) ∧ w'.cell? ⟨B, 9, none⟩ = some (ob) ∧ w'.cell? ⟨B, 10, none⟩ = some (.int .u64 (s : Int)) ∧ w'.cell? ⟨B, 11, none⟩ = some (rg) ∧ w'.cell? ⟨B, 12, none⟩ = some (pg) ∧ w'.cell? ⟨B, 13, none⟩ = some (pk)) ∧ (w'.cell? ⟨B', 0, none⟩ = some (.int .i64 a') ∧ w'.cell? ⟨B', 1, none⟩ = some (.int .i64 b') ∧ w'.cell? ⟨B', 2, none⟩ = some (.int .i64 c') ∧ w'.cell? ⟨B', 3, none⟩ = some (.int .i64 d') ∧ w'.cell? ⟨B', 4, none⟩ = some (.int .i64 e') ∧ w'.cell? ⟨B', 5, none⟩ = some (.int .i64 f') ∧ w'.cell? ⟨B', 6, none⟩ = some (.int .i64 g') ∧ w'.cell? ⟨B', 7, none⟩ = some (.int .i64 h') ∧ w'.cell? ⟨B', 8, none⟩ = some (.int .i64 n') ∧ w'.cell? ⟨B', 9, none⟩ = some (ob') ∧ w'.cell? ⟨B', 10, none⟩ = some (.int .u64 (s' : Int)) ∧ w'.cell? ⟨B', 11, none⟩ = some (rg') ∧ w'.cell? ⟨B', 12, none⟩ = some (pg') ∧ w'.cell? ⟨B', 13, none⟩ = some (pk')) := ⟨(k.below hb).cells, (k'.below hb).cells⟩
set_option maxRecDepth 100000 in
set_option maxHeartbeats 40000000 in
theorem pSame_0 (a b c d e f g h n : Int) (ob : Value) (s : Nat) (rg pg pk : Value) (lo lr : Rws) (lp : List (List Oq)) (lk : List PP) (a' b' c' d' e' f' g' h' n' : Int) (ob' : Value) (s' : Nat) (rg' pg' pk' : Value) (lo' lr' : Rws) (lp' : List (List Oq)) (lk' : List PP) (w w2 : World) (HE : Hid ((w.alloc (.cells #[.int .i64 a, .int .i64 b, .int .i64 c, .int .i64 d, .int .i64 e, .int .i64 f, .int .i64 g, .int .i64 h, .int .i64 n, ob, .int .u64 (s : Int), rg, pg, pk] 30)).alloc (.cells #[.int .i64 a', .int .i64 b', .int .i64 c', .int .i64 d', .int .i64 e', .int .i64 f', .int .i64 g', .int .i64 h', .int .i64 n', ob', .int .u64 (s' : Int), rg', pg', pk'] 30) = w2)) (HB2 : Hid (Below w.heap.size w w2))
    (HX : Hid (Bp 30 w2 w.heap.size a b c d e f g h n ob s rg pg pk)) (HY : Hid (Bp 30 w2 (w.heap.size + 1) a' b' c' d' e' f' g' h' n' ob' s' rg' pg' pk')) (_HP : Hid (PlanR w2 ob rg pg pk ⟨a, b, c, d, e, f, g, h, n, lo, s, lr, lp, lk⟩)) (_HR : Hid (PlanR w2 ob' rg' pg' pk' ⟨a', b', c', d', e', f', g', h', n', lo', s', lr', lp', lk'⟩)) (Q0 : Hid ((decide ([a, b, c, d, e, f, g, h] = [a', b', c', d', e', f', g', h'])) = false)) :
    Calls Tryz.prog 14 #[planV a b c d e f g h n ob s rg pg pk, planV a' b' c' d' e' f' g' h' n' ob' s' rg' pg' pk'] w fun x w' => x = .returned (.bool false) ∧ Below w.heap.size w w' := by
  have HBC := hide (belowD (Below.refl w2.heap.size w2))
  have hq0 := eql_nums a b c d e f g h a' b' c' d' e' f' g' h'
  rw [Q0.out] at hq0
  unfold planV
  go_enter Tryz.func14, Tryz.ntmps14
  go_wp2
  rw [HE.out]
  refine wp_region_held_drew (S := fun w' => (w'.cell? ⟨w.heap.size, 0, none⟩ = some (.int .i64 a) ∧ w'.cell? ⟨w.heap.size, 1, none⟩ = some (.int .i64 b) ∧ w'.cell? ⟨w.heap.size, 2, none⟩ = some (.int .i64 c) ∧ w'.cell? ⟨w.heap.size, 3, none⟩ = some (.int .i64 d) ∧ w'.cell? ⟨w.heap.size, 4, none⟩ = some (.int .i64 e) ∧ w'.cell? ⟨w.heap.size, 5, none⟩ = some (.int .i64 f) ∧ w'.cell? ⟨w.heap.size, 6, none⟩ = some (.int .i64 g) ∧ w'.cell? ⟨w.heap.size, 7, none⟩ = some (.int .i64 h) ∧ w'.cell? ⟨w.heap.size, 8, none⟩ = some (.int .i64 n) ∧ w'.cell? ⟨w.heap.size, 9, none⟩ = some (ob) ∧ w'.cell? ⟨w.heap.size, 10, none⟩ = some (.int .u64 (s : Int)) ∧ w'.cell? ⟨w.heap.size, 11, none⟩ = some (rg) ∧ w'.cell? ⟨w.heap.size, 12, none⟩ = some (pg) ∧ w'.cell? ⟨w.heap.size, 13, none⟩ = some (pk)) ∧ (w'.cell? ⟨w.heap.size + 1, 0, none⟩ = some (.int .i64 a') ∧ w'.cell? ⟨w.heap.size + 1, 1, none⟩ = some (.int .i64 b') ∧ w'.cell? ⟨w.heap.size + 1, 2, none⟩ = some (.int .i64 c') ∧ w'.cell? ⟨w.heap.size + 1, 3, none⟩ = some (.int .i64 d') ∧ w'.cell? ⟨w.heap.size + 1, 4, none⟩ = some (.int .i64 e') ∧ w'.cell? ⟨w.heap.size + 1, 5, none⟩ = some (.int .i64 f') ∧ w'.cell? ⟨w.heap.size + 1, 6, none⟩ = some (.int .i64 g') ∧ w'.cell? ⟨w.heap.size + 1, 7, none⟩ = some (.int .i64 h') ∧ w'.cell? ⟨w.heap.size + 1, 8, none⟩ = some (.int .i64 n') ∧ w'.cell? ⟨w.heap.size + 1, 9, none⟩ = some (ob') ∧ w'.cell? ⟨w.heap.size + 1, 10, none⟩ = some (.int .u64 (s' : Int)) ∧ w'.cell? ⟨w.heap.size + 1, 11, none⟩ = some (rg') ∧ w'.cell? ⟨w.heap.size + 1, 12, none⟩ = some (pg') ∧ w'.cell? ⟨w.heap.size + 1, 13, none⟩ = some (pk'))) (by kernel_rfl) ?_ (fun hHeld => ?_)
  · exact (by exact HX.out.two HY.out HBC.out)
  refine tkH 0 ⟨some 5, .load 30 (.tmp 2), 30, "plan.go:123", #[], none⟩ (h := ?_)
  refine tkH 2 ⟨some 7, .load 30 (.tmp 3), 30, "plan.go:123", #[], none⟩ (h := ?_)
  refine wpAnyH_ready (rs := [1]) (by kernel_rfl) (by simp) ?_
  refine AllReadyH.cons rfl (fun K hK => ?_) AllReadyH.nil
  go_simp
  go_at_call 49
  (with_reducible refine (numbersOf_any a b c d e f g h n ob s rg pg pk _).mono ?_)
  rintro x w4 ⟨rfl, hb⟩
  have HBC := hide (bcall HBC.out hb)
  clear hb
  (try go_simp)
  refine hK.out _ _ (by exact HX.out.two HY.out HBC.out) (fun hHeld => ?_)
  (try simp only [Act.put, List.setIfInBounds_toArray, List.set_cons_zero, List.set_cons_succ])
  refine wpAnyH_ready (rs := [3]) (by kernel_rfl) (by simp) ?_
  refine AllReadyH.cons rfl (fun K hK => ?_) AllReadyH.nil
  go_simp
  go_at_call 49
  (with_reducible refine (numbersOf_any a' b' c' d' e' f' g' h' n' ob' s' rg' pg' pk' _).mono ?_)
  rintro x w4 ⟨rfl, hb⟩
  have HBC := hide (bcall HBC.out hb)
  clear hb
  (try go_simp)
  refine hK.out _ _ (by exact HX.out.two HY.out HBC.out) (fun hHeld => ?_)
  (try simp only [Act.put, List.setIfInBounds_toArray, List.set_cons_zero, List.set_cons_succ])
  refine tkH 4 ⟨some 9, .binOp .eql 99 (.tmp 6) (.tmp 8) 99, 4, "plan.go:123", #[⟨1, .data⟩, ⟨3, .data⟩], none⟩ (h := ?_)
  refine tkH 5 ⟨some 10, .move (.tmp 9), 4, "plan.go:123", #[⟨4, .data⟩, ⟨3, .chain⟩], none⟩ (h := ?_)
  refine tkU 6 ⟨some 11, .fieldAddr 30 (.tmp 2) 8, 0, "plan.go:123", #[⟨5, .guard⟩], some (5, true)⟩ (h := ?_)
  refine tkU 7 ⟨some 12, .load 24 (.tmp 11), 24, "plan.go:123", #[⟨6, .data⟩, ⟨5, .guard⟩], some (5, true)⟩ (h := ?_)
  refine tkU 8 ⟨some 13, .fieldAddr 30 (.tmp 3) 8, 0, "plan.go:123", #[⟨5, .guard⟩], some (5, true)⟩ (h := ?_)
  refine tkU 9 ⟨some 14, .load 24 (.tmp 13), 24, "plan.go:123", #[⟨8, .data⟩, ⟨5, .guard⟩], some (5, true)⟩ (h := ?_)
  refine tkU 10 ⟨some 15, .call { callee := .value (.func 50), args := #[.tmp 12, .tmp 14], argTypes := #[24, 24] }, 4, "plan.go:124", #[⟨7, .data⟩, ⟨9, .data⟩, ⟨5, .chain⟩, ⟨5, .guard⟩], some (5, true)⟩ (h := ?_)
  refine tkH 11 ⟨some 16, .pick (.tmp 10) (.tmp 15) (.const (.bool false)), 4, "plan.go:123", #[⟨5, .data⟩, ⟨10, .data⟩], none⟩ (h := ?_)
  refine tkH 12 ⟨some 17, .move (.tmp 16), 4, "plan.go:123", #[⟨11, .data⟩, ⟨10, .chain⟩], none⟩ (h := ?_)
  refine tkU 13 ⟨some 18, .fieldAddr 30 (.tmp 2) 9, 0, "plan.go:123", #[⟨12, .guard⟩], some (12, true)⟩ (h := ?_)
  refine tkU 14 ⟨some 19, .load 26 (.tmp 18), 26, "plan.go:123", #[⟨13, .data⟩, ⟨12, .guard⟩], some (12, true)⟩ (h := ?_)
  refine tkU 15 ⟨some 20, .fieldAddr 30 (.tmp 3) 9, 0, "plan.go:123", #[⟨12, .guard⟩], some (12, true)⟩ (h := ?_)
  refine tkU 16 ⟨some 21, .load 26 (.tmp 20), 26, "plan.go:123", #[⟨15, .data⟩, ⟨12, .guard⟩], some (12, true)⟩ (h := ?_)
  refine tkU 17 ⟨some 22, .binOp .eql 26 (.tmp 19) (.tmp 21) 26, 4, "plan.go:123", #[⟨14, .data⟩, ⟨16, .data⟩, ⟨12, .guard⟩], some (12, true)⟩ (h := ?_)
  refine tkH 18 ⟨some 23, .pick (.tmp 17) (.tmp 22) (.const (.bool false)), 4, "plan.go:123", #[⟨12, .data⟩, ⟨17, .data⟩], none⟩ (h := ?_)
  refine tkH 19 ⟨some 24, .move (.tmp 23), 4, "plan.go:123", #[⟨18, .data⟩, ⟨12, .chain⟩], none⟩ (h := ?_)
  refine tkU 20 ⟨some 25, .fieldAddr 30 (.tmp 2) 10, 0, "plan.go:123", #[⟨19, .guard⟩], some (19, true)⟩ (h := ?_)
  refine tkU 21 ⟨some 26, .load 22 (.tmp 25), 22, "plan.go:123", #[⟨20, .data⟩, ⟨19, .guard⟩], some (19, true)⟩ (h := ?_)
  refine tkU 22 ⟨some 27, .fieldAddr 30 (.tmp 3) 10, 0, "plan.go:123", #[⟨19, .guard⟩], some (19, true)⟩ (h := ?_)
  refine tkU 23 ⟨some 28, .load 22 (.tmp 27), 22, "plan.go:123", #[⟨22, .data⟩, ⟨19, .guard⟩], some (19, true)⟩ (h := ?_)
  refine tkU 24 ⟨some 29, .call { callee := .value (.func 51), args := #[.tmp 26, .tmp 28, .func 52], argTypes := #[22, 22, 103] }, 4, "plan.go:126", #[⟨21, .data⟩, ⟨23, .data⟩, ⟨19, .chain⟩, ⟨19, .guard⟩], some (19, true)⟩ (h := ?_)
  refine tkH 25 ⟨some 30, .pick (.tmp 24) (.tmp 29) (.const (.bool false)), 4, "plan.go:123", #[⟨19, .data⟩, ⟨24, .data⟩], none⟩ (h := ?_)
  refine tkH 26 ⟨some 31, .move (.tmp 30), 4, "plan.go:123", #[⟨25, .data⟩, ⟨24, .chain⟩], none⟩ (h := ?_)
  refine tkU 27 ⟨some 32, .fieldAddr 30 (.tmp 2) 11, 0, "plan.go:123", #[⟨26, .guard⟩], some (26, true)⟩ (h := ?_)
  refine tkU 28 ⟨some 33, .load 27 (.tmp 32), 27, "plan.go:123", #[⟨27, .data⟩, ⟨26, .guard⟩], some (26, true)⟩ (h := ?_)
  refine tkU 29 ⟨some 34, .fieldAddr 30 (.tmp 3) 11, 0, "plan.go:123", #[⟨26, .guard⟩], some (26, true)⟩ (h := ?_)
  refine tkU 30 ⟨some 35, .load 27 (.tmp 34), 27, "plan.go:123", #[⟨29, .data⟩, ⟨26, .guard⟩], some (26, true)⟩ (h := ?_)
  refine tkU 31 ⟨some 36, .call { callee := .value (.func 53), args := #[.tmp 33, .tmp 35, .func 54], argTypes := #[27, 27, 105] }, 4, "plan.go:127", #[⟨28, .data⟩, ⟨30, .data⟩, ⟨26, .chain⟩, ⟨26, .guard⟩], some (26, true)⟩ (h := ?_)
  refine tkH 32 ⟨some 37, .pick (.tmp 31) (.tmp 36) (.const (.bool false)), 4, "plan.go:123", #[⟨26, .data⟩, ⟨31, .data⟩], none⟩ (h := ?_)
  refine tkH 33 ⟨some 38, .move (.tmp 37), 4, "plan.go:123", #[⟨32, .data⟩, ⟨31, .chain⟩], none⟩ (h := ?_)
  refine tkU 34 ⟨some 39, .fieldAddr 30 (.tmp 2) 12, 0, "plan.go:123", #[⟨33, .guard⟩], some (33, true)⟩ (h := ?_)
  refine tkU 35 ⟨some 40, .load 28 (.tmp 39), 28, "plan.go:123", #[⟨34, .data⟩, ⟨33, .guard⟩], some (33, true)⟩ (h := ?_)
  refine tkU 36 ⟨some 41, .fieldAddr 30 (.tmp 3) 12, 0, "plan.go:123", #[⟨33, .guard⟩], some (33, true)⟩ (h := ?_)
  refine tkU 37 ⟨some 42, .load 28 (.tmp 41), 28, "plan.go:123", #[⟨36, .data⟩, ⟨33, .guard⟩], some (33, true)⟩ (h := ?_)
  refine tkU 38 ⟨some 43, .call { callee := .value (.func 55), args := #[.tmp 40, .tmp 42], argTypes := #[28, 28] }, 4, "plan.go:128", #[⟨35, .data⟩, ⟨37, .data⟩, ⟨33, .chain⟩, ⟨33, .guard⟩], some (33, true)⟩ (h := ?_)
  refine tkH 39 ⟨some 44, .pick (.tmp 38) (.tmp 43) (.const (.bool false)), 4, "plan.go:123", #[⟨33, .data⟩, ⟨38, .data⟩], none⟩ (h := ?_)
  refine tkH 40 ⟨some 4, .assign (.tmp 44), 4, "plan.go:123", #[⟨39, .data⟩, ⟨38, .chain⟩, ⟨0, .phase⟩, ⟨1, .phase⟩, ⟨2, .phase⟩, ⟨3, .phase⟩, ⟨4, .phase⟩, ⟨5, .phase⟩, ⟨6, .phase⟩, ⟨7, .phase⟩, ⟨8, .phase⟩, ⟨9, .phase⟩, ⟨10, .phase⟩, ⟨11, .phase⟩, ⟨12, .phase⟩, ⟨13, .phase⟩, ⟨14, .phase⟩, ⟨15, .phase⟩, ⟨16, .phase⟩, ⟨17, .phase⟩, ⟨18, .phase⟩, ⟨19, .phase⟩, ⟨20, .phase⟩, ⟨21, .phase⟩, ⟨22, .phase⟩, ⟨23, .phase⟩, ⟨24, .phase⟩, ⟨25, .phase⟩, ⟨26, .phase⟩, ⟨27, .phase⟩, ⟨28, .phase⟩, ⟨29, .phase⟩, ⟨30, .phase⟩, ⟨31, .phase⟩, ⟨32, .phase⟩, ⟨33, .phase⟩, ⟨34, .phase⟩, ⟨35, .phase⟩, ⟨36, .phase⟩, ⟨37, .phase⟩, ⟨38, .phase⟩, ⟨39, .phase⟩], none⟩ (h := ?_)
  refine wpAnyH_done (by kernel_rfl) ?_ _
  go_wp2
  go_ret
  exact ⟨rfl, bcall HB2.out HBC.out⟩
set_option maxRecDepth 100000 in
set_option maxHeartbeats 40000000 in
theorem pSame_1 (a b c d e f g h n : Int) (ob : Value) (s : Nat) (rg pg pk : Value) (lo lr : Rws) (lp : List (List Oq)) (lk : List PP) (a' b' c' d' e' f' g' h' n' : Int) (ob' : Value) (s' : Nat) (rg' pg' pk' : Value) (lo' lr' : Rws) (lp' : List (List Oq)) (lk' : List PP) (w w2 : World) (HE : Hid ((w.alloc (.cells #[.int .i64 a, .int .i64 b, .int .i64 c, .int .i64 d, .int .i64 e, .int .i64 f, .int .i64 g, .int .i64 h, .int .i64 n, ob, .int .u64 (s : Int), rg, pg, pk] 30)).alloc (.cells #[.int .i64 a', .int .i64 b', .int .i64 c', .int .i64 d', .int .i64 e', .int .i64 f', .int .i64 g', .int .i64 h', .int .i64 n', ob', .int .u64 (s' : Int), rg', pg', pk'] 30) = w2)) (HB2 : Hid (Below w.heap.size w w2))
    (HX : Hid (Bp 30 w2 w.heap.size a b c d e f g h n ob s rg pg pk)) (HY : Hid (Bp 30 w2 (w.heap.size + 1) a' b' c' d' e' f' g' h' n' ob' s' rg' pg' pk')) (HP : Hid (PlanR w2 ob rg pg pk ⟨a, b, c, d, e, f, g, h, n, lo, s, lr, lp, lk⟩)) (HR : Hid (PlanR w2 ob' rg' pg' pk' ⟨a', b', c', d', e', f', g', h', n', lo', s', lr', lp', lk'⟩)) (Q0 : Hid ((decide ([a, b, c, d, e, f, g, h] = [a', b', c', d', e', f', g', h'])) = true)) (Q1 : Hid ((sameF n lo n' lo') = false)) :
    Calls Tryz.prog 14 #[planV a b c d e f g h n ob s rg pg pk, planV a' b' c' d' e' f' g' h' n' ob' s' rg' pg' pk'] w fun x w' => x = .returned (.bool false) ∧ Below w.heap.size w w' := by
  have HBC := hide (belowD (Below.refl w2.heap.size w2))
  have hq0 := eql_nums a b c d e f g h a' b' c' d' e' f' g' h'
  rw [Q0.out] at hq0
  unfold planV
  go_enter Tryz.func14, Tryz.ntmps14
  go_wp2
  rw [HE.out]
  refine wp_region_held_drew (S := fun w' => (w'.cell? ⟨w.heap.size, 0, none⟩ = some (.int .i64 a) ∧ w'.cell? ⟨w.heap.size, 1, none⟩ = some (.int .i64 b) ∧ w'.cell? ⟨w.heap.size, 2, none⟩ = some (.int .i64 c) ∧ w'.cell? ⟨w.heap.size, 3, none⟩ = some (.int .i64 d) ∧ w'.cell? ⟨w.heap.size, 4, none⟩ = some (.int .i64 e) ∧ w'.cell? ⟨w.heap.size, 5, none⟩ = some (.int .i64 f) ∧ w'.cell? ⟨w.heap.size, 6, none⟩ = some (.int .i64 g) ∧ w'.cell? ⟨w.heap.size, 7, none⟩ = some (.int .i64 h) ∧ w'.cell? ⟨w.heap.size, 8, none⟩ = some (.int .i64 n) ∧ w'.cell? ⟨w.heap.size, 9, none⟩ = some (ob) ∧ w'.cell? ⟨w.heap.size, 10, none⟩ = some (.int .u64 (s : Int)) ∧ w'.cell? ⟨w.heap.size, 11, none⟩ = some (rg) ∧ w'.cell? ⟨w.heap.size, 12, none⟩ = some (pg) ∧ w'.cell? ⟨w.heap.size, 13, none⟩ = some (pk)) ∧ (w'.cell? ⟨w.heap.size + 1, 0, none⟩ = some (.int .i64 a') ∧ w'.cell? ⟨w.heap.size + 1, 1, none⟩ = some (.int .i64 b') ∧ w'.cell? ⟨w.heap.size + 1, 2, none⟩ = some (.int .i64 c') ∧ w'.cell? ⟨w.heap.size + 1, 3, none⟩ = some (.int .i64 d') ∧ w'.cell? ⟨w.heap.size + 1, 4, none⟩ = some (.int .i64 e') ∧ w'.cell? ⟨w.heap.size + 1, 5, none⟩ = some (.int .i64 f') ∧ w'.cell? ⟨w.heap.size + 1, 6, none⟩ = some (.int .i64 g') ∧ w'.cell? ⟨w.heap.size + 1, 7, none⟩ = some (.int .i64 h') ∧ w'.cell? ⟨w.heap.size + 1, 8, none⟩ = some (.int .i64 n') ∧ w'.cell? ⟨w.heap.size + 1, 9, none⟩ = some (ob') ∧ w'.cell? ⟨w.heap.size + 1, 10, none⟩ = some (.int .u64 (s' : Int)) ∧ w'.cell? ⟨w.heap.size + 1, 11, none⟩ = some (rg') ∧ w'.cell? ⟨w.heap.size + 1, 12, none⟩ = some (pg') ∧ w'.cell? ⟨w.heap.size + 1, 13, none⟩ = some (pk'))) (by kernel_rfl) ?_ (fun hHeld => ?_)
  · exact (by exact HX.out.two HY.out HBC.out)
  refine tkH 0 ⟨some 5, .load 30 (.tmp 2), 30, "plan.go:123", #[], none⟩ (h := ?_)
  refine tkH 2 ⟨some 7, .load 30 (.tmp 3), 30, "plan.go:123", #[], none⟩ (h := ?_)
  refine wpAnyH_ready (rs := [1]) (by kernel_rfl) (by simp) ?_
  refine AllReadyH.cons rfl (fun K hK => ?_) AllReadyH.nil
  go_simp
  go_at_call 49
  (with_reducible refine (numbersOf_any a b c d e f g h n ob s rg pg pk _).mono ?_)
  rintro x w4 ⟨rfl, hb⟩
  have HBC := hide (bcall HBC.out hb)
  clear hb
  (try go_simp)
  refine hK.out _ _ (by exact HX.out.two HY.out HBC.out) (fun hHeld => ?_)
  (try simp only [Act.put, List.setIfInBounds_toArray, List.set_cons_zero, List.set_cons_succ])
  refine wpAnyH_ready (rs := [3]) (by kernel_rfl) (by simp) ?_
  refine AllReadyH.cons rfl (fun K hK => ?_) AllReadyH.nil
  go_simp
  go_at_call 49
  (with_reducible refine (numbersOf_any a' b' c' d' e' f' g' h' n' ob' s' rg' pg' pk' _).mono ?_)
  rintro x w4 ⟨rfl, hb⟩
  have HBC := hide (bcall HBC.out hb)
  clear hb
  (try go_simp)
  refine hK.out _ _ (by exact HX.out.two HY.out HBC.out) (fun hHeld => ?_)
  (try simp only [Act.put, List.setIfInBounds_toArray, List.set_cons_zero, List.set_cons_succ])
  refine tkH 4 ⟨some 9, .binOp .eql 99 (.tmp 6) (.tmp 8) 99, 4, "plan.go:123", #[⟨1, .data⟩, ⟨3, .data⟩], none⟩ (h := ?_)
  refine tkH 5 ⟨some 10, .move (.tmp 9), 4, "plan.go:123", #[⟨4, .data⟩, ⟨3, .chain⟩], none⟩ (h := ?_)
  refine tkH 6 ⟨some 11, .fieldAddr 30 (.tmp 2) 8, 0, "plan.go:123", #[⟨5, .guard⟩], some (5, true)⟩ (h := ?_)
  refine tkH 7 ⟨some 12, .load 24 (.tmp 11), 24, "plan.go:123", #[⟨6, .data⟩, ⟨5, .guard⟩], some (5, true)⟩ (h := ?_)
  refine tkH 8 ⟨some 13, .fieldAddr 30 (.tmp 3) 8, 0, "plan.go:123", #[⟨5, .guard⟩], some (5, true)⟩ (h := ?_)
  refine tkH 9 ⟨some 14, .load 24 (.tmp 13), 24, "plan.go:123", #[⟨8, .data⟩, ⟨5, .guard⟩], some (5, true)⟩ (h := ?_)
  refine wpAnyH_ready (rs := [10]) (by kernel_rfl) (by simp) ?_
  refine AllReadyH.cons rfl (fun K hK => ?_) AllReadyH.nil
  go_simp
  go_at_call 50
  (with_reducible refine (Same_cHp n n' ob ob' lo lo' _ (HP.out.ob.below HBC.out) (HR.out.ob.below HBC.out) _ Q1.out).mono ?_)
  rintro x w4 ⟨rfl, hb⟩
  have HBC := hide (bcall HBC.out hb)
  clear hb
  (try go_simp)
  refine hK.out _ _ (by exact HX.out.two HY.out HBC.out) (fun hHeld => ?_)
  (try simp only [Act.put, List.setIfInBounds_toArray, List.set_cons_zero, List.set_cons_succ])
  refine tkH 11 ⟨some 16, .pick (.tmp 10) (.tmp 15) (.const (.bool false)), 4, "plan.go:123", #[⟨5, .data⟩, ⟨10, .data⟩], none⟩ (h := ?_)
  refine tkH 12 ⟨some 17, .move (.tmp 16), 4, "plan.go:123", #[⟨11, .data⟩, ⟨10, .chain⟩], none⟩ (h := ?_)
  refine tkU 13 ⟨some 18, .fieldAddr 30 (.tmp 2) 9, 0, "plan.go:123", #[⟨12, .guard⟩], some (12, true)⟩ (h := ?_)
  refine tkU 14 ⟨some 19, .load 26 (.tmp 18), 26, "plan.go:123", #[⟨13, .data⟩, ⟨12, .guard⟩], some (12, true)⟩ (h := ?_)
  refine tkU 15 ⟨some 20, .fieldAddr 30 (.tmp 3) 9, 0, "plan.go:123", #[⟨12, .guard⟩], some (12, true)⟩ (h := ?_)
  refine tkU 16 ⟨some 21, .load 26 (.tmp 20), 26, "plan.go:123", #[⟨15, .data⟩, ⟨12, .guard⟩], some (12, true)⟩ (h := ?_)
  refine tkU 17 ⟨some 22, .binOp .eql 26 (.tmp 19) (.tmp 21) 26, 4, "plan.go:123", #[⟨14, .data⟩, ⟨16, .data⟩, ⟨12, .guard⟩], some (12, true)⟩ (h := ?_)
  refine tkH 18 ⟨some 23, .pick (.tmp 17) (.tmp 22) (.const (.bool false)), 4, "plan.go:123", #[⟨12, .data⟩, ⟨17, .data⟩], none⟩ (h := ?_)
  refine tkH 19 ⟨some 24, .move (.tmp 23), 4, "plan.go:123", #[⟨18, .data⟩, ⟨12, .chain⟩], none⟩ (h := ?_)
  refine tkU 20 ⟨some 25, .fieldAddr 30 (.tmp 2) 10, 0, "plan.go:123", #[⟨19, .guard⟩], some (19, true)⟩ (h := ?_)
  refine tkU 21 ⟨some 26, .load 22 (.tmp 25), 22, "plan.go:123", #[⟨20, .data⟩, ⟨19, .guard⟩], some (19, true)⟩ (h := ?_)
  refine tkU 22 ⟨some 27, .fieldAddr 30 (.tmp 3) 10, 0, "plan.go:123", #[⟨19, .guard⟩], some (19, true)⟩ (h := ?_)
  refine tkU 23 ⟨some 28, .load 22 (.tmp 27), 22, "plan.go:123", #[⟨22, .data⟩, ⟨19, .guard⟩], some (19, true)⟩ (h := ?_)
  refine tkU 24 ⟨some 29, .call { callee := .value (.func 51), args := #[.tmp 26, .tmp 28, .func 52], argTypes := #[22, 22, 103] }, 4, "plan.go:126", #[⟨21, .data⟩, ⟨23, .data⟩, ⟨19, .chain⟩, ⟨19, .guard⟩], some (19, true)⟩ (h := ?_)
  refine tkH 25 ⟨some 30, .pick (.tmp 24) (.tmp 29) (.const (.bool false)), 4, "plan.go:123", #[⟨19, .data⟩, ⟨24, .data⟩], none⟩ (h := ?_)
  refine tkH 26 ⟨some 31, .move (.tmp 30), 4, "plan.go:123", #[⟨25, .data⟩, ⟨24, .chain⟩], none⟩ (h := ?_)
  refine tkU 27 ⟨some 32, .fieldAddr 30 (.tmp 2) 11, 0, "plan.go:123", #[⟨26, .guard⟩], some (26, true)⟩ (h := ?_)
  refine tkU 28 ⟨some 33, .load 27 (.tmp 32), 27, "plan.go:123", #[⟨27, .data⟩, ⟨26, .guard⟩], some (26, true)⟩ (h := ?_)
  refine tkU 29 ⟨some 34, .fieldAddr 30 (.tmp 3) 11, 0, "plan.go:123", #[⟨26, .guard⟩], some (26, true)⟩ (h := ?_)
  refine tkU 30 ⟨some 35, .load 27 (.tmp 34), 27, "plan.go:123", #[⟨29, .data⟩, ⟨26, .guard⟩], some (26, true)⟩ (h := ?_)
  refine tkU 31 ⟨some 36, .call { callee := .value (.func 53), args := #[.tmp 33, .tmp 35, .func 54], argTypes := #[27, 27, 105] }, 4, "plan.go:127", #[⟨28, .data⟩, ⟨30, .data⟩, ⟨26, .chain⟩, ⟨26, .guard⟩], some (26, true)⟩ (h := ?_)
  refine tkH 32 ⟨some 37, .pick (.tmp 31) (.tmp 36) (.const (.bool false)), 4, "plan.go:123", #[⟨26, .data⟩, ⟨31, .data⟩], none⟩ (h := ?_)
  refine tkH 33 ⟨some 38, .move (.tmp 37), 4, "plan.go:123", #[⟨32, .data⟩, ⟨31, .chain⟩], none⟩ (h := ?_)
  refine tkU 34 ⟨some 39, .fieldAddr 30 (.tmp 2) 12, 0, "plan.go:123", #[⟨33, .guard⟩], some (33, true)⟩ (h := ?_)
  refine tkU 35 ⟨some 40, .load 28 (.tmp 39), 28, "plan.go:123", #[⟨34, .data⟩, ⟨33, .guard⟩], some (33, true)⟩ (h := ?_)
  refine tkU 36 ⟨some 41, .fieldAddr 30 (.tmp 3) 12, 0, "plan.go:123", #[⟨33, .guard⟩], some (33, true)⟩ (h := ?_)
  refine tkU 37 ⟨some 42, .load 28 (.tmp 41), 28, "plan.go:123", #[⟨36, .data⟩, ⟨33, .guard⟩], some (33, true)⟩ (h := ?_)
  refine tkU 38 ⟨some 43, .call { callee := .value (.func 55), args := #[.tmp 40, .tmp 42], argTypes := #[28, 28] }, 4, "plan.go:128", #[⟨35, .data⟩, ⟨37, .data⟩, ⟨33, .chain⟩, ⟨33, .guard⟩], some (33, true)⟩ (h := ?_)
  refine tkH 39 ⟨some 44, .pick (.tmp 38) (.tmp 43) (.const (.bool false)), 4, "plan.go:123", #[⟨33, .data⟩, ⟨38, .data⟩], none⟩ (h := ?_)
  refine tkH 40 ⟨some 4, .assign (.tmp 44), 4, "plan.go:123", #[⟨39, .data⟩, ⟨38, .chain⟩, ⟨0, .phase⟩, ⟨1, .phase⟩, ⟨2, .phase⟩, ⟨3, .phase⟩, ⟨4, .phase⟩, ⟨5, .phase⟩, ⟨6, .phase⟩, ⟨7, .phase⟩, ⟨8, .phase⟩, ⟨9, .phase⟩, ⟨10, .phase⟩, ⟨11, .phase⟩, ⟨12, .phase⟩, ⟨13, .phase⟩, ⟨14, .phase⟩, ⟨15, .phase⟩, ⟨16, .phase⟩, ⟨17, .phase⟩, ⟨18, .phase⟩, ⟨19, .phase⟩, ⟨20, .phase⟩, ⟨21, .phase⟩, ⟨22, .phase⟩, ⟨23, .phase⟩, ⟨24, .phase⟩, ⟨25, .phase⟩, ⟨26, .phase⟩, ⟨27, .phase⟩, ⟨28, .phase⟩, ⟨29, .phase⟩, ⟨30, .phase⟩, ⟨31, .phase⟩, ⟨32, .phase⟩, ⟨33, .phase⟩, ⟨34, .phase⟩, ⟨35, .phase⟩, ⟨36, .phase⟩, ⟨37, .phase⟩, ⟨38, .phase⟩, ⟨39, .phase⟩], none⟩ (h := ?_)
  refine wpAnyH_done (by kernel_rfl) ?_ _
  go_wp2
  go_ret
  exact ⟨rfl, bcall HB2.out HBC.out⟩
set_option maxRecDepth 100000 in
set_option maxHeartbeats 40000000 in
theorem pSame_2 (a b c d e f g h n : Int) (ob : Value) (s : Nat) (rg pg pk : Value) (lo lr : Rws) (lp : List (List Oq)) (lk : List PP) (a' b' c' d' e' f' g' h' n' : Int) (ob' : Value) (s' : Nat) (rg' pg' pk' : Value) (lo' lr' : Rws) (lp' : List (List Oq)) (lk' : List PP) (w w2 : World) (HE : Hid ((w.alloc (.cells #[.int .i64 a, .int .i64 b, .int .i64 c, .int .i64 d, .int .i64 e, .int .i64 f, .int .i64 g, .int .i64 h, .int .i64 n, ob, .int .u64 (s : Int), rg, pg, pk] 30)).alloc (.cells #[.int .i64 a', .int .i64 b', .int .i64 c', .int .i64 d', .int .i64 e', .int .i64 f', .int .i64 g', .int .i64 h', .int .i64 n', ob', .int .u64 (s' : Int), rg', pg', pk'] 30) = w2)) (HB2 : Hid (Below w.heap.size w w2))
    (HX : Hid (Bp 30 w2 w.heap.size a b c d e f g h n ob s rg pg pk)) (HY : Hid (Bp 30 w2 (w.heap.size + 1) a' b' c' d' e' f' g' h' n' ob' s' rg' pg' pk')) (HP : Hid (PlanR w2 ob rg pg pk ⟨a, b, c, d, e, f, g, h, n, lo, s, lr, lp, lk⟩)) (HR : Hid (PlanR w2 ob' rg' pg' pk' ⟨a', b', c', d', e', f', g', h', n', lo', s', lr', lp', lk'⟩)) (Q0 : Hid ((decide ([a, b, c, d, e, f, g, h] = [a', b', c', d', e', f', g', h'])) = true)) (Q1 : Hid ((sameF n lo n' lo') = true)) (Q2 : Hid ((decide (s = s')) = false)) :
    Calls Tryz.prog 14 #[planV a b c d e f g h n ob s rg pg pk, planV a' b' c' d' e' f' g' h' n' ob' s' rg' pg' pk'] w fun x w' => x = .returned (.bool false) ∧ Below w.heap.size w w' := by
  have HBC := hide (belowD (Below.refl w2.heap.size w2))
  have hq0 := eql_nums a b c d e f g h a' b' c' d' e' f' g' h'
  rw [Q0.out] at hq0
  have e2 : ((s : Int) == (s' : Int)) = false := by have q := Q2.out; rw [decide_eq_false_iff_not] at q; rw [beq_eq_false_iff_ne]; omega
  unfold planV
  go_enter Tryz.func14, Tryz.ntmps14
  go_wp2
  rw [HE.out]
  refine wp_region_held_drew (S := fun w' => (w'.cell? ⟨w.heap.size, 0, none⟩ = some (.int .i64 a) ∧ w'.cell? ⟨w.heap.size, 1, none⟩ = some (.int .i64 b) ∧ w'.cell? ⟨w.heap.size, 2, none⟩ = some (.int .i64 c) ∧ w'.cell? ⟨w.heap.size, 3, none⟩ = some (.int .i64 d) ∧ w'.cell? ⟨w.heap.size, 4, none⟩ = some (.int .i64 e) ∧ w'.cell? ⟨w.heap.size, 5, none⟩ = some (.int .i64 f) ∧ w'.cell? ⟨w.heap.size, 6, none⟩ = some (.int .i64 g) ∧ w'.cell? ⟨w.heap.size, 7, none⟩ = some (.int .i64 h) ∧ w'.cell? ⟨w.heap.size, 8, none⟩ = some (.int .i64 n) ∧ w'.cell? ⟨w.heap.size, 9, none⟩ = some (ob) ∧ w'.cell? ⟨w.heap.size, 10, none⟩ = some (.int .u64 (s : Int)) ∧ w'.cell? ⟨w.heap.size, 11, none⟩ = some (rg) ∧ w'.cell? ⟨w.heap.size, 12, none⟩ = some (pg) ∧ w'.cell? ⟨w.heap.size, 13, none⟩ = some (pk)) ∧ (w'.cell? ⟨w.heap.size + 1, 0, none⟩ = some (.int .i64 a') ∧ w'.cell? ⟨w.heap.size + 1, 1, none⟩ = some (.int .i64 b') ∧ w'.cell? ⟨w.heap.size + 1, 2, none⟩ = some (.int .i64 c') ∧ w'.cell? ⟨w.heap.size + 1, 3, none⟩ = some (.int .i64 d') ∧ w'.cell? ⟨w.heap.size + 1, 4, none⟩ = some (.int .i64 e') ∧ w'.cell? ⟨w.heap.size + 1, 5, none⟩ = some (.int .i64 f') ∧ w'.cell? ⟨w.heap.size + 1, 6, none⟩ = some (.int .i64 g') ∧ w'.cell? ⟨w.heap.size + 1, 7, none⟩ = some (.int .i64 h') ∧ w'.cell? ⟨w.heap.size + 1, 8, none⟩ = some (.int .i64 n') ∧ w'.cell? ⟨w.heap.size + 1, 9, none⟩ = some (ob') ∧ w'.cell? ⟨w.heap.size + 1, 10, none⟩ = some (.int .u64 (s' : Int)) ∧ w'.cell? ⟨w.heap.size + 1, 11, none⟩ = some (rg') ∧ w'.cell? ⟨w.heap.size + 1, 12, none⟩ = some (pg') ∧ w'.cell? ⟨w.heap.size + 1, 13, none⟩ = some (pk'))) (by kernel_rfl) ?_ (fun hHeld => ?_)
  · exact (by exact HX.out.two HY.out HBC.out)
  refine tkH 0 ⟨some 5, .load 30 (.tmp 2), 30, "plan.go:123", #[], none⟩ (h := ?_)
  refine tkH 2 ⟨some 7, .load 30 (.tmp 3), 30, "plan.go:123", #[], none⟩ (h := ?_)
  refine wpAnyH_ready (rs := [1]) (by kernel_rfl) (by simp) ?_
  refine AllReadyH.cons rfl (fun K hK => ?_) AllReadyH.nil
  go_simp
  go_at_call 49
  (with_reducible refine (numbersOf_any a b c d e f g h n ob s rg pg pk _).mono ?_)
  rintro x w4 ⟨rfl, hb⟩
  have HBC := hide (bcall HBC.out hb)
  clear hb
  (try go_simp)
  refine hK.out _ _ (by exact HX.out.two HY.out HBC.out) (fun hHeld => ?_)
  (try simp only [Act.put, List.setIfInBounds_toArray, List.set_cons_zero, List.set_cons_succ])
  refine wpAnyH_ready (rs := [3]) (by kernel_rfl) (by simp) ?_
  refine AllReadyH.cons rfl (fun K hK => ?_) AllReadyH.nil
  go_simp
  go_at_call 49
  (with_reducible refine (numbersOf_any a' b' c' d' e' f' g' h' n' ob' s' rg' pg' pk' _).mono ?_)
  rintro x w4 ⟨rfl, hb⟩
  have HBC := hide (bcall HBC.out hb)
  clear hb
  (try go_simp)
  refine hK.out _ _ (by exact HX.out.two HY.out HBC.out) (fun hHeld => ?_)
  (try simp only [Act.put, List.setIfInBounds_toArray, List.set_cons_zero, List.set_cons_succ])
  refine tkH 4 ⟨some 9, .binOp .eql 99 (.tmp 6) (.tmp 8) 99, 4, "plan.go:123", #[⟨1, .data⟩, ⟨3, .data⟩], none⟩ (h := ?_)
  refine tkH 5 ⟨some 10, .move (.tmp 9), 4, "plan.go:123", #[⟨4, .data⟩, ⟨3, .chain⟩], none⟩ (h := ?_)
  refine tkH 6 ⟨some 11, .fieldAddr 30 (.tmp 2) 8, 0, "plan.go:123", #[⟨5, .guard⟩], some (5, true)⟩ (h := ?_)
  refine tkH 7 ⟨some 12, .load 24 (.tmp 11), 24, "plan.go:123", #[⟨6, .data⟩, ⟨5, .guard⟩], some (5, true)⟩ (h := ?_)
  refine tkH 8 ⟨some 13, .fieldAddr 30 (.tmp 3) 8, 0, "plan.go:123", #[⟨5, .guard⟩], some (5, true)⟩ (h := ?_)
  refine tkH 9 ⟨some 14, .load 24 (.tmp 13), 24, "plan.go:123", #[⟨8, .data⟩, ⟨5, .guard⟩], some (5, true)⟩ (h := ?_)
  refine wpAnyH_ready (rs := [10]) (by kernel_rfl) (by simp) ?_
  refine AllReadyH.cons rfl (fun K hK => ?_) AllReadyH.nil
  go_simp
  go_at_call 50
  (with_reducible refine (Same_cHp n n' ob ob' lo lo' _ (HP.out.ob.below HBC.out) (HR.out.ob.below HBC.out) _ Q1.out).mono ?_)
  rintro x w4 ⟨rfl, hb⟩
  have HBC := hide (bcall HBC.out hb)
  clear hb
  (try go_simp)
  refine hK.out _ _ (by exact HX.out.two HY.out HBC.out) (fun hHeld => ?_)
  (try simp only [Act.put, List.setIfInBounds_toArray, List.set_cons_zero, List.set_cons_succ])
  refine tkH 11 ⟨some 16, .pick (.tmp 10) (.tmp 15) (.const (.bool false)), 4, "plan.go:123", #[⟨5, .data⟩, ⟨10, .data⟩], none⟩ (h := ?_)
  refine tkH 12 ⟨some 17, .move (.tmp 16), 4, "plan.go:123", #[⟨11, .data⟩, ⟨10, .chain⟩], none⟩ (h := ?_)
  refine tkH 13 ⟨some 18, .fieldAddr 30 (.tmp 2) 9, 0, "plan.go:123", #[⟨12, .guard⟩], some (12, true)⟩ (h := ?_)
  refine tkH 14 ⟨some 19, .load 26 (.tmp 18), 26, "plan.go:123", #[⟨13, .data⟩, ⟨12, .guard⟩], some (12, true)⟩ (h := ?_)
  refine tkH 15 ⟨some 20, .fieldAddr 30 (.tmp 3) 9, 0, "plan.go:123", #[⟨12, .guard⟩], some (12, true)⟩ (h := ?_)
  refine tkH 16 ⟨some 21, .load 26 (.tmp 20), 26, "plan.go:123", #[⟨15, .data⟩, ⟨12, .guard⟩], some (12, true)⟩ (h := ?_)
  refine tkH 17 ⟨some 22, .binOp .eql 26 (.tmp 19) (.tmp 21) 26, 4, "plan.go:123", #[⟨14, .data⟩, ⟨16, .data⟩, ⟨12, .guard⟩], some (12, true)⟩ (h := ?_)
  refine tkH 18 ⟨some 23, .pick (.tmp 17) (.tmp 22) (.const (.bool false)), 4, "plan.go:123", #[⟨12, .data⟩, ⟨17, .data⟩], none⟩ (h := ?_)
  refine tkH 19 ⟨some 24, .move (.tmp 23), 4, "plan.go:123", #[⟨18, .data⟩, ⟨12, .chain⟩], none⟩ (h := ?_)
  refine tkU 20 ⟨some 25, .fieldAddr 30 (.tmp 2) 10, 0, "plan.go:123", #[⟨19, .guard⟩], some (19, true)⟩ (h := ?_)
  refine tkU 21 ⟨some 26, .load 22 (.tmp 25), 22, "plan.go:123", #[⟨20, .data⟩, ⟨19, .guard⟩], some (19, true)⟩ (h := ?_)
  refine tkU 22 ⟨some 27, .fieldAddr 30 (.tmp 3) 10, 0, "plan.go:123", #[⟨19, .guard⟩], some (19, true)⟩ (h := ?_)
  refine tkU 23 ⟨some 28, .load 22 (.tmp 27), 22, "plan.go:123", #[⟨22, .data⟩, ⟨19, .guard⟩], some (19, true)⟩ (h := ?_)
  refine tkU 24 ⟨some 29, .call { callee := .value (.func 51), args := #[.tmp 26, .tmp 28, .func 52], argTypes := #[22, 22, 103] }, 4, "plan.go:126", #[⟨21, .data⟩, ⟨23, .data⟩, ⟨19, .chain⟩, ⟨19, .guard⟩], some (19, true)⟩ (h := ?_)
  refine tkH 25 ⟨some 30, .pick (.tmp 24) (.tmp 29) (.const (.bool false)), 4, "plan.go:123", #[⟨19, .data⟩, ⟨24, .data⟩], none⟩ (h := ?_)
  refine tkH 26 ⟨some 31, .move (.tmp 30), 4, "plan.go:123", #[⟨25, .data⟩, ⟨24, .chain⟩], none⟩ (h := ?_)
  refine tkU 27 ⟨some 32, .fieldAddr 30 (.tmp 2) 11, 0, "plan.go:123", #[⟨26, .guard⟩], some (26, true)⟩ (h := ?_)
  refine tkU 28 ⟨some 33, .load 27 (.tmp 32), 27, "plan.go:123", #[⟨27, .data⟩, ⟨26, .guard⟩], some (26, true)⟩ (h := ?_)
  refine tkU 29 ⟨some 34, .fieldAddr 30 (.tmp 3) 11, 0, "plan.go:123", #[⟨26, .guard⟩], some (26, true)⟩ (h := ?_)
  refine tkU 30 ⟨some 35, .load 27 (.tmp 34), 27, "plan.go:123", #[⟨29, .data⟩, ⟨26, .guard⟩], some (26, true)⟩ (h := ?_)
  refine tkU 31 ⟨some 36, .call { callee := .value (.func 53), args := #[.tmp 33, .tmp 35, .func 54], argTypes := #[27, 27, 105] }, 4, "plan.go:127", #[⟨28, .data⟩, ⟨30, .data⟩, ⟨26, .chain⟩, ⟨26, .guard⟩], some (26, true)⟩ (h := ?_)
  refine tkH 32 ⟨some 37, .pick (.tmp 31) (.tmp 36) (.const (.bool false)), 4, "plan.go:123", #[⟨26, .data⟩, ⟨31, .data⟩], none⟩ (h := ?_)
  refine tkH 33 ⟨some 38, .move (.tmp 37), 4, "plan.go:123", #[⟨32, .data⟩, ⟨31, .chain⟩], none⟩ (h := ?_)
  refine tkU 34 ⟨some 39, .fieldAddr 30 (.tmp 2) 12, 0, "plan.go:123", #[⟨33, .guard⟩], some (33, true)⟩ (h := ?_)
  refine tkU 35 ⟨some 40, .load 28 (.tmp 39), 28, "plan.go:123", #[⟨34, .data⟩, ⟨33, .guard⟩], some (33, true)⟩ (h := ?_)
  refine tkU 36 ⟨some 41, .fieldAddr 30 (.tmp 3) 12, 0, "plan.go:123", #[⟨33, .guard⟩], some (33, true)⟩ (h := ?_)
  refine tkU 37 ⟨some 42, .load 28 (.tmp 41), 28, "plan.go:123", #[⟨36, .data⟩, ⟨33, .guard⟩], some (33, true)⟩ (h := ?_)
  refine tkU 38 ⟨some 43, .call { callee := .value (.func 55), args := #[.tmp 40, .tmp 42], argTypes := #[28, 28] }, 4, "plan.go:128", #[⟨35, .data⟩, ⟨37, .data⟩, ⟨33, .chain⟩, ⟨33, .guard⟩], some (33, true)⟩ (h := ?_)
  refine tkH 39 ⟨some 44, .pick (.tmp 38) (.tmp 43) (.const (.bool false)), 4, "plan.go:123", #[⟨33, .data⟩, ⟨38, .data⟩], none⟩ (h := ?_)
  refine tkH 40 ⟨some 4, .assign (.tmp 44), 4, "plan.go:123", #[⟨39, .data⟩, ⟨38, .chain⟩, ⟨0, .phase⟩, ⟨1, .phase⟩, ⟨2, .phase⟩, ⟨3, .phase⟩, ⟨4, .phase⟩, ⟨5, .phase⟩, ⟨6, .phase⟩, ⟨7, .phase⟩, ⟨8, .phase⟩, ⟨9, .phase⟩, ⟨10, .phase⟩, ⟨11, .phase⟩, ⟨12, .phase⟩, ⟨13, .phase⟩, ⟨14, .phase⟩, ⟨15, .phase⟩, ⟨16, .phase⟩, ⟨17, .phase⟩, ⟨18, .phase⟩, ⟨19, .phase⟩, ⟨20, .phase⟩, ⟨21, .phase⟩, ⟨22, .phase⟩, ⟨23, .phase⟩, ⟨24, .phase⟩, ⟨25, .phase⟩, ⟨26, .phase⟩, ⟨27, .phase⟩, ⟨28, .phase⟩, ⟨29, .phase⟩, ⟨30, .phase⟩, ⟨31, .phase⟩, ⟨32, .phase⟩, ⟨33, .phase⟩, ⟨34, .phase⟩, ⟨35, .phase⟩, ⟨36, .phase⟩, ⟨37, .phase⟩, ⟨38, .phase⟩, ⟨39, .phase⟩], none⟩ (h := ?_)
  refine wpAnyH_done (by kernel_rfl) ?_ _
  go_wp2
  go_ret
  exact ⟨rfl, bcall HB2.out HBC.out⟩
set_option maxRecDepth 100000 in
set_option maxHeartbeats 40000000 in
theorem pSame_3 (a b c d e f g h n : Int) (ob : Value) (s : Nat) (rg pg pk : Value) (lo lr : Rws) (lp : List (List Oq)) (lk : List PP) (a' b' c' d' e' f' g' h' n' : Int) (ob' : Value) (s' : Nat) (rg' pg' pk' : Value) (lo' lr' : Rws) (lp' : List (List Oq)) (lk' : List PP) (w w2 : World) (HE : Hid ((w.alloc (.cells #[.int .i64 a, .int .i64 b, .int .i64 c, .int .i64 d, .int .i64 e, .int .i64 f, .int .i64 g, .int .i64 h, .int .i64 n, ob, .int .u64 (s : Int), rg, pg, pk] 30)).alloc (.cells #[.int .i64 a', .int .i64 b', .int .i64 c', .int .i64 d', .int .i64 e', .int .i64 f', .int .i64 g', .int .i64 h', .int .i64 n', ob', .int .u64 (s' : Int), rg', pg', pk'] 30) = w2)) (HB2 : Hid (Below w.heap.size w w2))
    (HX : Hid (Bp 30 w2 w.heap.size a b c d e f g h n ob s rg pg pk)) (HY : Hid (Bp 30 w2 (w.heap.size + 1) a' b' c' d' e' f' g' h' n' ob' s' rg' pg' pk')) (HP : Hid (PlanR w2 ob rg pg pk ⟨a, b, c, d, e, f, g, h, n, lo, s, lr, lp, lk⟩)) (HR : Hid (PlanR w2 ob' rg' pg' pk' ⟨a', b', c', d', e', f', g', h', n', lo', s', lr', lp', lk'⟩)) (Q0 : Hid ((decide ([a, b, c, d, e, f, g, h] = [a', b', c', d', e', f', g', h'])) = true)) (Q1 : Hid ((sameF n lo n' lo') = true)) (Q2 : Hid ((decide (s = s')) = true)) (Q3 : Hid ((decide (lr = lr')) = false)) :
    Calls Tryz.prog 14 #[planV a b c d e f g h n ob s rg pg pk, planV a' b' c' d' e' f' g' h' n' ob' s' rg' pg' pk'] w fun x w' => x = .returned (.bool false) ∧ Below w.heap.size w w' := by
  have HBC := hide (belowD (Below.refl w2.heap.size w2))
  have hq0 := eql_nums a b c d e f g h a' b' c' d' e' f' g' h'
  rw [Q0.out] at hq0
  have e2 : ((s : Int) == (s' : Int)) = true := by have q := Q2.out; rw [decide_eq_true_eq] at q; rw [beq_iff_eq, q]
  unfold planV
  go_enter Tryz.func14, Tryz.ntmps14
  go_wp2
  rw [HE.out]
  refine wp_region_held_drew (S := fun w' => (w'.cell? ⟨w.heap.size, 0, none⟩ = some (.int .i64 a) ∧ w'.cell? ⟨w.heap.size, 1, none⟩ = some (.int .i64 b) ∧ w'.cell? ⟨w.heap.size, 2, none⟩ = some (.int .i64 c) ∧ w'.cell? ⟨w.heap.size, 3, none⟩ = some (.int .i64 d) ∧ w'.cell? ⟨w.heap.size, 4, none⟩ = some (.int .i64 e) ∧ w'.cell? ⟨w.heap.size, 5, none⟩ = some (.int .i64 f) ∧ w'.cell? ⟨w.heap.size, 6, none⟩ = some (.int .i64 g) ∧ w'.cell? ⟨w.heap.size, 7, none⟩ = some (.int .i64 h) ∧ w'.cell? ⟨w.heap.size, 8, none⟩ = some (.int .i64 n) ∧ w'.cell? ⟨w.heap.size, 9, none⟩ = some (ob) ∧ w'.cell? ⟨w.heap.size, 10, none⟩ = some (.int .u64 (s : Int)) ∧ w'.cell? ⟨w.heap.size, 11, none⟩ = some (rg) ∧ w'.cell? ⟨w.heap.size, 12, none⟩ = some (pg) ∧ w'.cell? ⟨w.heap.size, 13, none⟩ = some (pk)) ∧ (w'.cell? ⟨w.heap.size + 1, 0, none⟩ = some (.int .i64 a') ∧ w'.cell? ⟨w.heap.size + 1, 1, none⟩ = some (.int .i64 b') ∧ w'.cell? ⟨w.heap.size + 1, 2, none⟩ = some (.int .i64 c') ∧ w'.cell? ⟨w.heap.size + 1, 3, none⟩ = some (.int .i64 d') ∧ w'.cell? ⟨w.heap.size + 1, 4, none⟩ = some (.int .i64 e') ∧ w'.cell? ⟨w.heap.size + 1, 5, none⟩ = some (.int .i64 f') ∧ w'.cell? ⟨w.heap.size + 1, 6, none⟩ = some (.int .i64 g') ∧ w'.cell? ⟨w.heap.size + 1, 7, none⟩ = some (.int .i64 h') ∧ w'.cell? ⟨w.heap.size + 1, 8, none⟩ = some (.int .i64 n') ∧ w'.cell? ⟨w.heap.size + 1, 9, none⟩ = some (ob') ∧ w'.cell? ⟨w.heap.size + 1, 10, none⟩ = some (.int .u64 (s' : Int)) ∧ w'.cell? ⟨w.heap.size + 1, 11, none⟩ = some (rg') ∧ w'.cell? ⟨w.heap.size + 1, 12, none⟩ = some (pg') ∧ w'.cell? ⟨w.heap.size + 1, 13, none⟩ = some (pk'))) (by kernel_rfl) ?_ (fun hHeld => ?_)
  · exact (by exact HX.out.two HY.out HBC.out)
  refine tkH 0 ⟨some 5, .load 30 (.tmp 2), 30, "plan.go:123", #[], none⟩ (h := ?_)
  refine tkH 2 ⟨some 7, .load 30 (.tmp 3), 30, "plan.go:123", #[], none⟩ (h := ?_)
  refine wpAnyH_ready (rs := [1]) (by kernel_rfl) (by simp) ?_
  refine AllReadyH.cons rfl (fun K hK => ?_) AllReadyH.nil
  go_simp
  go_at_call 49
  (with_reducible refine (numbersOf_any a b c d e f g h n ob s rg pg pk _).mono ?_)
  rintro x w4 ⟨rfl, hb⟩
  have HBC := hide (bcall HBC.out hb)
  clear hb
  (try go_simp)
  refine hK.out _ _ (by exact HX.out.two HY.out HBC.out) (fun hHeld => ?_)
  (try simp only [Act.put, List.setIfInBounds_toArray, List.set_cons_zero, List.set_cons_succ])
  refine wpAnyH_ready (rs := [3]) (by kernel_rfl) (by simp) ?_
  refine AllReadyH.cons rfl (fun K hK => ?_) AllReadyH.nil
  go_simp
  go_at_call 49
  (with_reducible refine (numbersOf_any a' b' c' d' e' f' g' h' n' ob' s' rg' pg' pk' _).mono ?_)
  rintro x w4 ⟨rfl, hb⟩
  have HBC := hide (bcall HBC.out hb)
  clear hb
  (try go_simp)
  refine hK.out _ _ (by exact HX.out.two HY.out HBC.out) (fun hHeld => ?_)
  (try simp only [Act.put, List.setIfInBounds_toArray, List.set_cons_zero, List.set_cons_succ])
  refine tkH 4 ⟨some 9, .binOp .eql 99 (.tmp 6) (.tmp 8) 99, 4, "plan.go:123", #[⟨1, .data⟩, ⟨3, .data⟩], none⟩ (h := ?_)
  refine tkH 5 ⟨some 10, .move (.tmp 9), 4, "plan.go:123", #[⟨4, .data⟩, ⟨3, .chain⟩], none⟩ (h := ?_)
  refine tkH 6 ⟨some 11, .fieldAddr 30 (.tmp 2) 8, 0, "plan.go:123", #[⟨5, .guard⟩], some (5, true)⟩ (h := ?_)
  refine tkH 7 ⟨some 12, .load 24 (.tmp 11), 24, "plan.go:123", #[⟨6, .data⟩, ⟨5, .guard⟩], some (5, true)⟩ (h := ?_)
  refine tkH 8 ⟨some 13, .fieldAddr 30 (.tmp 3) 8, 0, "plan.go:123", #[⟨5, .guard⟩], some (5, true)⟩ (h := ?_)
  refine tkH 9 ⟨some 14, .load 24 (.tmp 13), 24, "plan.go:123", #[⟨8, .data⟩, ⟨5, .guard⟩], some (5, true)⟩ (h := ?_)
  refine wpAnyH_ready (rs := [10]) (by kernel_rfl) (by simp) ?_
  refine AllReadyH.cons rfl (fun K hK => ?_) AllReadyH.nil
  go_simp
  go_at_call 50
  (with_reducible refine (Same_cHp n n' ob ob' lo lo' _ (HP.out.ob.below HBC.out) (HR.out.ob.below HBC.out) _ Q1.out).mono ?_)
  rintro x w4 ⟨rfl, hb⟩
  have HBC := hide (bcall HBC.out hb)
  clear hb
  (try go_simp)
  refine hK.out _ _ (by exact HX.out.two HY.out HBC.out) (fun hHeld => ?_)
  (try simp only [Act.put, List.setIfInBounds_toArray, List.set_cons_zero, List.set_cons_succ])
  refine tkH 11 ⟨some 16, .pick (.tmp 10) (.tmp 15) (.const (.bool false)), 4, "plan.go:123", #[⟨5, .data⟩, ⟨10, .data⟩], none⟩ (h := ?_)
  refine tkH 12 ⟨some 17, .move (.tmp 16), 4, "plan.go:123", #[⟨11, .data⟩, ⟨10, .chain⟩], none⟩ (h := ?_)
  refine tkH 13 ⟨some 18, .fieldAddr 30 (.tmp 2) 9, 0, "plan.go:123", #[⟨12, .guard⟩], some (12, true)⟩ (h := ?_)
  refine tkH 14 ⟨some 19, .load 26 (.tmp 18), 26, "plan.go:123", #[⟨13, .data⟩, ⟨12, .guard⟩], some (12, true)⟩ (h := ?_)
  refine tkH 15 ⟨some 20, .fieldAddr 30 (.tmp 3) 9, 0, "plan.go:123", #[⟨12, .guard⟩], some (12, true)⟩ (h := ?_)
  refine tkH 16 ⟨some 21, .load 26 (.tmp 20), 26, "plan.go:123", #[⟨15, .data⟩, ⟨12, .guard⟩], some (12, true)⟩ (h := ?_)
  refine tkH 17 ⟨some 22, .binOp .eql 26 (.tmp 19) (.tmp 21) 26, 4, "plan.go:123", #[⟨14, .data⟩, ⟨16, .data⟩, ⟨12, .guard⟩], some (12, true)⟩ (h := ?_)
  refine tkH 18 ⟨some 23, .pick (.tmp 17) (.tmp 22) (.const (.bool false)), 4, "plan.go:123", #[⟨12, .data⟩, ⟨17, .data⟩], none⟩ (h := ?_)
  refine tkH 19 ⟨some 24, .move (.tmp 23), 4, "plan.go:123", #[⟨18, .data⟩, ⟨12, .chain⟩], none⟩ (h := ?_)
  refine tkH 20 ⟨some 25, .fieldAddr 30 (.tmp 2) 10, 0, "plan.go:123", #[⟨19, .guard⟩], some (19, true)⟩ (h := ?_)
  refine tkH 21 ⟨some 26, .load 22 (.tmp 25), 22, "plan.go:123", #[⟨20, .data⟩, ⟨19, .guard⟩], some (19, true)⟩ (h := ?_)
  refine tkH 22 ⟨some 27, .fieldAddr 30 (.tmp 3) 10, 0, "plan.go:123", #[⟨19, .guard⟩], some (19, true)⟩ (h := ?_)
  refine tkH 23 ⟨some 28, .load 22 (.tmp 27), 22, "plan.go:123", #[⟨22, .data⟩, ⟨19, .guard⟩], some (19, true)⟩ (h := ?_)
  refine wpAnyH_ready (rs := [24]) (by kernel_rfl) (by simp) ?_
  refine AllReadyH.cons rfl (fun K hK => ?_) AllReadyH.nil
  go_simp
  go_at_call 51
  (with_reducible refine (EqualFunc_rows rg rg' lr lr' _ (HP.out.rg.below HBC.out) (HR.out.rg.below HBC.out)).mono ?_)
  rintro x w4 ⟨rfl, hb⟩
  rw [Q3.out]
  have HBC := hide (bcall HBC.out hb)
  clear hb
  (try go_simp)
  refine hK.out _ _ (by exact HX.out.two HY.out HBC.out) (fun hHeld => ?_)
  (try simp only [Act.put, List.setIfInBounds_toArray, List.set_cons_zero, List.set_cons_succ])
  refine tkH 25 ⟨some 30, .pick (.tmp 24) (.tmp 29) (.const (.bool false)), 4, "plan.go:123", #[⟨19, .data⟩, ⟨24, .data⟩], none⟩ (h := ?_)
  refine tkH 26 ⟨some 31, .move (.tmp 30), 4, "plan.go:123", #[⟨25, .data⟩, ⟨24, .chain⟩], none⟩ (h := ?_)
  refine tkU 27 ⟨some 32, .fieldAddr 30 (.tmp 2) 11, 0, "plan.go:123", #[⟨26, .guard⟩], some (26, true)⟩ (h := ?_)
  refine tkU 28 ⟨some 33, .load 27 (.tmp 32), 27, "plan.go:123", #[⟨27, .data⟩, ⟨26, .guard⟩], some (26, true)⟩ (h := ?_)
  refine tkU 29 ⟨some 34, .fieldAddr 30 (.tmp 3) 11, 0, "plan.go:123", #[⟨26, .guard⟩], some (26, true)⟩ (h := ?_)
  refine tkU 30 ⟨some 35, .load 27 (.tmp 34), 27, "plan.go:123", #[⟨29, .data⟩, ⟨26, .guard⟩], some (26, true)⟩ (h := ?_)
  refine tkU 31 ⟨some 36, .call { callee := .value (.func 53), args := #[.tmp 33, .tmp 35, .func 54], argTypes := #[27, 27, 105] }, 4, "plan.go:127", #[⟨28, .data⟩, ⟨30, .data⟩, ⟨26, .chain⟩, ⟨26, .guard⟩], some (26, true)⟩ (h := ?_)
  refine tkH 32 ⟨some 37, .pick (.tmp 31) (.tmp 36) (.const (.bool false)), 4, "plan.go:123", #[⟨26, .data⟩, ⟨31, .data⟩], none⟩ (h := ?_)
  refine tkH 33 ⟨some 38, .move (.tmp 37), 4, "plan.go:123", #[⟨32, .data⟩, ⟨31, .chain⟩], none⟩ (h := ?_)
  refine tkU 34 ⟨some 39, .fieldAddr 30 (.tmp 2) 12, 0, "plan.go:123", #[⟨33, .guard⟩], some (33, true)⟩ (h := ?_)
  refine tkU 35 ⟨some 40, .load 28 (.tmp 39), 28, "plan.go:123", #[⟨34, .data⟩, ⟨33, .guard⟩], some (33, true)⟩ (h := ?_)
  refine tkU 36 ⟨some 41, .fieldAddr 30 (.tmp 3) 12, 0, "plan.go:123", #[⟨33, .guard⟩], some (33, true)⟩ (h := ?_)
  refine tkU 37 ⟨some 42, .load 28 (.tmp 41), 28, "plan.go:123", #[⟨36, .data⟩, ⟨33, .guard⟩], some (33, true)⟩ (h := ?_)
  refine tkU 38 ⟨some 43, .call { callee := .value (.func 55), args := #[.tmp 40, .tmp 42], argTypes := #[28, 28] }, 4, "plan.go:128", #[⟨35, .data⟩, ⟨37, .data⟩, ⟨33, .chain⟩, ⟨33, .guard⟩], some (33, true)⟩ (h := ?_)
  refine tkH 39 ⟨some 44, .pick (.tmp 38) (.tmp 43) (.const (.bool false)), 4, "plan.go:123", #[⟨33, .data⟩, ⟨38, .data⟩], none⟩ (h := ?_)
  refine tkH 40 ⟨some 4, .assign (.tmp 44), 4, "plan.go:123", #[⟨39, .data⟩, ⟨38, .chain⟩, ⟨0, .phase⟩, ⟨1, .phase⟩, ⟨2, .phase⟩, ⟨3, .phase⟩, ⟨4, .phase⟩, ⟨5, .phase⟩, ⟨6, .phase⟩, ⟨7, .phase⟩, ⟨8, .phase⟩, ⟨9, .phase⟩, ⟨10, .phase⟩, ⟨11, .phase⟩, ⟨12, .phase⟩, ⟨13, .phase⟩, ⟨14, .phase⟩, ⟨15, .phase⟩, ⟨16, .phase⟩, ⟨17, .phase⟩, ⟨18, .phase⟩, ⟨19, .phase⟩, ⟨20, .phase⟩, ⟨21, .phase⟩, ⟨22, .phase⟩, ⟨23, .phase⟩, ⟨24, .phase⟩, ⟨25, .phase⟩, ⟨26, .phase⟩, ⟨27, .phase⟩, ⟨28, .phase⟩, ⟨29, .phase⟩, ⟨30, .phase⟩, ⟨31, .phase⟩, ⟨32, .phase⟩, ⟨33, .phase⟩, ⟨34, .phase⟩, ⟨35, .phase⟩, ⟨36, .phase⟩, ⟨37, .phase⟩, ⟨38, .phase⟩, ⟨39, .phase⟩], none⟩ (h := ?_)
  refine wpAnyH_done (by kernel_rfl) ?_ _
  go_wp2
  go_ret
  exact ⟨rfl, bcall HB2.out HBC.out⟩
set_option maxRecDepth 100000 in
set_option maxHeartbeats 40000000 in
theorem pSame_4 (a b c d e f g h n : Int) (ob : Value) (s : Nat) (rg pg pk : Value) (lo lr : Rws) (lp : List (List Oq)) (lk : List PP) (a' b' c' d' e' f' g' h' n' : Int) (ob' : Value) (s' : Nat) (rg' pg' pk' : Value) (lo' lr' : Rws) (lp' : List (List Oq)) (lk' : List PP) (w w2 : World) (HE : Hid ((w.alloc (.cells #[.int .i64 a, .int .i64 b, .int .i64 c, .int .i64 d, .int .i64 e, .int .i64 f, .int .i64 g, .int .i64 h, .int .i64 n, ob, .int .u64 (s : Int), rg, pg, pk] 30)).alloc (.cells #[.int .i64 a', .int .i64 b', .int .i64 c', .int .i64 d', .int .i64 e', .int .i64 f', .int .i64 g', .int .i64 h', .int .i64 n', ob', .int .u64 (s' : Int), rg', pg', pk'] 30) = w2)) (HB2 : Hid (Below w.heap.size w w2))
    (HX : Hid (Bp 30 w2 w.heap.size a b c d e f g h n ob s rg pg pk)) (HY : Hid (Bp 30 w2 (w.heap.size + 1) a' b' c' d' e' f' g' h' n' ob' s' rg' pg' pk')) (HP : Hid (PlanR w2 ob rg pg pk ⟨a, b, c, d, e, f, g, h, n, lo, s, lr, lp, lk⟩)) (HR : Hid (PlanR w2 ob' rg' pg' pk' ⟨a', b', c', d', e', f', g', h', n', lo', s', lr', lp', lk'⟩)) (Q0 : Hid ((decide ([a, b, c, d, e, f, g, h] = [a', b', c', d', e', f', g', h'])) = true)) (Q1 : Hid ((sameF n lo n' lo') = true)) (Q2 : Hid ((decide (s = s')) = true)) (Q3 : Hid ((decide (lr = lr')) = true)) (Q4 : Hid ((decide (lp = lp')) = false)) :
    Calls Tryz.prog 14 #[planV a b c d e f g h n ob s rg pg pk, planV a' b' c' d' e' f' g' h' n' ob' s' rg' pg' pk'] w fun x w' => x = .returned (.bool false) ∧ Below w.heap.size w w' := by
  have HBC := hide (belowD (Below.refl w2.heap.size w2))
  have hq0 := eql_nums a b c d e f g h a' b' c' d' e' f' g' h'
  rw [Q0.out] at hq0
  have e2 : ((s : Int) == (s' : Int)) = true := by have q := Q2.out; rw [decide_eq_true_eq] at q; rw [beq_iff_eq, q]
  unfold planV
  go_enter Tryz.func14, Tryz.ntmps14
  go_wp2
  rw [HE.out]
  refine wp_region_held_drew (S := fun w' => (w'.cell? ⟨w.heap.size, 0, none⟩ = some (.int .i64 a) ∧ w'.cell? ⟨w.heap.size, 1, none⟩ = some (.int .i64 b) ∧ w'.cell? ⟨w.heap.size, 2, none⟩ = some (.int .i64 c) ∧ w'.cell? ⟨w.heap.size, 3, none⟩ = some (.int .i64 d) ∧ w'.cell? ⟨w.heap.size, 4, none⟩ = some (.int .i64 e) ∧ w'.cell? ⟨w.heap.size, 5, none⟩ = some (.int .i64 f) ∧ w'.cell? ⟨w.heap.size, 6, none⟩ = some (.int .i64 g) ∧ w'.cell? ⟨w.heap.size, 7, none⟩ = some (.int .i64 h) ∧ w'.cell? ⟨w.heap.size, 8, none⟩ = some (.int .i64 n) ∧ w'.cell? ⟨w.heap.size, 9, none⟩ = some (ob) ∧ w'.cell? ⟨w.heap.size, 10, none⟩ = some (.int .u64 (s : Int)) ∧ w'.cell? ⟨w.heap.size, 11, none⟩ = some (rg) ∧ w'.cell? ⟨w.heap.size, 12, none⟩ = some (pg) ∧ w'.cell? ⟨w.heap.size, 13, none⟩ = some (pk)) ∧ (w'.cell? ⟨w.heap.size + 1, 0, none⟩ = some (.int .i64 a') ∧ w'.cell? ⟨w.heap.size + 1, 1, none⟩ = some (.int .i64 b') ∧ w'.cell? ⟨w.heap.size + 1, 2, none⟩ = some (.int .i64 c') ∧ w'.cell? ⟨w.heap.size + 1, 3, none⟩ = some (.int .i64 d') ∧ w'.cell? ⟨w.heap.size + 1, 4, none⟩ = some (.int .i64 e') ∧ w'.cell? ⟨w.heap.size + 1, 5, none⟩ = some (.int .i64 f') ∧ w'.cell? ⟨w.heap.size + 1, 6, none⟩ = some (.int .i64 g') ∧ w'.cell? ⟨w.heap.size + 1, 7, none⟩ = some (.int .i64 h') ∧ w'.cell? ⟨w.heap.size + 1, 8, none⟩ = some (.int .i64 n') ∧ w'.cell? ⟨w.heap.size + 1, 9, none⟩ = some (ob') ∧ w'.cell? ⟨w.heap.size + 1, 10, none⟩ = some (.int .u64 (s' : Int)) ∧ w'.cell? ⟨w.heap.size + 1, 11, none⟩ = some (rg') ∧ w'.cell? ⟨w.heap.size + 1, 12, none⟩ = some (pg') ∧ w'.cell? ⟨w.heap.size + 1, 13, none⟩ = some (pk'))) (by kernel_rfl) ?_ (fun hHeld => ?_)
  · exact (by exact HX.out.two HY.out HBC.out)
  refine tkH 0 ⟨some 5, .load 30 (.tmp 2), 30, "plan.go:123", #[], none⟩ (h := ?_)
  refine tkH 2 ⟨some 7, .load 30 (.tmp 3), 30, "plan.go:123", #[], none⟩ (h := ?_)
  refine wpAnyH_ready (rs := [1]) (by kernel_rfl) (by simp) ?_
  refine AllReadyH.cons rfl (fun K hK => ?_) AllReadyH.nil
  go_simp
  go_at_call 49
  (with_reducible refine (numbersOf_any a b c d e f g h n ob s rg pg pk _).mono ?_)
  rintro x w4 ⟨rfl, hb⟩
  have HBC := hide (bcall HBC.out hb)
  clear hb
  (try go_simp)
  refine hK.out _ _ (by exact HX.out.two HY.out HBC.out) (fun hHeld => ?_)
  (try simp only [Act.put, List.setIfInBounds_toArray, List.set_cons_zero, List.set_cons_succ])
  refine wpAnyH_ready (rs := [3]) (by kernel_rfl) (by simp) ?_
  refine AllReadyH.cons rfl (fun K hK => ?_) AllReadyH.nil
  go_simp
  go_at_call 49
  (with_reducible refine (numbersOf_any a' b' c' d' e' f' g' h' n' ob' s' rg' pg' pk' _).mono ?_)
  rintro x w4 ⟨rfl, hb⟩
  have HBC := hide (bcall HBC.out hb)
  clear hb
  (try go_simp)
  refine hK.out _ _ (by exact HX.out.two HY.out HBC.out) (fun hHeld => ?_)
  (try simp only [Act.put, List.setIfInBounds_toArray, List.set_cons_zero, List.set_cons_succ])
  refine tkH 4 ⟨some 9, .binOp .eql 99 (.tmp 6) (.tmp 8) 99, 4, "plan.go:123", #[⟨1, .data⟩, ⟨3, .data⟩], none⟩ (h := ?_)
  refine tkH 5 ⟨some 10, .move (.tmp 9), 4, "plan.go:123", #[⟨4, .data⟩, ⟨3, .chain⟩], none⟩ (h := ?_)
  refine tkH 6 ⟨some 11, .fieldAddr 30 (.tmp 2) 8, 0, "plan.go:123", #[⟨5, .guard⟩], some (5, true)⟩ (h := ?_)
  refine tkH 7 ⟨some 12, .load 24 (.tmp 11), 24, "plan.go:123", #[⟨6, .data⟩, ⟨5, .guard⟩], some (5, true)⟩ (h := ?_)
  refine tkH 8 ⟨some 13, .fieldAddr 30 (.tmp 3) 8, 0, "plan.go:123", #[⟨5, .guard⟩], some (5, true)⟩ (h := ?_)
  refine tkH 9 ⟨some 14, .load 24 (.tmp 13), 24, "plan.go:123", #[⟨8, .data⟩, ⟨5, .guard⟩], some (5, true)⟩ (h := ?_)
  refine wpAnyH_ready (rs := [10]) (by kernel_rfl) (by simp) ?_
  refine AllReadyH.cons rfl (fun K hK => ?_) AllReadyH.nil
  go_simp
  go_at_call 50
  (with_reducible refine (Same_cHp n n' ob ob' lo lo' _ (HP.out.ob.below HBC.out) (HR.out.ob.below HBC.out) _ Q1.out).mono ?_)
  rintro x w4 ⟨rfl, hb⟩
  have HBC := hide (bcall HBC.out hb)
  clear hb
  (try go_simp)
  refine hK.out _ _ (by exact HX.out.two HY.out HBC.out) (fun hHeld => ?_)
  (try simp only [Act.put, List.setIfInBounds_toArray, List.set_cons_zero, List.set_cons_succ])
  refine tkH 11 ⟨some 16, .pick (.tmp 10) (.tmp 15) (.const (.bool false)), 4, "plan.go:123", #[⟨5, .data⟩, ⟨10, .data⟩], none⟩ (h := ?_)
  refine tkH 12 ⟨some 17, .move (.tmp 16), 4, "plan.go:123", #[⟨11, .data⟩, ⟨10, .chain⟩], none⟩ (h := ?_)
  refine tkH 13 ⟨some 18, .fieldAddr 30 (.tmp 2) 9, 0, "plan.go:123", #[⟨12, .guard⟩], some (12, true)⟩ (h := ?_)
  refine tkH 14 ⟨some 19, .load 26 (.tmp 18), 26, "plan.go:123", #[⟨13, .data⟩, ⟨12, .guard⟩], some (12, true)⟩ (h := ?_)
  refine tkH 15 ⟨some 20, .fieldAddr 30 (.tmp 3) 9, 0, "plan.go:123", #[⟨12, .guard⟩], some (12, true)⟩ (h := ?_)
  refine tkH 16 ⟨some 21, .load 26 (.tmp 20), 26, "plan.go:123", #[⟨15, .data⟩, ⟨12, .guard⟩], some (12, true)⟩ (h := ?_)
  refine tkH 17 ⟨some 22, .binOp .eql 26 (.tmp 19) (.tmp 21) 26, 4, "plan.go:123", #[⟨14, .data⟩, ⟨16, .data⟩, ⟨12, .guard⟩], some (12, true)⟩ (h := ?_)
  refine tkH 18 ⟨some 23, .pick (.tmp 17) (.tmp 22) (.const (.bool false)), 4, "plan.go:123", #[⟨12, .data⟩, ⟨17, .data⟩], none⟩ (h := ?_)
  refine tkH 19 ⟨some 24, .move (.tmp 23), 4, "plan.go:123", #[⟨18, .data⟩, ⟨12, .chain⟩], none⟩ (h := ?_)
  refine tkH 20 ⟨some 25, .fieldAddr 30 (.tmp 2) 10, 0, "plan.go:123", #[⟨19, .guard⟩], some (19, true)⟩ (h := ?_)
  refine tkH 21 ⟨some 26, .load 22 (.tmp 25), 22, "plan.go:123", #[⟨20, .data⟩, ⟨19, .guard⟩], some (19, true)⟩ (h := ?_)
  refine tkH 22 ⟨some 27, .fieldAddr 30 (.tmp 3) 10, 0, "plan.go:123", #[⟨19, .guard⟩], some (19, true)⟩ (h := ?_)
  refine tkH 23 ⟨some 28, .load 22 (.tmp 27), 22, "plan.go:123", #[⟨22, .data⟩, ⟨19, .guard⟩], some (19, true)⟩ (h := ?_)
  refine wpAnyH_ready (rs := [24]) (by kernel_rfl) (by simp) ?_
  refine AllReadyH.cons rfl (fun K hK => ?_) AllReadyH.nil
  go_simp
  go_at_call 51
  (with_reducible refine (EqualFunc_rows rg rg' lr lr' _ (HP.out.rg.below HBC.out) (HR.out.rg.below HBC.out)).mono ?_)
  rintro x w4 ⟨rfl, hb⟩
  rw [Q3.out]
  have HBC := hide (bcall HBC.out hb)
  clear hb
  (try go_simp)
  refine hK.out _ _ (by exact HX.out.two HY.out HBC.out) (fun hHeld => ?_)
  (try simp only [Act.put, List.setIfInBounds_toArray, List.set_cons_zero, List.set_cons_succ])
  refine tkH 25 ⟨some 30, .pick (.tmp 24) (.tmp 29) (.const (.bool false)), 4, "plan.go:123", #[⟨19, .data⟩, ⟨24, .data⟩], none⟩ (h := ?_)
  refine tkH 26 ⟨some 31, .move (.tmp 30), 4, "plan.go:123", #[⟨25, .data⟩, ⟨24, .chain⟩], none⟩ (h := ?_)
  refine tkH 27 ⟨some 32, .fieldAddr 30 (.tmp 2) 11, 0, "plan.go:123", #[⟨26, .guard⟩], some (26, true)⟩ (h := ?_)
  refine tkH 28 ⟨some 33, .load 27 (.tmp 32), 27, "plan.go:123", #[⟨27, .data⟩, ⟨26, .guard⟩], some (26, true)⟩ (h := ?_)
  refine tkH 29 ⟨some 34, .fieldAddr 30 (.tmp 3) 11, 0, "plan.go:123", #[⟨26, .guard⟩], some (26, true)⟩ (h := ?_)
  refine tkH 30 ⟨some 35, .load 27 (.tmp 34), 27, "plan.go:123", #[⟨29, .data⟩, ⟨26, .guard⟩], some (26, true)⟩ (h := ?_)
  refine wpAnyH_ready (rs := [31]) (by kernel_rfl) (by simp) ?_
  refine AllReadyH.cons rfl (fun K hK => ?_) AllReadyH.nil
  go_simp
  go_at_call 53
  (with_reducible refine (EqualFunc_ops pg pg' lp lp' _ (HP.out.pg.below HBC.out) (HR.out.pg.below HBC.out)).mono ?_)
  rintro x w4 ⟨rfl, hb⟩
  rw [Q4.out]
  have HBC := hide (bcall HBC.out hb)
  clear hb
  (try go_simp)
  refine hK.out _ _ (by exact HX.out.two HY.out HBC.out) (fun hHeld => ?_)
  (try simp only [Act.put, List.setIfInBounds_toArray, List.set_cons_zero, List.set_cons_succ])
  refine tkH 32 ⟨some 37, .pick (.tmp 31) (.tmp 36) (.const (.bool false)), 4, "plan.go:123", #[⟨26, .data⟩, ⟨31, .data⟩], none⟩ (h := ?_)
  refine tkH 33 ⟨some 38, .move (.tmp 37), 4, "plan.go:123", #[⟨32, .data⟩, ⟨31, .chain⟩], none⟩ (h := ?_)
  refine tkU 34 ⟨some 39, .fieldAddr 30 (.tmp 2) 12, 0, "plan.go:123", #[⟨33, .guard⟩], some (33, true)⟩ (h := ?_)
  refine tkU 35 ⟨some 40, .load 28 (.tmp 39), 28, "plan.go:123", #[⟨34, .data⟩, ⟨33, .guard⟩], some (33, true)⟩ (h := ?_)
  refine tkU 36 ⟨some 41, .fieldAddr 30 (.tmp 3) 12, 0, "plan.go:123", #[⟨33, .guard⟩], some (33, true)⟩ (h := ?_)
  refine tkU 37 ⟨some 42, .load 28 (.tmp 41), 28, "plan.go:123", #[⟨36, .data⟩, ⟨33, .guard⟩], some (33, true)⟩ (h := ?_)
  refine tkU 38 ⟨some 43, .call { callee := .value (.func 55), args := #[.tmp 40, .tmp 42], argTypes := #[28, 28] }, 4, "plan.go:128", #[⟨35, .data⟩, ⟨37, .data⟩, ⟨33, .chain⟩, ⟨33, .guard⟩], some (33, true)⟩ (h := ?_)
  refine tkH 39 ⟨some 44, .pick (.tmp 38) (.tmp 43) (.const (.bool false)), 4, "plan.go:123", #[⟨33, .data⟩, ⟨38, .data⟩], none⟩ (h := ?_)
  refine tkH 40 ⟨some 4, .assign (.tmp 44), 4, "plan.go:123", #[⟨39, .data⟩, ⟨38, .chain⟩, ⟨0, .phase⟩, ⟨1, .phase⟩, ⟨2, .phase⟩, ⟨3, .phase⟩, ⟨4, .phase⟩, ⟨5, .phase⟩, ⟨6, .phase⟩, ⟨7, .phase⟩, ⟨8, .phase⟩, ⟨9, .phase⟩, ⟨10, .phase⟩, ⟨11, .phase⟩, ⟨12, .phase⟩, ⟨13, .phase⟩, ⟨14, .phase⟩, ⟨15, .phase⟩, ⟨16, .phase⟩, ⟨17, .phase⟩, ⟨18, .phase⟩, ⟨19, .phase⟩, ⟨20, .phase⟩, ⟨21, .phase⟩, ⟨22, .phase⟩, ⟨23, .phase⟩, ⟨24, .phase⟩, ⟨25, .phase⟩, ⟨26, .phase⟩, ⟨27, .phase⟩, ⟨28, .phase⟩, ⟨29, .phase⟩, ⟨30, .phase⟩, ⟨31, .phase⟩, ⟨32, .phase⟩, ⟨33, .phase⟩, ⟨34, .phase⟩, ⟨35, .phase⟩, ⟨36, .phase⟩, ⟨37, .phase⟩, ⟨38, .phase⟩, ⟨39, .phase⟩], none⟩ (h := ?_)
  refine wpAnyH_done (by kernel_rfl) ?_ _
  go_wp2
  go_ret
  exact ⟨rfl, bcall HB2.out HBC.out⟩
set_option maxRecDepth 100000 in
set_option maxHeartbeats 40000000 in
theorem pSame_5 (a b c d e f g h n : Int) (ob : Value) (s : Nat) (rg pg pk : Value) (lo lr : Rws) (lp : List (List Oq)) (lk : List PP) (a' b' c' d' e' f' g' h' n' : Int) (ob' : Value) (s' : Nat) (rg' pg' pk' : Value) (lo' lr' : Rws) (lp' : List (List Oq)) (lk' : List PP) (w w2 : World) (HE : Hid ((w.alloc (.cells #[.int .i64 a, .int .i64 b, .int .i64 c, .int .i64 d, .int .i64 e, .int .i64 f, .int .i64 g, .int .i64 h, .int .i64 n, ob, .int .u64 (s : Int), rg, pg, pk] 30)).alloc (.cells #[.int .i64 a', .int .i64 b', .int .i64 c', .int .i64 d', .int .i64 e', .int .i64 f', .int .i64 g', .int .i64 h', .int .i64 n', ob', .int .u64 (s' : Int), rg', pg', pk'] 30) = w2)) (HB2 : Hid (Below w.heap.size w w2))
    (HX : Hid (Bp 30 w2 w.heap.size a b c d e f g h n ob s rg pg pk)) (HY : Hid (Bp 30 w2 (w.heap.size + 1) a' b' c' d' e' f' g' h' n' ob' s' rg' pg' pk')) (HP : Hid (PlanR w2 ob rg pg pk ⟨a, b, c, d, e, f, g, h, n, lo, s, lr, lp, lk⟩)) (HR : Hid (PlanR w2 ob' rg' pg' pk' ⟨a', b', c', d', e', f', g', h', n', lo', s', lr', lp', lk'⟩)) (Q0 : Hid ((decide ([a, b, c, d, e, f, g, h] = [a', b', c', d', e', f', g', h'])) = true)) (Q1 : Hid ((sameF n lo n' lo') = true)) (Q2 : Hid ((decide (s = s')) = true)) (Q3 : Hid ((decide (lr = lr')) = true)) (Q4 : Hid ((decide (lp = lp')) = true)) (Q5 : Hid ((decide (lk = lk')) = false)) :
    Calls Tryz.prog 14 #[planV a b c d e f g h n ob s rg pg pk, planV a' b' c' d' e' f' g' h' n' ob' s' rg' pg' pk'] w fun x w' => x = .returned (.bool false) ∧ Below w.heap.size w w' := by
  have HBC := hide (belowD (Below.refl w2.heap.size w2))
  have hq0 := eql_nums a b c d e f g h a' b' c' d' e' f' g' h'
  rw [Q0.out] at hq0
  have e2 : ((s : Int) == (s' : Int)) = true := by have q := Q2.out; rw [decide_eq_true_eq] at q; rw [beq_iff_eq, q]
  unfold planV
  go_enter Tryz.func14, Tryz.ntmps14
  go_wp2
  rw [HE.out]
  refine wp_region_held_drew (S := fun w' => (w'.cell? ⟨w.heap.size, 0, none⟩ = some (.int .i64 a) ∧ w'.cell? ⟨w.heap.size, 1, none⟩ = some (.int .i64 b) ∧ w'.cell? ⟨w.heap.size, 2, none⟩ = some (.int .i64 c) ∧ w'.cell? ⟨w.heap.size, 3, none⟩ = some (.int .i64 d) ∧ w'.cell? ⟨w.heap.size, 4, none⟩ = some (.int .i64 e) ∧ w'.cell? ⟨w.heap.size, 5, none⟩ = some (.int .i64 f) ∧ w'.cell? ⟨w.heap.size, 6, none⟩ = some (.int .i64 g) ∧ w'.cell? ⟨w.heap.size, 7, none⟩ = some (.int .i64 h) ∧ w'.cell? ⟨w.heap.size, 8, none⟩ = some (.int .i64 n) ∧ w'.cell? ⟨w.heap.size, 9, none⟩ = some (ob) ∧ w'.cell? ⟨w.heap.size, 10, none⟩ = some (.int .u64 (s : Int)) ∧ w'.cell? ⟨w.heap.size, 11, none⟩ = some (rg) ∧ w'.cell? ⟨w.heap.size, 12, none⟩ = some (pg) ∧ w'.cell? ⟨w.heap.size, 13, none⟩ = some (pk)) ∧ (w'.cell? ⟨w.heap.size + 1, 0, none⟩ = some (.int .i64 a') ∧ w'.cell? ⟨w.heap.size + 1, 1, none⟩ = some (.int .i64 b') ∧ w'.cell? ⟨w.heap.size + 1, 2, none⟩ = some (.int .i64 c') ∧ w'.cell? ⟨w.heap.size + 1, 3, none⟩ = some (.int .i64 d') ∧ w'.cell? ⟨w.heap.size + 1, 4, none⟩ = some (.int .i64 e') ∧ w'.cell? ⟨w.heap.size + 1, 5, none⟩ = some (.int .i64 f') ∧ w'.cell? ⟨w.heap.size + 1, 6, none⟩ = some (.int .i64 g') ∧ w'.cell? ⟨w.heap.size + 1, 7, none⟩ = some (.int .i64 h') ∧ w'.cell? ⟨w.heap.size + 1, 8, none⟩ = some (.int .i64 n') ∧ w'.cell? ⟨w.heap.size + 1, 9, none⟩ = some (ob') ∧ w'.cell? ⟨w.heap.size + 1, 10, none⟩ = some (.int .u64 (s' : Int)) ∧ w'.cell? ⟨w.heap.size + 1, 11, none⟩ = some (rg') ∧ w'.cell? ⟨w.heap.size + 1, 12, none⟩ = some (pg') ∧ w'.cell? ⟨w.heap.size + 1, 13, none⟩ = some (pk'))) (by kernel_rfl) ?_ (fun hHeld => ?_)
  · exact (by exact HX.out.two HY.out HBC.out)
  refine tkH 0 ⟨some 5, .load 30 (.tmp 2), 30, "plan.go:123", #[], none⟩ (h := ?_)
  refine tkH 2 ⟨some 7, .load 30 (.tmp 3), 30, "plan.go:123", #[], none⟩ (h := ?_)
  refine wpAnyH_ready (rs := [1]) (by kernel_rfl) (by simp) ?_
  refine AllReadyH.cons rfl (fun K hK => ?_) AllReadyH.nil
  go_simp
  go_at_call 49
  (with_reducible refine (numbersOf_any a b c d e f g h n ob s rg pg pk _).mono ?_)
  rintro x w4 ⟨rfl, hb⟩
  have HBC := hide (bcall HBC.out hb)
  clear hb
  (try go_simp)
  refine hK.out _ _ (by exact HX.out.two HY.out HBC.out) (fun hHeld => ?_)
  (try simp only [Act.put, List.setIfInBounds_toArray, List.set_cons_zero, List.set_cons_succ])
  refine wpAnyH_ready (rs := [3]) (by kernel_rfl) (by simp) ?_
  refine AllReadyH.cons rfl (fun K hK => ?_) AllReadyH.nil
  go_simp
  go_at_call 49
  (with_reducible refine (numbersOf_any a' b' c' d' e' f' g' h' n' ob' s' rg' pg' pk' _).mono ?_)
  rintro x w4 ⟨rfl, hb⟩
  have HBC := hide (bcall HBC.out hb)
  clear hb
  (try go_simp)
  refine hK.out _ _ (by exact HX.out.two HY.out HBC.out) (fun hHeld => ?_)
  (try simp only [Act.put, List.setIfInBounds_toArray, List.set_cons_zero, List.set_cons_succ])
  refine tkH 4 ⟨some 9, .binOp .eql 99 (.tmp 6) (.tmp 8) 99, 4, "plan.go:123", #[⟨1, .data⟩, ⟨3, .data⟩], none⟩ (h := ?_)
  refine tkH 5 ⟨some 10, .move (.tmp 9), 4, "plan.go:123", #[⟨4, .data⟩, ⟨3, .chain⟩], none⟩ (h := ?_)
  refine tkH 6 ⟨some 11, .fieldAddr 30 (.tmp 2) 8, 0, "plan.go:123", #[⟨5, .guard⟩], some (5, true)⟩ (h := ?_)
  refine tkH 7 ⟨some 12, .load 24 (.tmp 11), 24, "plan.go:123", #[⟨6, .data⟩, ⟨5, .guard⟩], some (5, true)⟩ (h := ?_)
  refine tkH 8 ⟨some 13, .fieldAddr 30 (.tmp 3) 8, 0, "plan.go:123", #[⟨5, .guard⟩], some (5, true)⟩ (h := ?_)
  refine tkH 9 ⟨some 14, .load 24 (.tmp 13), 24, "plan.go:123", #[⟨8, .data⟩, ⟨5, .guard⟩], some (5, true)⟩ (h := ?_)
  refine wpAnyH_ready (rs := [10]) (by kernel_rfl) (by simp) ?_
  refine AllReadyH.cons rfl (fun K hK => ?_) AllReadyH.nil
  go_simp
  go_at_call 50
  (with_reducible refine (Same_cHp n n' ob ob' lo lo' _ (HP.out.ob.below HBC.out) (HR.out.ob.below HBC.out) _ Q1.out).mono ?_)
  rintro x w4 ⟨rfl, hb⟩
  have HBC := hide (bcall HBC.out hb)
  clear hb
  (try go_simp)
  refine hK.out _ _ (by exact HX.out.two HY.out HBC.out) (fun hHeld => ?_)
  (try simp only [Act.put, List.setIfInBounds_toArray, List.set_cons_zero, List.set_cons_succ])
  refine tkH 11 ⟨some 16, .pick (.tmp 10) (.tmp 15) (.const (.bool false)), 4, "plan.go:123", #[⟨5, .data⟩, ⟨10, .data⟩], none⟩ (h := ?_)
  refine tkH 12 ⟨some 17, .move (.tmp 16), 4, "plan.go:123", #[⟨11, .data⟩, ⟨10, .chain⟩], none⟩ (h := ?_)
  refine tkH 13 ⟨some 18, .fieldAddr 30 (.tmp 2) 9, 0, "plan.go:123", #[⟨12, .guard⟩], some (12, true)⟩ (h := ?_)
  refine tkH 14 ⟨some 19, .load 26 (.tmp 18), 26, "plan.go:123", #[⟨13, .data⟩, ⟨12, .guard⟩], some (12, true)⟩ (h := ?_)
  refine tkH 15 ⟨some 20, .fieldAddr 30 (.tmp 3) 9, 0, "plan.go:123", #[⟨12, .guard⟩], some (12, true)⟩ (h := ?_)
  refine tkH 16 ⟨some 21, .load 26 (.tmp 20), 26, "plan.go:123", #[⟨15, .data⟩, ⟨12, .guard⟩], some (12, true)⟩ (h := ?_)
  refine tkH 17 ⟨some 22, .binOp .eql 26 (.tmp 19) (.tmp 21) 26, 4, "plan.go:123", #[⟨14, .data⟩, ⟨16, .data⟩, ⟨12, .guard⟩], some (12, true)⟩ (h := ?_)
  refine tkH 18 ⟨some 23, .pick (.tmp 17) (.tmp 22) (.const (.bool false)), 4, "plan.go:123", #[⟨12, .data⟩, ⟨17, .data⟩], none⟩ (h := ?_)
  refine tkH 19 ⟨some 24, .move (.tmp 23), 4, "plan.go:123", #[⟨18, .data⟩, ⟨12, .chain⟩], none⟩ (h := ?_)
  refine tkH 20 ⟨some 25, .fieldAddr 30 (.tmp 2) 10, 0, "plan.go:123", #[⟨19, .guard⟩], some (19, true)⟩ (h := ?_)
  refine tkH 21 ⟨some 26, .load 22 (.tmp 25), 22, "plan.go:123", #[⟨20, .data⟩, ⟨19, .guard⟩], some (19, true)⟩ (h := ?_)
  refine tkH 22 ⟨some 27, .fieldAddr 30 (.tmp 3) 10, 0, "plan.go:123", #[⟨19, .guard⟩], some (19, true)⟩ (h := ?_)
  refine tkH 23 ⟨some 28, .load 22 (.tmp 27), 22, "plan.go:123", #[⟨22, .data⟩, ⟨19, .guard⟩], some (19, true)⟩ (h := ?_)
  refine wpAnyH_ready (rs := [24]) (by kernel_rfl) (by simp) ?_
  refine AllReadyH.cons rfl (fun K hK => ?_) AllReadyH.nil
  go_simp
  go_at_call 51
  (with_reducible refine (EqualFunc_rows rg rg' lr lr' _ (HP.out.rg.below HBC.out) (HR.out.rg.below HBC.out)).mono ?_)
  rintro x w4 ⟨rfl, hb⟩
  rw [Q3.out]
  have HBC := hide (bcall HBC.out hb)
  clear hb
  (try go_simp)
  refine hK.out _ _ (by exact HX.out.two HY.out HBC.out) (fun hHeld => ?_)
  (try simp only [Act.put, List.setIfInBounds_toArray, List.set_cons_zero, List.set_cons_succ])
  refine tkH 25 ⟨some 30, .pick (.tmp 24) (.tmp 29) (.const (.bool false)), 4, "plan.go:123", #[⟨19, .data⟩, ⟨24, .data⟩], none⟩ (h := ?_)
  refine tkH 26 ⟨some 31, .move (.tmp 30), 4, "plan.go:123", #[⟨25, .data⟩, ⟨24, .chain⟩], none⟩ (h := ?_)
  refine tkH 27 ⟨some 32, .fieldAddr 30 (.tmp 2) 11, 0, "plan.go:123", #[⟨26, .guard⟩], some (26, true)⟩ (h := ?_)
  refine tkH 28 ⟨some 33, .load 27 (.tmp 32), 27, "plan.go:123", #[⟨27, .data⟩, ⟨26, .guard⟩], some (26, true)⟩ (h := ?_)
  refine tkH 29 ⟨some 34, .fieldAddr 30 (.tmp 3) 11, 0, "plan.go:123", #[⟨26, .guard⟩], some (26, true)⟩ (h := ?_)
  refine tkH 30 ⟨some 35, .load 27 (.tmp 34), 27, "plan.go:123", #[⟨29, .data⟩, ⟨26, .guard⟩], some (26, true)⟩ (h := ?_)
  refine wpAnyH_ready (rs := [31]) (by kernel_rfl) (by simp) ?_
  refine AllReadyH.cons rfl (fun K hK => ?_) AllReadyH.nil
  go_simp
  go_at_call 53
  (with_reducible refine (EqualFunc_ops pg pg' lp lp' _ (HP.out.pg.below HBC.out) (HR.out.pg.below HBC.out)).mono ?_)
  rintro x w4 ⟨rfl, hb⟩
  rw [Q4.out]
  have HBC := hide (bcall HBC.out hb)
  clear hb
  (try go_simp)
  refine hK.out _ _ (by exact HX.out.two HY.out HBC.out) (fun hHeld => ?_)
  (try simp only [Act.put, List.setIfInBounds_toArray, List.set_cons_zero, List.set_cons_succ])
  refine tkH 32 ⟨some 37, .pick (.tmp 31) (.tmp 36) (.const (.bool false)), 4, "plan.go:123", #[⟨26, .data⟩, ⟨31, .data⟩], none⟩ (h := ?_)
  refine tkH 33 ⟨some 38, .move (.tmp 37), 4, "plan.go:123", #[⟨32, .data⟩, ⟨31, .chain⟩], none⟩ (h := ?_)
  refine tkH 34 ⟨some 39, .fieldAddr 30 (.tmp 2) 12, 0, "plan.go:123", #[⟨33, .guard⟩], some (33, true)⟩ (h := ?_)
  refine tkH 35 ⟨some 40, .load 28 (.tmp 39), 28, "plan.go:123", #[⟨34, .data⟩, ⟨33, .guard⟩], some (33, true)⟩ (h := ?_)
  refine tkH 36 ⟨some 41, .fieldAddr 30 (.tmp 3) 12, 0, "plan.go:123", #[⟨33, .guard⟩], some (33, true)⟩ (h := ?_)
  refine tkH 37 ⟨some 42, .load 28 (.tmp 41), 28, "plan.go:123", #[⟨36, .data⟩, ⟨33, .guard⟩], some (33, true)⟩ (h := ?_)
  refine wpAnyH_ready (rs := [38]) (by kernel_rfl) (by simp) ?_
  refine AllReadyH.cons rfl (fun K hK => ?_) AllReadyH.nil
  go_simp
  go_at_call 55
  (with_reducible refine (Equal_picks pk pk' lk lk' _ (HP.out.pk.below HBC.out) (HR.out.pk.below HBC.out)).mono ?_)
  rintro x w4 ⟨rfl, hb⟩
  rw [Q5.out]
  have HBC := hide (bcall HBC.out hb)
  clear hb
  (try go_simp)
  refine hK.out _ _ (by exact HX.out.two HY.out HBC.out) (fun hHeld => ?_)
  (try simp only [Act.put, List.setIfInBounds_toArray, List.set_cons_zero, List.set_cons_succ])
  refine tkH 39 ⟨some 44, .pick (.tmp 38) (.tmp 43) (.const (.bool false)), 4, "plan.go:123", #[⟨33, .data⟩, ⟨38, .data⟩], none⟩ (h := ?_)
  refine tkH 40 ⟨some 4, .assign (.tmp 44), 4, "plan.go:123", #[⟨39, .data⟩, ⟨38, .chain⟩, ⟨0, .phase⟩, ⟨1, .phase⟩, ⟨2, .phase⟩, ⟨3, .phase⟩, ⟨4, .phase⟩, ⟨5, .phase⟩, ⟨6, .phase⟩, ⟨7, .phase⟩, ⟨8, .phase⟩, ⟨9, .phase⟩, ⟨10, .phase⟩, ⟨11, .phase⟩, ⟨12, .phase⟩, ⟨13, .phase⟩, ⟨14, .phase⟩, ⟨15, .phase⟩, ⟨16, .phase⟩, ⟨17, .phase⟩, ⟨18, .phase⟩, ⟨19, .phase⟩, ⟨20, .phase⟩, ⟨21, .phase⟩, ⟨22, .phase⟩, ⟨23, .phase⟩, ⟨24, .phase⟩, ⟨25, .phase⟩, ⟨26, .phase⟩, ⟨27, .phase⟩, ⟨28, .phase⟩, ⟨29, .phase⟩, ⟨30, .phase⟩, ⟨31, .phase⟩, ⟨32, .phase⟩, ⟨33, .phase⟩, ⟨34, .phase⟩, ⟨35, .phase⟩, ⟨36, .phase⟩, ⟨37, .phase⟩, ⟨38, .phase⟩, ⟨39, .phase⟩], none⟩ (h := ?_)
  refine wpAnyH_done (by kernel_rfl) ?_ _
  go_wp2
  go_ret
  exact ⟨rfl, bcall HB2.out HBC.out⟩
set_option maxRecDepth 100000 in
set_option maxHeartbeats 40000000 in
theorem pSame_6 (a b c d e f g h n : Int) (ob : Value) (s : Nat) (rg pg pk : Value) (lo lr : Rws) (lp : List (List Oq)) (lk : List PP) (a' b' c' d' e' f' g' h' n' : Int) (ob' : Value) (s' : Nat) (rg' pg' pk' : Value) (lo' lr' : Rws) (lp' : List (List Oq)) (lk' : List PP) (w w2 : World) (HE : Hid ((w.alloc (.cells #[.int .i64 a, .int .i64 b, .int .i64 c, .int .i64 d, .int .i64 e, .int .i64 f, .int .i64 g, .int .i64 h, .int .i64 n, ob, .int .u64 (s : Int), rg, pg, pk] 30)).alloc (.cells #[.int .i64 a', .int .i64 b', .int .i64 c', .int .i64 d', .int .i64 e', .int .i64 f', .int .i64 g', .int .i64 h', .int .i64 n', ob', .int .u64 (s' : Int), rg', pg', pk'] 30) = w2)) (HB2 : Hid (Below w.heap.size w w2))
    (HX : Hid (Bp 30 w2 w.heap.size a b c d e f g h n ob s rg pg pk)) (HY : Hid (Bp 30 w2 (w.heap.size + 1) a' b' c' d' e' f' g' h' n' ob' s' rg' pg' pk')) (HP : Hid (PlanR w2 ob rg pg pk ⟨a, b, c, d, e, f, g, h, n, lo, s, lr, lp, lk⟩)) (HR : Hid (PlanR w2 ob' rg' pg' pk' ⟨a', b', c', d', e', f', g', h', n', lo', s', lr', lp', lk'⟩)) (Q0 : Hid ((decide ([a, b, c, d, e, f, g, h] = [a', b', c', d', e', f', g', h'])) = true)) (Q1 : Hid ((sameF n lo n' lo') = true)) (Q2 : Hid ((decide (s = s')) = true)) (Q3 : Hid ((decide (lr = lr')) = true)) (Q4 : Hid ((decide (lp = lp')) = true)) (Q5 : Hid ((decide (lk = lk')) = true)) :
    Calls Tryz.prog 14 #[planV a b c d e f g h n ob s rg pg pk, planV a' b' c' d' e' f' g' h' n' ob' s' rg' pg' pk'] w fun x w' => x = .returned (.bool true) ∧ Below w.heap.size w w' := by
  have HBC := hide (belowD (Below.refl w2.heap.size w2))
  have hq0 := eql_nums a b c d e f g h a' b' c' d' e' f' g' h'
  rw [Q0.out] at hq0
  have e2 : ((s : Int) == (s' : Int)) = true := by have q := Q2.out; rw [decide_eq_true_eq] at q; rw [beq_iff_eq, q]
  unfold planV
  go_enter Tryz.func14, Tryz.ntmps14
  go_wp2
  rw [HE.out]
  refine wp_region_held_drew (S := fun w' => (w'.cell? ⟨w.heap.size, 0, none⟩ = some (.int .i64 a) ∧ w'.cell? ⟨w.heap.size, 1, none⟩ = some (.int .i64 b) ∧ w'.cell? ⟨w.heap.size, 2, none⟩ = some (.int .i64 c) ∧ w'.cell? ⟨w.heap.size, 3, none⟩ = some (.int .i64 d) ∧ w'.cell? ⟨w.heap.size, 4, none⟩ = some (.int .i64 e) ∧ w'.cell? ⟨w.heap.size, 5, none⟩ = some (.int .i64 f) ∧ w'.cell? ⟨w.heap.size, 6, none⟩ = some (.int .i64 g) ∧ w'.cell? ⟨w.heap.size, 7, none⟩ = some (.int .i64 h) ∧ w'.cell? ⟨w.heap.size, 8, none⟩ = some (.int .i64 n) ∧ w'.cell? ⟨w.heap.size, 9, none⟩ = some (ob) ∧ w'.cell? ⟨w.heap.size, 10, none⟩ = some (.int .u64 (s : Int)) ∧ w'.cell? ⟨w.heap.size, 11, none⟩ = some (rg) ∧ w'.cell? ⟨w.heap.size, 12, none⟩ = some (pg) ∧ w'.cell? ⟨w.heap.size, 13, none⟩ = some (pk)) ∧ (w'.cell? ⟨w.heap.size + 1, 0, none⟩ = some (.int .i64 a') ∧ w'.cell? ⟨w.heap.size + 1, 1, none⟩ = some (.int .i64 b') ∧ w'.cell? ⟨w.heap.size + 1, 2, none⟩ = some (.int .i64 c') ∧ w'.cell? ⟨w.heap.size + 1, 3, none⟩ = some (.int .i64 d') ∧ w'.cell? ⟨w.heap.size + 1, 4, none⟩ = some (.int .i64 e') ∧ w'.cell? ⟨w.heap.size + 1, 5, none⟩ = some (.int .i64 f') ∧ w'.cell? ⟨w.heap.size + 1, 6, none⟩ = some (.int .i64 g') ∧ w'.cell? ⟨w.heap.size + 1, 7, none⟩ = some (.int .i64 h') ∧ w'.cell? ⟨w.heap.size + 1, 8, none⟩ = some (.int .i64 n') ∧ w'.cell? ⟨w.heap.size + 1, 9, none⟩ = some (ob') ∧ w'.cell? ⟨w.heap.size + 1, 10, none⟩ = some (.int .u64 (s' : Int)) ∧ w'.cell? ⟨w.heap.size + 1, 11, none⟩ = some (rg') ∧ w'.cell? ⟨w.heap.size + 1, 12, none⟩ = some (pg') ∧ w'.cell? ⟨w.heap.size + 1, 13, none⟩ = some (pk'))) (by kernel_rfl) ?_ (fun hHeld => ?_)
  · exact (by exact HX.out.two HY.out HBC.out)
  refine tkH 0 ⟨some 5, .load 30 (.tmp 2), 30, "plan.go:123", #[], none⟩ (h := ?_)
  refine tkH 2 ⟨some 7, .load 30 (.tmp 3), 30, "plan.go:123", #[], none⟩ (h := ?_)
  refine wpAnyH_ready (rs := [1]) (by kernel_rfl) (by simp) ?_
  refine AllReadyH.cons rfl (fun K hK => ?_) AllReadyH.nil
  go_simp
  go_at_call 49
  (with_reducible refine (numbersOf_any a b c d e f g h n ob s rg pg pk _).mono ?_)
  rintro x w4 ⟨rfl, hb⟩
  have HBC := hide (bcall HBC.out hb)
  clear hb
  (try go_simp)
  refine hK.out _ _ (by exact HX.out.two HY.out HBC.out) (fun hHeld => ?_)
  (try simp only [Act.put, List.setIfInBounds_toArray, List.set_cons_zero, List.set_cons_succ])
  refine wpAnyH_ready (rs := [3]) (by kernel_rfl) (by simp) ?_
  refine AllReadyH.cons rfl (fun K hK => ?_) AllReadyH.nil
  go_simp
  go_at_call 49
  (with_reducible refine (numbersOf_any a' b' c' d' e' f' g' h' n' ob' s' rg' pg' pk' _).mono ?_)
  rintro x w4 ⟨rfl, hb⟩
  have HBC := hide (bcall HBC.out hb)
  clear hb
  (try go_simp)
  refine hK.out _ _ (by exact HX.out.two HY.out HBC.out) (fun hHeld => ?_)
  (try simp only [Act.put, List.setIfInBounds_toArray, List.set_cons_zero, List.set_cons_succ])
  refine tkH 4 ⟨some 9, .binOp .eql 99 (.tmp 6) (.tmp 8) 99, 4, "plan.go:123", #[⟨1, .data⟩, ⟨3, .data⟩], none⟩ (h := ?_)
  refine tkH 5 ⟨some 10, .move (.tmp 9), 4, "plan.go:123", #[⟨4, .data⟩, ⟨3, .chain⟩], none⟩ (h := ?_)
  refine tkH 6 ⟨some 11, .fieldAddr 30 (.tmp 2) 8, 0, "plan.go:123", #[⟨5, .guard⟩], some (5, true)⟩ (h := ?_)
  refine tkH 7 ⟨some 12, .load 24 (.tmp 11), 24, "plan.go:123", #[⟨6, .data⟩, ⟨5, .guard⟩], some (5, true)⟩ (h := ?_)
  refine tkH 8 ⟨some 13, .fieldAddr 30 (.tmp 3) 8, 0, "plan.go:123", #[⟨5, .guard⟩], some (5, true)⟩ (h := ?_)
  refine tkH 9 ⟨some 14, .load 24 (.tmp 13), 24, "plan.go:123", #[⟨8, .data⟩, ⟨5, .guard⟩], some (5, true)⟩ (h := ?_)
  refine wpAnyH_ready (rs := [10]) (by kernel_rfl) (by simp) ?_
  refine AllReadyH.cons rfl (fun K hK => ?_) AllReadyH.nil
  go_simp
  go_at_call 50
  (with_reducible refine (Same_cHp n n' ob ob' lo lo' _ (HP.out.ob.below HBC.out) (HR.out.ob.below HBC.out) _ Q1.out).mono ?_)
  rintro x w4 ⟨rfl, hb⟩
  have HBC := hide (bcall HBC.out hb)
  clear hb
  (try go_simp)
  refine hK.out _ _ (by exact HX.out.two HY.out HBC.out) (fun hHeld => ?_)
  (try simp only [Act.put, List.setIfInBounds_toArray, List.set_cons_zero, List.set_cons_succ])
  refine tkH 11 ⟨some 16, .pick (.tmp 10) (.tmp 15) (.const (.bool false)), 4, "plan.go:123", #[⟨5, .data⟩, ⟨10, .data⟩], none⟩ (h := ?_)
  refine tkH 12 ⟨some 17, .move (.tmp 16), 4, "plan.go:123", #[⟨11, .data⟩, ⟨10, .chain⟩], none⟩ (h := ?_)
  refine tkH 13 ⟨some 18, .fieldAddr 30 (.tmp 2) 9, 0, "plan.go:123", #[⟨12, .guard⟩], some (12, true)⟩ (h := ?_)
  refine tkH 14 ⟨some 19, .load 26 (.tmp 18), 26, "plan.go:123", #[⟨13, .data⟩, ⟨12, .guard⟩], some (12, true)⟩ (h := ?_)
  refine tkH 15 ⟨some 20, .fieldAddr 30 (.tmp 3) 9, 0, "plan.go:123", #[⟨12, .guard⟩], some (12, true)⟩ (h := ?_)
  refine tkH 16 ⟨some 21, .load 26 (.tmp 20), 26, "plan.go:123", #[⟨15, .data⟩, ⟨12, .guard⟩], some (12, true)⟩ (h := ?_)
  refine tkH 17 ⟨some 22, .binOp .eql 26 (.tmp 19) (.tmp 21) 26, 4, "plan.go:123", #[⟨14, .data⟩, ⟨16, .data⟩, ⟨12, .guard⟩], some (12, true)⟩ (h := ?_)
  refine tkH 18 ⟨some 23, .pick (.tmp 17) (.tmp 22) (.const (.bool false)), 4, "plan.go:123", #[⟨12, .data⟩, ⟨17, .data⟩], none⟩ (h := ?_)
  refine tkH 19 ⟨some 24, .move (.tmp 23), 4, "plan.go:123", #[⟨18, .data⟩, ⟨12, .chain⟩], none⟩ (h := ?_)
  refine tkH 20 ⟨some 25, .fieldAddr 30 (.tmp 2) 10, 0, "plan.go:123", #[⟨19, .guard⟩], some (19, true)⟩ (h := ?_)
  refine tkH 21 ⟨some 26, .load 22 (.tmp 25), 22, "plan.go:123", #[⟨20, .data⟩, ⟨19, .guard⟩], some (19, true)⟩ (h := ?_)
  refine tkH 22 ⟨some 27, .fieldAddr 30 (.tmp 3) 10, 0, "plan.go:123", #[⟨19, .guard⟩], some (19, true)⟩ (h := ?_)
  refine tkH 23 ⟨some 28, .load 22 (.tmp 27), 22, "plan.go:123", #[⟨22, .data⟩, ⟨19, .guard⟩], some (19, true)⟩ (h := ?_)
  refine wpAnyH_ready (rs := [24]) (by kernel_rfl) (by simp) ?_
  refine AllReadyH.cons rfl (fun K hK => ?_) AllReadyH.nil
  go_simp
  go_at_call 51
  (with_reducible refine (EqualFunc_rows rg rg' lr lr' _ (HP.out.rg.below HBC.out) (HR.out.rg.below HBC.out)).mono ?_)
  rintro x w4 ⟨rfl, hb⟩
  rw [Q3.out]
  have HBC := hide (bcall HBC.out hb)
  clear hb
  (try go_simp)
  refine hK.out _ _ (by exact HX.out.two HY.out HBC.out) (fun hHeld => ?_)
  (try simp only [Act.put, List.setIfInBounds_toArray, List.set_cons_zero, List.set_cons_succ])
  refine tkH 25 ⟨some 30, .pick (.tmp 24) (.tmp 29) (.const (.bool false)), 4, "plan.go:123", #[⟨19, .data⟩, ⟨24, .data⟩], none⟩ (h := ?_)
  refine tkH 26 ⟨some 31, .move (.tmp 30), 4, "plan.go:123", #[⟨25, .data⟩, ⟨24, .chain⟩], none⟩ (h := ?_)
  refine tkH 27 ⟨some 32, .fieldAddr 30 (.tmp 2) 11, 0, "plan.go:123", #[⟨26, .guard⟩], some (26, true)⟩ (h := ?_)
  refine tkH 28 ⟨some 33, .load 27 (.tmp 32), 27, "plan.go:123", #[⟨27, .data⟩, ⟨26, .guard⟩], some (26, true)⟩ (h := ?_)
  refine tkH 29 ⟨some 34, .fieldAddr 30 (.tmp 3) 11, 0, "plan.go:123", #[⟨26, .guard⟩], some (26, true)⟩ (h := ?_)
  refine tkH 30 ⟨some 35, .load 27 (.tmp 34), 27, "plan.go:123", #[⟨29, .data⟩, ⟨26, .guard⟩], some (26, true)⟩ (h := ?_)
  refine wpAnyH_ready (rs := [31]) (by kernel_rfl) (by simp) ?_
  refine AllReadyH.cons rfl (fun K hK => ?_) AllReadyH.nil
  go_simp
  go_at_call 53
  (with_reducible refine (EqualFunc_ops pg pg' lp lp' _ (HP.out.pg.below HBC.out) (HR.out.pg.below HBC.out)).mono ?_)
  rintro x w4 ⟨rfl, hb⟩
  rw [Q4.out]
  have HBC := hide (bcall HBC.out hb)
  clear hb
  (try go_simp)
  refine hK.out _ _ (by exact HX.out.two HY.out HBC.out) (fun hHeld => ?_)
  (try simp only [Act.put, List.setIfInBounds_toArray, List.set_cons_zero, List.set_cons_succ])
  refine tkH 32 ⟨some 37, .pick (.tmp 31) (.tmp 36) (.const (.bool false)), 4, "plan.go:123", #[⟨26, .data⟩, ⟨31, .data⟩], none⟩ (h := ?_)
  refine tkH 33 ⟨some 38, .move (.tmp 37), 4, "plan.go:123", #[⟨32, .data⟩, ⟨31, .chain⟩], none⟩ (h := ?_)
  refine tkH 34 ⟨some 39, .fieldAddr 30 (.tmp 2) 12, 0, "plan.go:123", #[⟨33, .guard⟩], some (33, true)⟩ (h := ?_)
  refine tkH 35 ⟨some 40, .load 28 (.tmp 39), 28, "plan.go:123", #[⟨34, .data⟩, ⟨33, .guard⟩], some (33, true)⟩ (h := ?_)
  refine tkH 36 ⟨some 41, .fieldAddr 30 (.tmp 3) 12, 0, "plan.go:123", #[⟨33, .guard⟩], some (33, true)⟩ (h := ?_)
  refine tkH 37 ⟨some 42, .load 28 (.tmp 41), 28, "plan.go:123", #[⟨36, .data⟩, ⟨33, .guard⟩], some (33, true)⟩ (h := ?_)
  refine wpAnyH_ready (rs := [38]) (by kernel_rfl) (by simp) ?_
  refine AllReadyH.cons rfl (fun K hK => ?_) AllReadyH.nil
  go_simp
  go_at_call 55
  (with_reducible refine (Equal_picks pk pk' lk lk' _ (HP.out.pk.below HBC.out) (HR.out.pk.below HBC.out)).mono ?_)
  rintro x w4 ⟨rfl, hb⟩
  rw [Q5.out]
  have HBC := hide (bcall HBC.out hb)
  clear hb
  (try go_simp)
  refine hK.out _ _ (by exact HX.out.two HY.out HBC.out) (fun hHeld => ?_)
  (try simp only [Act.put, List.setIfInBounds_toArray, List.set_cons_zero, List.set_cons_succ])
  refine tkH 39 ⟨some 44, .pick (.tmp 38) (.tmp 43) (.const (.bool false)), 4, "plan.go:123", #[⟨33, .data⟩, ⟨38, .data⟩], none⟩ (h := ?_)
  refine tkH 40 ⟨some 4, .assign (.tmp 44), 4, "plan.go:123", #[⟨39, .data⟩, ⟨38, .chain⟩, ⟨0, .phase⟩, ⟨1, .phase⟩, ⟨2, .phase⟩, ⟨3, .phase⟩, ⟨4, .phase⟩, ⟨5, .phase⟩, ⟨6, .phase⟩, ⟨7, .phase⟩, ⟨8, .phase⟩, ⟨9, .phase⟩, ⟨10, .phase⟩, ⟨11, .phase⟩, ⟨12, .phase⟩, ⟨13, .phase⟩, ⟨14, .phase⟩, ⟨15, .phase⟩, ⟨16, .phase⟩, ⟨17, .phase⟩, ⟨18, .phase⟩, ⟨19, .phase⟩, ⟨20, .phase⟩, ⟨21, .phase⟩, ⟨22, .phase⟩, ⟨23, .phase⟩, ⟨24, .phase⟩, ⟨25, .phase⟩, ⟨26, .phase⟩, ⟨27, .phase⟩, ⟨28, .phase⟩, ⟨29, .phase⟩, ⟨30, .phase⟩, ⟨31, .phase⟩, ⟨32, .phase⟩, ⟨33, .phase⟩, ⟨34, .phase⟩, ⟨35, .phase⟩, ⟨36, .phase⟩, ⟨37, .phase⟩, ⟨38, .phase⟩, ⟨39, .phase⟩], none⟩ (h := ?_)
  refine wpAnyH_done (by kernel_rfl) ?_ _
  go_wp2
  go_ret
  exact ⟨rfl, bcall HB2.out HBC.out⟩
end Go.Proofs.YtjnokhaojpijhaaGreatDoor
