/- Structs of many cells, anywhere in a row: loaded, stored; a row of the call's own with one element turned; append of zeros. -/
import Derived.Test.YtdmbcjckgfjcaaaGreatDoorQab
namespace Go.Proofs.YtdmbcjckgfjcaaaGreatDoor
open Go.RowKit
section
variable {P : Program}
theorem run_loadVar_seg (w : World) (b o : Nat) (ty : TypeId) (cs : List Value) (d : TypeDesc) (h : ∀ j v, cs[j]? = some v → w.cell? ⟨b, o + j, none⟩ = some v)
    (hu : P.underlying ty = some d) (hd : (match d with | .struct _ | .array _ _ => true | _ => false) = true) (hi : (P.info? ty).map (·.size) = some cs.length) : (loadVar ty ⟨b, o, none⟩).run P w = .ok (.agg cs.toArray) w := by
  have hl : (loadCells ⟨b, o, none⟩ cs.length).run P w = .ok cs.toArray w :=
    run_loadCells_list (P := P) w ⟨b, o, none⟩ cs (fun j v hv => by
      have hadd : (⟨b, o, none⟩ : Addr).add j = ⟨b, o + j, none⟩ := by unfold Addr.add; split <;> simp_all
      rw [hadd]; exact h j v hv)
  cases hq : P.info? ty with
  | none => simp [hq] at hi
  | some i =>
    have hs : i.size = cs.length := by simpa [hq] using hi
    have hagg : (isAgg ty).run P w = .ok true w := by
      unfold isAgg
      rw [Sem.run_bind, run_underlying hu w]
      cases d <;> simp_all
    simp [loadVar, Sem.run_bind, hagg, sizeOf, typeInfo, hq, hs, hl]
theorem wp_load_seg {op : Oper} {a : Act} {w : World} {K : Act → World → Prop} {Q : Exit → Act → World → Prop} (ty : TypeId) (x : Operand) (ho : op.op = .load ty x)
    (b o : Nat) (hx : a.eval x = .pointer (some ⟨b, o, none⟩)) (cs : List Value) (d : TypeDesc) (h : ∀ j v, cs[j]? = some v → w.cell? ⟨b, o + j, none⟩ = some v)
    (hu : P.underlying ty = some d) (hd : (match d with | .struct _ | .array _ _ => true | _ => false) = true) (hi : (P.info? ty).map (·.size) = some cs.length)
    (hK : K (a.put op.dst (.agg cs.toArray)) w) : op.wp P a w K Q := by
  unfold Oper.wp execOp
  simp only [ho, hx, Instr.loadAt, Instr.sureAddr, Sem.run_bind, Sem.run_pure, Result.andThen_ok, run_loadVar_seg w b o ty cs d h hu hd hi]
  exact hK
theorem wpList_load_seg {ops : Array Oper} {rest : List Oper} {op : Oper} {a : Act} {w : World} {Q : Exit → Act → World → Prop} (hgd : op.guard = none) (ty : TypeId) (x : Operand) (ho : op.op = .load ty x)
    (b o : Nat) (hx : a.eval x = .pointer (some ⟨b, o, none⟩)) (cs : List Value) (d : TypeDesc) (h : ∀ j v, cs[j]? = some v → w.cell? ⟨b, o + j, none⟩ = some v)
    (hu : P.underlying ty = some d) (hd : (match d with | .struct _ | .array _ _ => true | _ => false) = true) (hi : (P.info? ty).map (·.size) = some cs.length)
    (hK : wpList P ops Q rest (a.put op.dst (.agg cs.toArray)) w) : wpList P ops Q (op :: rest) a w :=
  wpList_plain hgd fun _ hK' => wp_load_seg ty x ho b o hx cs d h hu hd hi (hK' _ _ hK)
theorem run_storeVar_seg (w : World) (g o : Nat) (t ty : TypeId) (cur : Array Value) (cs : List Value) (hg : w.heap[g]? = some (.cells cur t (0, 0))) (hi : (P.info? ty).map (·.size) = some cs.length) (hfit : o + cs.length ≤ cur.size) (h1 : ∀ v ∈ cs, v.oneCell' = true) :
    (storeVar ty ⟨g, o, none⟩ (.agg cs.toArray)).run P w = .ok () (w.setRow g (cur.toList.take o ++ cs ++ cur.toList.drop (o + cs.length)).toArray) := by
  have hst := run_storeCells_at P g o t cs 0 cur w hg (by simpa using hfit) h1
  simp only [Nat.add_zero] at hst
  cases hq : P.info? ty with
  | none => simp [hq] at hi
  | some i =>
    have hs : i.size = cs.length := by simpa [hq] using hi
    simp [storeVar, sizeOf, typeInfo, hq, Value.cells, hs, hst]
end
theorem setRow_alloc (w : World) (z cs : Array Value) (t : TypeId) : (w.alloc (.cells z t)).setRow w.heap.size cs = w.alloc (.cells cs t) := by
  show ({ w with heap := (w.heap.push (.cells z t)).modify w.heap.size _ } : World) = { w with heap := w.heap.push (.cells cs t) }
  congr 1
  apply Array.ext
  · simp
  · intro i h1 h2
    simp only [Array.getElem_modify, Array.getElem_push]
    by_cases h : i < w.heap.size
    · simp [h, show ¬ w.heap.size = i by omega]
    · have : w.heap.size = i := by simp at h2; omega
      subst this; simp
section
variable {α : Type} {enc : α → List Value} {size base g n c : Nat} {e : TypeId} {w : World} {es : List α}
theorem flatMap_split (hz : ∀ p, (enc p).length = size) (i : Nat) (hi : i < es.length) (x : α) : (es.set i x).flatMap enc = (es.flatMap enc).take (i * size) ++ enc x ++ (es.flatMap enc).drop (i * size + size) := by
  have h1 : es.take i ++ x :: es.drop (i + 1) = es.set i x := by rw [List.set_eq_take_append_cons_drop, if_pos hi]
  have e1 : es.flatMap enc = (es.take i).flatMap enc ++ (es.drop i).flatMap enc := by rw [← List.flatMap_append, List.take_append_drop]
  have l1 : ((es.take i).flatMap enc).length = i * size := by rw [flatMap_len hz, List.length_take, Nat.min_eq_left (Nat.le_of_lt hi)]
  have e2 : (es.drop i).flatMap enc = enc es[i] ++ (es.drop (i + 1)).flatMap enc := by rw [List.drop_eq_getElem_cons hi, List.flatMap_cons]
  rw [← h1, List.flatMap_append, List.flatMap_cons, e1, e2, ← List.append_assoc]
  congr 1
  · rw [← l1, List.take_left]
  · rw [← List.append_assoc, show i * size + size = ((es.take i).flatMap enc ++ enc es[i]).length by rw [List.length_append, l1, hz], List.drop_left]
/-- a row of the call's own: element i turned -/
theorem own_seg (h : w.ownsRow base e size (.slice (some ⟨g, 0, none⟩) n c) n (es.flatMap enc)) (hz : ∀ p, (enc p).length = size) (i : Nat) (hi : i < es.length) (x : α) :
    ∃ cur, w.heap[g]? = some (.cells cur e (0, 0)) ∧ i * size + size ≤ cur.size ∧ ∀ cs, cs = enc x → (w.setRow g (cur.toList.take (i * size) ++ cs ++ cur.toList.drop (i * size + cs.length)).toArray).ownsRow base e size (.slice (some ⟨g, 0, none⟩) n c) n ((es.set i x).flatMap enc) ∧
      w.grownBy (w.setRow g (cur.toList.take (i * size) ++ cs ++ cur.toList.drop (i * size + cs.length)).toArray) (some g) := by
  have hn : es.length * size = n * size := by rw [← flatMap_len hz, h.1]
  have hle : i * size + size ≤ n * size := by rw [← hn, ← Nat.succ_mul]; exact Nat.mul_le_mul_right _ hi
  rcases h.2 with ⟨h', _⟩ | ⟨g', cap', cur, h', hb, hg, hnc, hcm, hcs, htake⟩
  · simp at h'
  · simp only [Value.slice.injEq, Option.some.injEq, Addr.mk.injEq, and_true, true_and] at h'
    obtain ⟨rfl, rfl⟩ := h'
    have hcap : n * size ≤ c * size := Nat.mul_le_mul_right _ hnc
    have hsz : cur.toList.length = c * size := by rw [Array.length_toList]; exact hcs
    refine ⟨cur, hg, by omega, ?_⟩
    rintro cs rfl
    have hx := hz x
    refine ⟨⟨by rw [flatMap_len hz, List.length_set]; exact hn, .inr ⟨g, c, _, rfl, hb, setRow_heap w g cur _ e _ hg, hnc, hcm, ?_, ?_⟩⟩, ⟨rfl, rfl, rfl, by simp, fun k _ hk => setRow_other w g k _ (fun e' => hk (by rw [e']))⟩⟩
    · simp only [List.size_toArray, List.length_append, List.length_take, List.length_drop, hsz, hx]; omega
    · rw [flatMap_split hz i hi x, ← htake, hx]
      apply List.ext_getElem?
      intro j
      simp only [List.getElem?_take, List.getElem?_append, List.length_append, List.length_take, List.getElem?_drop, hsz, hx]
      have a1 : min (i * size) (c * size) = i * size := by omega
      have a2 : min (i * size) (min (n * size) (c * size)) = i * size := by omega
      rw [a1, a2]
      by_cases hj : j < n * size
      · rw [if_pos hj]
        by_cases h1 : j < i * size
        · simp [h1, show j < i * size + size by omega, hj]
        · by_cases h2 : j < i * size + size
          · simp [h1, h2]
          · simp only [h1, h2, if_false]
            rw [if_pos (by omega)]
      · rw [if_neg hj]
        have h1 : ¬ j < i * size := by omega
        have h2 : ¬ j < i * size + size := by omega
        simp only [h1, h2, if_false]
        rw [if_neg (by omega)]
variable {P : Program}
theorem wp_store_elem {op : Oper} {a : Act} {K : Act → World → Prop} {Q : Exit → Act → World → Prop} (ty : TypeId) (x y : Operand) (ho : op.op = .store ty x y)
    (i : Nat) (o : Nat) (hx : a.eval x = .pointer (some ⟨g, o, none⟩)) (hoi : o = i * size) (p : α) (hy : a.eval y = .agg (enc p).toArray) (hin : (P.info? ty).map (·.size) = some size)
    (hz : ∀ p, (enc p).length = size) (h1 : ∀ u ∈ enc p, u.oneCell' = true) (hown : w.ownsRow base e size (.slice (some ⟨g, 0, none⟩) n c) n (es.flatMap enc)) (hi : i < es.length)
    (h : ∀ w', w'.ownsRow base e size (.slice (some ⟨g, 0, none⟩) n c) n ((es.set i p).flatMap enc) → w.grownBy w' (some g) → K (a.put op.dst undef) w') : op.wp P a w K Q := by
  subst hoi
  obtain ⟨cur, hg, hfit, hs⟩ := own_seg hown hz i hi p
  obtain ⟨h2, h3⟩ := hs _ rfl
  unfold Oper.wp execOp
  simp only [ho, hx, hy, Instr.storeAt, Instr.sureAddr, Sem.run_bind, Sem.run_pure, Result.andThen_ok, run_storeVar_seg w g (i * size) e ty cur (enc p) hg (by rw [hin, hz]) (by rw [hz]; exact hfit) h1]
  exact h _ h2 h3
theorem wpList_store_elem {ops : Array Oper} {rest : List Oper} {op : Oper} {a : Act} {Q : Exit → Act → World → Prop} (hgd : op.guard = none) (ty : TypeId) (x y : Operand) (ho : op.op = .store ty x y)
    (i : Nat) (o : Nat) (hx : a.eval x = .pointer (some ⟨g, o, none⟩)) (hoi : o = i * size) (p : α) (hy : a.eval y = .agg (enc p).toArray) (hin : (P.info? ty).map (·.size) = some size)
    (hz : ∀ p, (enc p).length = size) (h1 : ∀ u ∈ enc p, u.oneCell' = true) (hown : w.ownsRow base e size (.slice (some ⟨g, 0, none⟩) n c) n (es.flatMap enc)) (hi : i < es.length)
    (h : ∀ w', w'.ownsRow base e size (.slice (some ⟨g, 0, none⟩) n c) n ((es.set i p).flatMap enc) → w.grownBy w' (some g) → wpList P ops Q rest (a.put op.dst undef) w') : wpList P ops Q (op :: rest) a w :=
  wpList_plain hgd fun _ hK => wp_store_elem ty x y ho i o hx hoi p hy hin hz h1 hown hi fun w' h2 h3 => hK _ _ (h w' h2 h3)
/-- an element read off a slice -/
theorem sl_seg {i : Nat} {A : Option Addr} (h : Sl enc size w (.slice A n c) es) (hk : i < es.length) :
    ∃ b off, A = some ⟨b, off, none⟩ ∧ b < w.heap.size ∧ ∀ j v, (enc es[i])[j]? = some v → w.cell? ⟨b, off + i * size + j, none⟩ = some v := by
  obtain ⟨A', c', e, h1, h2, h3⟩ := h
  injection e with e1 e2 e3
  subst e1
  obtain ⟨b, off, rfl, hb, hc⟩ := h3 (by omega)
  exact ⟨b, off, rfl, hb, fun j v hv => hc i es[i] (List.getElem?_eq_getElem hk) j v hv⟩
end
section
variable {P : Program} (w : World)
theorem zeros_one (z : Value) (k : Nat) : (Builtin.zeroCells #[z] k) = (List.replicate k z).toArray := by
  apply Array.ext'
  apply List.ext_getElem?
  intro j
  by_cases hj : j < k
  · simp [Builtin.zeroCells, hj, Nat.mod_one]
  · simp [Builtin.zeroCells, hj]
/-- append(v, make([]T, m)...): zeros of one cell -/
theorem run_append_zeros (base : Nat) (t tx ty e : TypeId) (i : TypeInfo) (z : Value) (bytes : Nat) (ht : P.underlying t = some (.slice e)) (hx : P.underlying tx = some (.int .i64)) (hi : P.info? e = some i) (hz : i.zero = some z)
    (hsize : i.size = 1) (hby : i.bytes = bytes) (hzs : z.cells = #[z]) (hz1 : z.oneCell' = true)
    (v : Value) (n : Nat) (xs : List Value) (hown : w.ownsRow base e 1 v n xs) (m : Nat) (hm : 0 < m)
    (h63 : n + m ≤ maxLen) (hbytes : (n + m) * bytes ≤ 140737488355328) (hbase : base ≤ w.heap.size) :
    ∃ v' w', (Builtin.append_ #[t, tx] ty #[v, .int .i64 (m : Int)]).run P w = .ok v' w' ∧ w'.ownsRow base e 1 v' (n + m) (xs ++ List.replicate m z) ∧ w.grownBy w' v.ownBlock := by
  subst hby
  have hsmall : n + m ≤ 9223372036854775807 := by simp only [maxLen] at h63; omega
  have hw : IntKind.i64.wrap (m : Int) = m := by simp [IntKind.wrap, IntKind.bits, IntKind.signed]; omega
  have hm0 : ¬ ((m : Int) < 0) := by omega
  have hml : m * i.bytes ≤ (n + m) * i.bytes := Nat.mul_le_mul_right _ (Nat.le_add_left _ _)
  have hmb : ¬ (281474976710656 < (m : Int) * (i.bytes : Int)) := by
    rw [← Int.natCast_mul]; omega
  have hne : m ≠ 0 := by omega
  have hxl : xs.length = n := by have := hown.1; omega
  have hlen : (xs ++ List.replicate m z).length = n + m := by rw [List.length_append, List.length_replicate, hxl]
  have grown : ∀ (old : Nat) (row : Option Nat),
      (w.drew.alloc (.cells (xs.toArray ++ Builtin.zeroCells z.cells m ++ Builtin.zeroCells z.cells (grownCap w (n + m) old e - (n + m))) e)).ownsRow base e 1
        (.slice (some ⟨w.heap.size, 0, none⟩) (n + m) (grownCap w (n + m) old e)) (n + m) (xs ++ List.replicate m z) ∧
      w.grownBy (w.drew.alloc (.cells (xs.toArray ++ Builtin.zeroCells z.cells m ++ Builtin.zeroCells z.cells (grownCap w (n + m) old e - (n + m))) e)) row := by
    intro old row
    have hge := grownCap_ge w (n + m) old e
    have hcm : grownCap w (n + m) old e ≤ maxLen := grownCap_le_maxLen w (n + m) old e h63
    rw [hzs, zeros_one, zeros_one]
    refine ⟨⟨by rw [hlen, Nat.mul_one], .inr ⟨w.heap.size, _, _, rfl, hbase, heap_alloc_new w.drew _, hge, hcm, ?_, ?_⟩⟩, ⟨rfl, rfl, rfl, by simp, fun k hk _ => Go.heap_alloc_old (w := w.drew) (o := _) (h := hk)⟩⟩
    · simp only [Array.size_append, List.size_toArray, List.length_replicate, hxl]; omega
    · rw [Nat.mul_one, ← hlen]
      simp only [Array.toList_append]
      exact List.take_left
  rcases hown.2 with ⟨rfl, rfl⟩ | ⟨g, cap, cur, rfl, hbg, hg, hnc, hcm, hcs, htake⟩
  · have hx0 : xs = [] := List.eq_nil_of_length_eq_zero hxl
    subst hx0
    have hgr := grown 0 (Value.ownBlock (.slice none 0 0))
    have h63' : ¬ (9223372036854775807 < (m : Int)) := by omega
    have h48' : ¬ (281474976710656 < Builtin.nextslicecap m 0 * i.bytes) := by have := growslice_fits (need := m) (old := 0) (bytes := i.bytes) hm (by omega); omega
    simp only [Nat.zero_add, List.nil_append, Array.empty_append] at hgr ⊢
    refine ⟨_, _, ?_, hgr.1, hgr.2⟩
    simp [Builtin.append_, run_underlying ht, run_underlying hx, sizeOf, typeInfo, zeroValue, hi, hz, hsize, asInt, asIntOf, hw, hm0, hmb, hne, h63', h48', Question.forced, Builtin.firstCells, newRow, grownCap]
  · by_cases hroom : n + m ≤ cap
    · have hcs1 : cur.size = cap := by omega
      have hl : (List.replicate m z).length = m := List.length_replicate
      have hst := run_storeCells_at P g n e (List.replicate m z) 0 cur w hg (by rw [hl]; omega) (fun u hu => by rw [List.eq_of_mem_replicate hu]; exact hz1)
      simp only [Nat.add_zero] at hst
      have hz0 : (Builtin.zeroCells z.cells m).toList = List.replicate m z := by rw [hzs, zeros_one]
      refine ⟨.slice (some ⟨g, 0, none⟩) (n + m) cap, w.setRow g (cur.toList.take n ++ List.replicate m z ++ cur.toList.drop (n + (List.replicate m z).length)).toArray, ?_, ⟨by rw [hlen, Nat.mul_one], .inr ⟨g, cap, _, rfl, hbg, setRow_heap w g cur _ e _ hg, hroom, hcm, ?_, ?_⟩⟩, ⟨rfl, rfl, rfl, by simp, fun k _ hk => setRow_other w g k _ (fun e => hk (by simp [Value.ownBlock, e]))⟩⟩
      · simp [Builtin.append_, run_underlying ht, run_underlying hx, sizeOf, typeInfo, zeroValue, hi, hz, hsize, asInt, asIntOf, hw, hm0, hmb, hne, hroom, hz0, Addr.add_lit, hst]
      · simp only [List.size_toArray, List.length_append, List.length_take, List.length_drop, Array.length_toList, hl]; omega
      · rw [Nat.mul_one] at htake ⊢
        rw [htake, ← hlen]
        exact List.take_left
    · have holds : ∀ j u, xs[j]? = some u → w.drew.cell? ((⟨g, 0, none⟩ : Addr).add j) = some u := hown.cells (g := g) rfl
      have hfo := run_firstCells_some (P := P) w.drew i.size n ⟨g, 0, none⟩ n cap xs (by rw [hsize, Nat.mul_one]; exact hxl) holds
      rw [hsize] at hfo
      have h63' : ¬ (9223372036854775807 < ((n : Int) + (m : Int))) := by omega
      have h48' : ¬ (281474976710656 < Builtin.nextslicecap (n + m) cap * i.bytes) := by have := growslice_fits (need := n + m) (old := cap) (bytes := i.bytes) (by omega) hbytes; omega
      have hgr := grown cap (Value.ownBlock (.slice (some ⟨g, 0, none⟩) n cap))
      refine ⟨_, _, ?_, hgr.1, hgr.2⟩
      simp [Builtin.append_, run_underlying ht, run_underlying hx, sizeOf, typeInfo, zeroValue, hi, hz, hsize, asInt, asIntOf, hw, hm0, hmb, hne, hroom, h63', h48', Question.forced, hfo, newRow, grownCap]
theorem wp_append_zeros {op : Oper} {a : Act} {K : Act → World → Prop} {Q : Exit → Act → World → Prop} (s y : Operand) (t tx : TypeId)
    (ho : op.op = .call { callee := .builtin .append, args := #[s, y], argTypes := #[t, tx] })
    (base : Nat) (e : TypeId) (i : TypeInfo) (z : Value) (bytes : Nat) (ht : P.underlying t = some (.slice e)) (hx : P.underlying tx = some (.int .i64)) (hi : P.info? e = some i) (hz : i.zero = some z)
    (hsize : i.size = 1) (hby : i.bytes = bytes) (hzs : z.cells = #[z]) (hz1 : z.oneCell' = true)
    (v : Value) (n : Nat) (xs : List Value) (hs : a.eval s = v) (hown : w.ownsRow base e 1 v n xs) (m : Nat) (hy : a.eval y = .int .i64 (m : Int)) (hm : 0 < m)
    (h63 : n + m ≤ maxLen) (hbytes : (n + m) * bytes ≤ 140737488355328) (hbase : base ≤ w.heap.size)
    (h : ∀ v' w', w'.ownsRow base e 1 v' (n + m) (xs ++ List.replicate m z) → Below base w w' → K (a.put op.dst v') w') : op.wp P a w K Q := by
  obtain ⟨v', w', hr, h2, h3⟩ := run_append_zeros (P := P) w base t tx op.type e i z bytes ht hx hi hz hsize hby hzs hz1 v n xs hown m hm h63 hbytes hbase
  unfold Oper.wp execOp
  simp only [ho, resolve, invoke, builtin, Sem.run_bind, Sem.run_pure, Result.andThen_ok, List.map_toArray, List.map_cons, List.map_nil, hs, hy, hr]
  exact h v' w' h2 ((Below.refl _ _).grown h3 hbase (own_ge hown))
theorem wpList_append_zeros {ops : Array Oper} {rest : List Oper} {op : Oper} {a : Act} {Q : Exit → Act → World → Prop} (hgd : op.guard = none) (s y : Operand) (t tx : TypeId)
    (ho : op.op = .call { callee := .builtin .append, args := #[s, y], argTypes := #[t, tx] })
    (base : Nat) (e : TypeId) (i : TypeInfo) (z : Value) (bytes : Nat) (ht : P.underlying t = some (.slice e)) (hx : P.underlying tx = some (.int .i64)) (hi : P.info? e = some i) (hz : i.zero = some z)
    (hsize : i.size = 1) (hby : i.bytes = bytes) (hzs : z.cells = #[z]) (hz1 : z.oneCell' = true)
    (v : Value) (n : Nat) (xs : List Value) (hs : a.eval s = v) (hown : w.ownsRow base e 1 v n xs) (m : Nat) (hy : a.eval y = .int .i64 (m : Int)) (hm : 0 < m)
    (h63 : n + m ≤ maxLen) (hbytes : (n + m) * bytes ≤ 140737488355328) (hbase : base ≤ w.heap.size)
    (h : ∀ v' w', w'.ownsRow base e 1 v' (n + m) (xs ++ List.replicate m z) → Below base w w' → wpList P ops Q rest (a.put op.dst v') w') : wpList P ops Q (op :: rest) a w :=
  wpList_plain hgd fun _ hK => wp_append_zeros w s y t tx ho base e i z bytes ht hx hi hz hsize hby hzs hz1 v n xs hs hown m hy hm h63 hbytes hbase fun v' w' h2 h3 => hK _ _ (h v' w' h2 h3)
end
end Go.Proofs.YtdmbcjckgfjcaaaGreatDoor
