/- Layer bag: the document's own answer: Norm. -/
import Derived.Test.YtggfckednjojgaaBagUse
import Derived.Deep.RegionLaw
namespace Go.Proofs.Ytggfckednjojgaa
open Go.RowKit

/-- append of a slice that came in, whatever it is, in a region that draws its order -/
theorem step_append_sl {P : Program} {α : Type} {enc : α → List Value} {ops : Array Oper} {o : Oper} {a : Act} {w : World} {K : Act → World → Prop} {Q : Exit → Act → World → Prop} {E : Prop} (hgd : o.guard = none) (s y : Operand) (t : TypeId)
    (ho : o.op = .call { callee := .builtin .append, args := #[s, y], argTypes := #[t, t] })
    (base : Nat) (e : TypeId) (i : TypeInfo) (z : Value) (size bytes : Nat) (ht : P.underlying t = some (.slice e)) (hi : P.info? e = some i) (hz : i.zero = some z)
    (hsize : i.size = size) (hby : i.bytes = bytes) (hzs : z.cells.size = size) (hsz : 0 < size)
    (v : Value) (n : Nat) (xs : List Value) (hs : a.eval s = v) (hown : w.ownsRow base e size v n xs) (x : Value) (l : List α) (hy : a.eval y = x) (hx : Sl enc size w x l) (henc : ∀ p, (enc p).length = size) (h1 : ∀ p, ∀ u ∈ enc p, u.oneCell' = true)
    (h63 : n + l.length ≤ maxLen) (hbytes : (n + l.length) * bytes ≤ 140737488355328) (hbase : base ≤ w.heap.size)
    (h : ∀ v' w', w'.ownsRow base e size v' (n + l.length) (xs ++ l.flatMap enc) → w.grownBy w' v.ownBlock → K (a.put o.dst v') w') :
    if Region.wanted o (yielded ops a.tmps) = true then Oper.wp P o a w K Q else E := by
  have hw : Region.wanted o (yielded ops a.tmps) = true := by simp [Region.wanted, hgd]
  rw [if_pos hw]
  obtain ⟨v', w', hrun, h2, h3⟩ := run_append_sl (P := P) w base t o.type e i z size bytes ht hi hz hsize hby hzs hsz v n xs hown x l hx henc h1 h63 hbytes hbase
  unfold Oper.wp execOp
  simp only [ho, resolve, invoke, builtin, Sem.run_bind, Sem.run_pure, Result.andThen_ok, List.map_toArray, List.map_cons, List.map_nil, hs, hy, hrun]
  exact h v' w' h2 h3

theorem own_cases {base : Nat} {W : World} {v : Value} {l : List Int} {n : Nat} (h : W.ownsRow base 3 1 v n (l.flatMap ic)) (hl : l.length = n) : (v = .slice none 0 0 ∧ n = 0 ∧ l = []) ∨ ∃ g c, v = .slice (some ⟨g, 0, none⟩) n c ∧ n ≤ c ∧ c ≤ 2 ^ 63 - 1 := by
  rcases h.2 with ⟨rfl, h0⟩ | ⟨g, cap, cur, rfl, _, _, h3, h4, _⟩
  · exact .inl ⟨rfl, h0, List.eq_nil_of_length_eq_zero (hl.trans h0)⟩
  · exact .inr ⟨g, cap, rfl, h3, by unfold maxLen at h4; omega⟩
theorem wp_at {P : Program} {c : Code} {Q : Exit → Act → World → Prop} {a : Act} {B : Nat} {w0 w : World} (hb : Below B w0 w) (h : ∀ W, Below B w0 W → Code.wp P c Q a W) : Code.wp P c Q a w := h w hb
set_option maxRecDepth 100000 in
set_option maxHeartbeats 8000000 in
theorem rNorm_any (v : Value) (b : List Int) (w : World) (h : Ints w v b) (hb : b.length ≤ 4000000) :
    Calls Try.prog 18 #[v] w fun e w' => ∃ v', e = .returned v' ∧ w'.ownsRow w.heap.size 3 1 v' (normB b).length ((normB b).flatMap ic) ∧ Below w.heap.size w w' := by
  obtain ⟨i0, hi, hz0, hz1, hz2⟩ := info_parts infoI
  obtain ⟨A, c, rfl, h1, h2⟩ := sl_form h
  have HB := hide h
  clear h
  go_enter Try.func18, Try.ntmps18
  go_wp2
  go_loopw [3, 4] (fun v i wr => ∃ k : Nat, k ≤ b.length ∧ i = .int .i64 k ∧ wr.ownsRow w.heap.size 3 1 v (normB (b.take k)).length ((normB (b.take k)).flatMap ic) ∧ Below w.heap.size w wr) (fun _ i _ => b.length - (Go.RowKit.intOf i).toNat)
  case atStart => exact ⟨0, Nat.zero_le _, rfl, World.ownsRow_nil _ _ _ _, Below.refl _ _⟩
  case round =>
    obtain ⟨k, hk, rfl, hown, hbw⟩ := hrel
    by_cases hlt : k < b.length
    · have hnt := norm_take b k hlt
      have hol : (normB (b.take k)).length = k := by rw [norm_len, List.length_take]; omega
      have hri := norm_rises (b.take k)
      obtain ⟨b1, o1, rfl, -, d0⟩ := ints_at (HB.out.below hbw) hlt
      generalize b[k] = x at *
      generalize normB (b.take k) = O at *
      have HN := hide hnt
      clear hnt
      have HI := hide (own_ints hown)
      rw [hol] at hown
      have HO := hide hown
      have hA := own_cases hown hol
      clear hown
      have hmem : ∀ (p : Int), ∀ u ∈ ic p, u.oneCell' = true := fun p u hu => by simp [ic] at hu; subst hu; rfl
      have HMEM := hide hmem
      clear hmem
      rcases hA with ⟨rfl, rfl, rfl⟩ | ⟨g, c2, rfl, p1, p2⟩
      · go_wp2
        go_loopw [5] (fun i ws => i = .int .i64 0 ∧ Below wr.heap.size wr ws) (fun i _ => 1)
        case atStart => exact ⟨rfl, Below.refl _ _⟩
        case round =>
          obtain ⟨rfl, hbv⟩ := hrel
          have d1 := keepc hbv d0
          have HAT := hide (show insB x [] = ([] : List Int) ++ x :: [] from rfl)
          go_wp2
          go_quiet (fail)
          go_wp2
          refine wp_at (bdrewN hbv _) ?_
          intro W hbW
          have HT := hide (fun W' (_ : Below W.heap.size W W') => (Sl.nil_ : Sl ic 1 W' (.slice none 0 0) []))
          have HD := hide (fun W' (_ : Below W.heap.size W W') => (Sl.nil_ : Sl ic 1 W' (.slice none 0 0) []))
          have d3 := keepc hbW d0
          rw [Nat.add_zero] at d3
          have htl : ([] : List Int).length = 0 := rfl
          have hdl : ([] : List Int).length = 0 := rfl
          have HDR := hide (show Below W.heap.size W W.drew from (Below.refl _ _).drew)
          go_wp2_with fail
          go_region_law
            (first
              | (refine step_append_sl (enc := ic) (by rfl) _ _ 22 (by rfl) W.heap.size 3 i0 (.int .i64 0) 1 8 Try.underlying22 hi hz0 hz1 hz2 rfl (by decide) v7 (0 + 1) _ (by go_simp) hown7 (.slice none 0 0) (([] : List Int)) (by go_simp) (HD.out _ hb7.out) ic_len HMEM.out (by simp only [maxLen]; omega) (by omega) hb7.out.size ?_; intro v8 w8 hown8 hg8; have hb8 := hide (hb7.out.grown hg8 hb7.out.size (own_ge hown7)))
              | (refine step_append_own_g (by rfl) _ _ 22 (by rfl) W.heap.size 3 i0 (.int .i64 0) 1 8 Try.underlying22 hi hz0 hz1 hz2 rfl (by decide) v6 0 _ (by go_simp) (hown6.alloc _) ⟨w6.heap.size, 0, none⟩ 1 1 [.int .i64 x] (by go_simp) rfl (row_at _ _ _ rfl) (by simp [Value.oneCell']) (by simp only [maxLen]; omega) (by omega) (Nat.le_trans hb6.out.size (by simp)) ?_; intro v7 w7 hown7 hg7; have hb7 := hide ((hb6.out.alloc hb6.out.size _).grown hg7 (Nat.le_trans hb6.out.size (by simp)) (own_ge hown6)))
              | (refine step_append_own_g (by rfl) _ _ 22 (by rfl) W.heap.size 3 i0 (.int .i64 0) 1 8 Try.underlying22 hi hz0 hz1 hz2 rfl (by decide) v6 0 _ (by go_simp) hown6 ⟨W.heap.size, 0, none⟩ 1 1 [.int .i64 x] (by go_simp) rfl (fun j u h => hg6.cell (row_at _ _ _ rfl j u h) (by simp [Value.ownBlock])) (by simp [Value.oneCell']) (by simp only [maxLen]; omega) (by omega) hb6.out.size ?_; intro v7 w7 hown7 hg7; have hb7 := hide (hb6.out.grown hg7 hb6.out.size (own_ge hown6)))
              | (refine step_append_sl (enc := ic) (by rfl) _ _ 22 (by rfl) W.heap.size 3 i0 (.int .i64 0) 1 8 Try.underlying22 hi hz0 hz1 hz2 rfl (by decide) (.slice none 0 0) 0 [] (by go_simp) (World.ownsRow_nil _ _ _ _) (.slice none 0 0) (([] : List Int)) (by go_simp) (by first | exact HT.out _ HDR.out | exact HT.out _ (HDR.out.alloc (Nat.le_refl _) _)) ic_len HMEM.out (by simp only [maxLen]; omega) (by omega) (by simp) ?_; intro v6 w6 hown6 hg6; rw [Nat.zero_add, List.nil_append, htl] at hown6; have hb6 := hide (show Below W.heap.size W w6 from by first | exact HDR.out.grown hg6 (Nat.le_refl _) (fun k e => by simp [Value.ownBlock] at e) | exact (HDR.out.alloc (Nat.le_refl _) _).grown hg6 (by simp) (fun k e => by simp [Value.ownBlock] at e)); have d6 := keepc hb6.out d3))
          all_goals
            have hlen : 0 + 1 + (([] : List Int)).length = 0 + 1 := by omega
            rw [hlen] at hown8
            have hO8 := hide (show w8.ownsRow W.heap.size 3 1 v8 (0 + 1) ((insB x ([] : List Int)).flatMap ic) from by rw [HAT.out]; simpa [ic] using hown8)
            have hln := hide (show (insB x ([] : List Int)).length = 0 + 1 by rw [ins_len, hol])
            clear hown8
            go_wp2
            go_roundw
            case rel => exact ⟨0 + 1, by omega, by go_num, by rw [HN.out, hln.out]; exact own_base hO8.out (Nat.le_trans hbw.size hbW.size), (hbw.trans (hbW.mono hbw.size)).trans (hb8.out.mono (Nat.le_trans hbw.size hbW.size))⟩
            case measure => simp [Go.RowKit.intOf]; omega
      · go_wp2
        go_loopw [5] (fun i ws => ∃ j : Nat, j ≤ k ∧ i = .int .i64 j ∧ Hid (∀ y ∈ O.take j, y ≤ x) ∧ Below wr.heap.size wr ws) (fun i _ => k - (Go.RowKit.intOf i).toNat)
        case atStart => exact ⟨0, Nat.zero_le _, rfl, hide (by simp), Below.refl _ _⟩
        case round =>
          obtain ⟨j, hj, rfl, HJ, hbv⟩ := hrel
          have d1 := keepc hbv d0
          by_cases hjl : j < k
          · obtain ⟨b2, o2, e2, -, d2⟩ := ints_at (k := j) (HI.out.below hbv) (by omega)
            injection e2 with e2
            injection e2 with e2 e3
            subst e2
            subst e3
            rw [Nat.zero_add] at d2
            have HS := hide (show O.take (j + 1) = O.take j ++ [O[j]] from List.take_succ_eq_append_getElem (by omega))
            have HG := hide (show O[j]? = some O[j] from List.getElem?_eq_getElem (by omega))
            generalize O[j] = y at *
            by_cases hyx : y ≤ x
            · have q : decide (y ≤ x) = true := decide_eq_true hyx
              go_wp2
              go_quiet (fail)
              go_wp2
              go_roundw
              case rel => exact ⟨j + 1, by omega, by go_num, hide (fun z hz => by rw [HS.out] at hz; rcases List.mem_append.1 hz with hz | hz; exact HJ.out z hz; rw [List.mem_singleton.1 hz]; exact hyx), bdrewN hbv _⟩
              case measure => simp [Go.RowKit.intOf]; omega
            · have q : decide (y ≤ x) = false := decide_eq_false hyx
              have HAT := hide (ins_at O j (by omega) HJ.out (fun z hz => by rw [HG.out] at hz; injection hz with hz; omega))
              go_wp2
              go_quiet (fail)
              go_wp2
              refine wp_at (bdrewN hbv _) ?_
              intro W hbW
              have HT := hide (fun W' (hb : Below W.heap.size W W') => sl_take (j := j) ((HI.out.below hbW).below hb) hj)
              have HD := hide (fun W' (hb : Below W.heap.size W W') => show Sl ic 1 W' (.slice (some ⟨g, j, none⟩) (k - j) (c2 - j)) (O.drop j) from by simpa [add_none] using sl_cut (j := j) ((HI.out.below hbW).below hb) hj)
              have d3 := keepc hbW d0
              have htl : (O.take j).length = j := by rw [List.length_take]; omega
              have hdl : (O.drop j).length = k - j := by rw [List.length_drop]; omega
              have hjc : j ≤ c2 := by omega
              have hjz : (j : Int) ≤ (c2 : Int) := by omega
              have HDR := hide (show Below W.heap.size W W.drew from (Below.refl _ _).drew)
              have hcj : c2 ≠ j := by omega
              clear d0 d1 d2 hbv HJ HS HG
              go_wp2_with fail
              go_region_law
                (first
                  | (refine step_append_sl (enc := ic) (by rfl) _ _ 22 (by rfl) W.heap.size 3 i0 (.int .i64 0) 1 8 Try.underlying22 hi hz0 hz1 hz2 rfl (by decide) v7 (j + 1) _ (by go_simp) hown7 (.slice (some ⟨g, j, none⟩) (k - j) (c2 - j)) (O.drop j) (by go_simp) (HD.out _ hb7.out) ic_len HMEM.out (by simp only [maxLen]; omega) (by omega) hb7.out.size ?_; intro v8 w8 hown8 hg8; have hb8 := hide (hb7.out.grown hg8 hb7.out.size (own_ge hown7)))
                  | (refine step_append_own_g (by rfl) _ _ 22 (by rfl) W.heap.size 3 i0 (.int .i64 0) 1 8 Try.underlying22 hi hz0 hz1 hz2 rfl (by decide) v6 j _ (by go_simp) (hown6.alloc _) ⟨w6.heap.size, 0, none⟩ 1 1 [.int .i64 x] (by go_simp) rfl (row_at _ _ _ rfl) (by simp [Value.oneCell']) (by simp only [maxLen]; omega) (by omega) (Nat.le_trans hb6.out.size (by simp)) ?_; intro v7 w7 hown7 hg7; have hb7 := hide ((hb6.out.alloc hb6.out.size _).grown hg7 (Nat.le_trans hb6.out.size (by simp)) (own_ge hown6)))
                  | (refine step_append_own_g (by rfl) _ _ 22 (by rfl) W.heap.size 3 i0 (.int .i64 0) 1 8 Try.underlying22 hi hz0 hz1 hz2 rfl (by decide) v6 j _ (by go_simp) hown6 ⟨W.heap.size, 0, none⟩ 1 1 [.int .i64 x] (by go_simp) rfl (fun j u h => hg6.cell (row_at _ _ _ rfl j u h) (by simp [Value.ownBlock])) (by simp [Value.oneCell']) (by simp only [maxLen]; omega) (by omega) hb6.out.size ?_; intro v7 w7 hown7 hg7; have hb7 := hide (hb6.out.grown hg7 hb6.out.size (own_ge hown6)))
                  | (refine step_append_sl (enc := ic) (by rfl) _ _ 22 (by rfl) W.heap.size 3 i0 (.int .i64 0) 1 8 Try.underlying22 hi hz0 hz1 hz2 rfl (by decide) (.slice none 0 0) 0 [] (by go_simp) (World.ownsRow_nil _ _ _ _) (.slice (some ⟨g, 0, none⟩) j c2) (O.take j) (by go_simp) (by first | exact HT.out _ HDR.out | exact HT.out _ (HDR.out.alloc (Nat.le_refl _) _)) ic_len HMEM.out (by simp only [maxLen]; omega) (by omega) (by simp) ?_; intro v6 w6 hown6 hg6; rw [Nat.zero_add, List.nil_append, htl] at hown6; have hb6 := hide (show Below W.heap.size W w6 from by first | exact HDR.out.grown hg6 (Nat.le_refl _) (fun k e => by simp [Value.ownBlock] at e) | exact (HDR.out.alloc (Nat.le_refl _) _).grown hg6 (by simp) (fun k e => by simp [Value.ownBlock] at e)); have d6 := keepc hb6.out d3))
              all_goals
                have hlen : j + 1 + (O.drop j).length = k + 1 := by omega
                rw [hlen] at hown8
                have hO8 := hide (show w8.ownsRow W.heap.size 3 1 v8 (k + 1) ((insB x O).flatMap ic) from by rw [HAT.out]; simpa [ic] using hown8)
                have hln := hide (show (insB x O).length = k + 1 by rw [ins_len, hol])
                clear hown8
                go_wp2
                go_roundw
                case rel => exact ⟨k + 1, by omega, by go_num, by rw [HN.out, hln.out]; exact own_base hO8.out (Nat.le_trans hbw.size hbW.size), (hbw.trans (hbW.mono hbw.size)).trans (hb8.out.mono (Nat.le_trans hbw.size hbW.size))⟩
                case measure => simp [Go.RowKit.intOf]; omega
          · obtain rfl : j = k := by omega
            have HAT := hide (ins_at O j (by omega) HJ.out (fun z hz => by rw [List.getElem?_eq_none (by omega)] at hz; cases hz))
            go_wp2
            go_quiet (fail)
            go_wp2
            refine wp_at (bdrewN hbv _) ?_
            intro W hbW
            by_cases hcj : c2 = j
            · subst hcj
              have HT := hide (fun W' (hb : Below W.heap.size W W') => sl_take (j := c2) ((HI.out.below hbW).below hb) (Nat.le_refl _))
              have HD := hide (fun W' (hb : Below W.heap.size W W') => show Sl ic 1 W' (.slice (some ⟨g, 0, none⟩) 0 0) (O.drop c2) from by simpa using sl_cut0 (j := c2) ((HI.out.below hbW).below hb) (Nat.le_refl _))
              have d3 := keepc hbW d0
              have htl : (O.take c2).length = c2 := by rw [List.length_take]; omega
              have hdl : (O.drop c2).length = 0 := by rw [List.length_drop]; omega
              have HDR := hide (show Below W.heap.size W W.drew from (Below.refl _ _).drew)
              go_wp2_with fail
              go_region_law
                (first
                  | (refine step_append_sl (enc := ic) (by rfl) _ _ 22 (by rfl) W.heap.size 3 i0 (.int .i64 0) 1 8 Try.underlying22 hi hz0 hz1 hz2 rfl (by decide) v7 (c2 + 1) _ (by go_simp) hown7 (.slice (some ⟨g, 0, none⟩) 0 0) (O.drop c2) (by go_simp) (HD.out _ hb7.out) ic_len HMEM.out (by simp only [maxLen]; omega) (by omega) hb7.out.size ?_; intro v8 w8 hown8 hg8; have hb8 := hide (hb7.out.grown hg8 hb7.out.size (own_ge hown7)))
                  | (refine step_append_own_g (by rfl) _ _ 22 (by rfl) W.heap.size 3 i0 (.int .i64 0) 1 8 Try.underlying22 hi hz0 hz1 hz2 rfl (by decide) v6 c2 _ (by go_simp) (hown6.alloc _) ⟨w6.heap.size, 0, none⟩ 1 1 [.int .i64 x] (by go_simp) rfl (row_at _ _ _ rfl) (by simp [Value.oneCell']) (by simp only [maxLen]; omega) (by omega) (Nat.le_trans hb6.out.size (by simp)) ?_; intro v7 w7 hown7 hg7; have hb7 := hide ((hb6.out.alloc hb6.out.size _).grown hg7 (Nat.le_trans hb6.out.size (by simp)) (own_ge hown6)))
                  | (refine step_append_own_g (by rfl) _ _ 22 (by rfl) W.heap.size 3 i0 (.int .i64 0) 1 8 Try.underlying22 hi hz0 hz1 hz2 rfl (by decide) v6 c2 _ (by go_simp) hown6 ⟨W.heap.size, 0, none⟩ 1 1 [.int .i64 x] (by go_simp) rfl (fun j u h => hg6.cell (row_at _ _ _ rfl j u h) (by simp [Value.ownBlock])) (by simp [Value.oneCell']) (by simp only [maxLen]; omega) (by omega) hb6.out.size ?_; intro v7 w7 hown7 hg7; have hb7 := hide (hb6.out.grown hg7 hb6.out.size (own_ge hown6)))
                  | (refine step_append_sl (enc := ic) (by rfl) _ _ 22 (by rfl) W.heap.size 3 i0 (.int .i64 0) 1 8 Try.underlying22 hi hz0 hz1 hz2 rfl (by decide) (.slice none 0 0) 0 [] (by go_simp) (World.ownsRow_nil _ _ _ _) (.slice (some ⟨g, 0, none⟩) c2 c2) (O.take c2) (by go_simp) (by first | exact HT.out _ HDR.out | exact HT.out _ (HDR.out.alloc (Nat.le_refl _) _)) ic_len HMEM.out (by simp only [maxLen]; omega) (by omega) (by simp) ?_; intro v6 w6 hown6 hg6; rw [Nat.zero_add, List.nil_append, htl] at hown6; have hb6 := hide (show Below W.heap.size W w6 from by first | exact HDR.out.grown hg6 (Nat.le_refl _) (fun k e => by simp [Value.ownBlock] at e) | exact (HDR.out.alloc (Nat.le_refl _) _).grown hg6 (by simp) (fun k e => by simp [Value.ownBlock] at e)); have d6 := keepc hb6.out d3))
              all_goals
                have hlen : c2 + 1 + (O.drop c2).length = c2 + 1 := by omega
                rw [hlen] at hown8
                have hO8 := hide (show w8.ownsRow W.heap.size 3 1 v8 (c2 + 1) ((insB x O).flatMap ic) from by rw [HAT.out]; simpa [ic] using hown8)
                have hln := hide (show (insB x O).length = c2 + 1 by rw [ins_len, hol])
                clear hown8
                go_wp2
                go_roundw
                case rel => exact ⟨c2 + 1, by omega, by go_num, by rw [HN.out, hln.out]; exact own_base hO8.out (Nat.le_trans hbw.size hbW.size), (hbw.trans (hbW.mono hbw.size)).trans (hb8.out.mono (Nat.le_trans hbw.size hbW.size))⟩
                case measure => simp [Go.RowKit.intOf]; omega
            · clear d1
              have HT := hide (fun W' (hb : Below W.heap.size W W') => sl_take (j := j) ((HI.out.below hbW).below hb) (Nat.le_refl _))
              have HD := hide (fun W' (hb : Below W.heap.size W W') => show Sl ic 1 W' (.slice (some ⟨g, j, none⟩) 0 (c2 - j)) (O.drop j) from by simpa [add_none] using sl_cut (j := j) ((HI.out.below hbW).below hb) (Nat.le_refl _))
              have d3 := keepc hbW d0
              have htl : (O.take j).length = j := by rw [List.length_take]; omega
              have hdl : (O.drop j).length = 0 := by rw [List.length_drop]; omega
              have hjc : j ≤ c2 := by omega
              have hjz : (j : Int) ≤ (c2 : Int) := by omega
              have HDR := hide (show Below W.heap.size W W.drew from (Below.refl _ _).drew)
              go_wp2_with fail
              go_region_law
                (first
                  | (refine step_append_sl (enc := ic) (by rfl) _ _ 22 (by rfl) W.heap.size 3 i0 (.int .i64 0) 1 8 Try.underlying22 hi hz0 hz1 hz2 rfl (by decide) v7 (j + 1) _ (by go_simp) hown7 (.slice (some ⟨g, j, none⟩) 0 (c2 - j)) (O.drop j) (by go_simp) (HD.out _ hb7.out) ic_len HMEM.out (by simp only [maxLen]; omega) (by omega) hb7.out.size ?_; intro v8 w8 hown8 hg8; have hb8 := hide (hb7.out.grown hg8 hb7.out.size (own_ge hown7)))
                  | (refine step_append_own_g (by rfl) _ _ 22 (by rfl) W.heap.size 3 i0 (.int .i64 0) 1 8 Try.underlying22 hi hz0 hz1 hz2 rfl (by decide) v6 j _ (by go_simp) (hown6.alloc _) ⟨w6.heap.size, 0, none⟩ 1 1 [.int .i64 x] (by go_simp) rfl (row_at _ _ _ rfl) (by simp [Value.oneCell']) (by simp only [maxLen]; omega) (by omega) (Nat.le_trans hb6.out.size (by simp)) ?_; intro v7 w7 hown7 hg7; have hb7 := hide ((hb6.out.alloc hb6.out.size _).grown hg7 (Nat.le_trans hb6.out.size (by simp)) (own_ge hown6)))
                  | (refine step_append_own_g (by rfl) _ _ 22 (by rfl) W.heap.size 3 i0 (.int .i64 0) 1 8 Try.underlying22 hi hz0 hz1 hz2 rfl (by decide) v6 j _ (by go_simp) hown6 ⟨W.heap.size, 0, none⟩ 1 1 [.int .i64 x] (by go_simp) rfl (fun j u h => hg6.cell (row_at _ _ _ rfl j u h) (by simp [Value.ownBlock])) (by simp [Value.oneCell']) (by simp only [maxLen]; omega) (by omega) hb6.out.size ?_; intro v7 w7 hown7 hg7; have hb7 := hide (hb6.out.grown hg7 hb6.out.size (own_ge hown6)))
                  | (refine step_append_sl (enc := ic) (by rfl) _ _ 22 (by rfl) W.heap.size 3 i0 (.int .i64 0) 1 8 Try.underlying22 hi hz0 hz1 hz2 rfl (by decide) (.slice none 0 0) 0 [] (by go_simp) (World.ownsRow_nil _ _ _ _) (.slice (some ⟨g, 0, none⟩) j c2) (O.take j) (by go_simp) (by first | exact HT.out _ HDR.out | exact HT.out _ (HDR.out.alloc (Nat.le_refl _) _)) ic_len HMEM.out (by simp only [maxLen]; omega) (by omega) (by simp) ?_; intro v6 w6 hown6 hg6; rw [Nat.zero_add, List.nil_append, htl] at hown6; have hb6 := hide (show Below W.heap.size W w6 from by first | exact HDR.out.grown hg6 (Nat.le_refl _) (fun k e => by simp [Value.ownBlock] at e) | exact (HDR.out.alloc (Nat.le_refl _) _).grown hg6 (by simp) (fun k e => by simp [Value.ownBlock] at e)); have d6 := keepc hb6.out d3))
              all_goals
                have hlen : j + 1 + (O.drop j).length = j + 1 := by omega
                rw [hlen] at hown8
                have hO8 := hide (show w8.ownsRow W.heap.size 3 1 v8 (j + 1) ((insB x O).flatMap ic) from by rw [HAT.out]; simpa [ic] using hown8)
                have hln := hide (show (insB x O).length = j + 1 by rw [ins_len, hol])
                clear hown8
                go_wp2
                go_roundw
                case rel => exact ⟨j + 1, by omega, by go_num, by rw [HN.out, hln.out]; exact own_base hO8.out (Nat.le_trans hbw.size hbW.size), (hbw.trans (hbW.mono hbw.size)).trans (hb8.out.mono (Nat.le_trans hbw.size hbW.size))⟩
                case measure => simp [Go.RowKit.intOf]; omega
    · have hkk : k = b.length := by omega
      subst hkk
      rw [List.take_of_length_le (Nat.le_refl _)] at hown
      go_wp2
      go_ret
      exact ⟨_, rfl, hown, hbw⟩
end Go.Proofs.Ytggfckednjojgaa
