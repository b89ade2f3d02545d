/- The statements' own helpers: some, same. -/
import Derived.Test.YtbnnhalbgkaedaaRead
namespace Go.Proofs.Ytbnnhalbgkaedaa
open Go.RowKit

def someF (b : Int) : PP := if b % 33 = 0 then (0, 0) else if b % 33 ≤ 16 then (1, b % 33) else (2, b % 33 - 16)
theorem bytes_at {w : World} {A : Option Addr} {n c : Nat} {l : List Int} (h : Bytes w (.slice A n c) l) {k : Nat} (hk : k < l.length) :
    ∃ b off, A = some ⟨b, off, none⟩ ∧ b < w.heap.size ∧ w.cell? ⟨b, off + k, none⟩ = some (.int .u8 l[k]) := by
  obtain ⟨A', c', e, h1, h2, h3⟩ := h
  injection e with e1 e2 e3
  subst e1
  obtain ⟨b, off, rfl, hb, hc⟩ := h3 (by omega)
  have := hc k l[k] (List.getElem?_eq_getElem hk)
  exact ⟨b, off, rfl, hb, by simpa using this 0 _ rfl⟩

set_option maxHeartbeats 2000000 in
theorem some_any (v : Value) (l : List Int) (w : World) (hl : Bytes w v l) (hr : ∀ b ∈ l, 0 ≤ b ∧ b ≤ 255) (hlen : l.length ≤ 1000000) :
    Calls Try.prog 25 #[v] w fun e w' => ∃ r, e = .returned r ∧ w'.ownsRow w.heap.size 32 2 r (l.map someF).length ((l.map someF).flatMap pc) ∧ Below w.heap.size w w' := by
  obtain ⟨i0, hi, hz0, hz1, hz2⟩ := info_parts info32
  have hl' := hl
  obtain ⟨A, c, rfl, h1, h2, -⟩ := hl'
  unfold maxLen at h2
  have HL := hide hl
  have HR := hide hr
  clear hl hr
  go_enter Try.func25, Try.ntmps25
  go_wp2
  go_loopw [3, 4] (fun r i wr => ∃ k : Nat, k ≤ l.length ∧ i = .int .i64 k ∧ wr.ownsRow w.heap.size 32 2 r k (((l.take k).map someF).flatMap pc) ∧ Below w.heap.size w wr) (fun _ i _ => l.length - (intOf i).toNat)
  case atStart => exact ⟨0, Nat.zero_le _, rfl, World.ownsRow_nil _ _ _ _, Below.refl _ _⟩
  case round =>
    obtain ⟨k, hk, rfl, hown, hb⟩ := hrel
    by_cases hlt : k < l.length
    · obtain ⟨b, off, rfl, hbl, c0⟩ := bytes_at (HL.out.below hb) hlt
      have hx := HR.out l[k] (List.getElem_mem hlt)
      have hsn : ∀ p, someF l[k] = p → ((l.take (k + 1)).map someF).flatMap pc = ((l.take k).map someF).flatMap pc ++ pc p := by
        rintro p rfl
        rw [List.take_succ_eq_append_getElem hlt, List.map_append, List.flatMap_append]; simp only [List.map_cons, List.map_nil, List.flatMap_cons, List.flatMap_nil, List.append_nil]
      have HS := hide hsn
      clear hsn
      have hbs := hb.size
      rcases (show l[k] % 33 = 0 ∨ (1 ≤ l[k] % 33 ∧ l[k] % 33 ≤ 16) ∨ 17 ≤ l[k] % 33 by omega) with h0 | h1' | h2'
      · have e0 : (l[k] % 33 == 0) = true := by simpa using h0
        have HF := hide (HS.out (0, 0) (by unfold someF; rw [if_pos h0]))
        clear h0
        go_wp2_with (at_builtin; refine wpList_append_own _ rfl _ _ 22 rfl w.heap.size 32 i0 (.agg #[.int .i64 0, .int .i64 0]) 2 16 Try.underlying22 hi hz0 hz1 hz2 rfl (by decide) _ _ _ rfl (hown.alloc _) ⟨_, 0, none⟩ 1 1 [.int .i64 0, .int .i64 0] rfl rfl (row_at _ _ _ (by simp)) (by simp [Value.oneCell']) (by simp only [maxLen]; omega) (by omega) (by simp; omega) ?_; intro v' w1 hown' hgrow _)
        go_roundw
        case rel => exact ⟨k + 1, by omega, by go_num, by rw [HF.out]; exact hown', (hb.alloc hbs _).grown hgrow (by simp; omega) (own_ge hown)⟩
        case measure => simp [intOf]; omega
      · have e0 : (l[k] % 33 == 0) = false := by rw [beq_eq_false_iff_ne]; omega
        have HF := hide (HS.out (1, l[k] % 33) (by unfold someF; rw [if_neg (by omega), if_pos (by omega)]))
        go_wp2_with (at_builtin; refine wpList_append_own _ rfl _ _ 22 rfl w.heap.size 32 i0 (.agg #[.int .i64 0, .int .i64 0]) 2 16 Try.underlying22 hi hz0 hz1 hz2 rfl (by decide) _ _ _ rfl (hown.alloc _) ⟨_, 0, none⟩ 1 1 [.int .i64 1, .int .i64 (l[k] % 33)] rfl rfl (row_at _ _ _ (by simp)) (by simp [Value.oneCell']) (by simp only [maxLen]; omega) (by omega) (by simp; omega) ?_; intro v' w1 hown' hgrow _)
        go_roundw
        case rel => exact ⟨k + 1, by omega, by go_num, by rw [HF.out]; exact hown', (hb.alloc hbs _).grown hgrow (by simp; omega) (own_ge hown)⟩
        case measure => simp [intOf]; omega
      · have e0 : (l[k] % 33 == 0) = false := by rw [beq_eq_false_iff_ne]; omega
        have HF := hide (HS.out (2, l[k] % 33 - 16) (by unfold someF; rw [if_neg (by omega), if_neg (by omega)]))
        go_wp2_with (at_builtin; refine wpList_append_own _ rfl _ _ 22 rfl w.heap.size 32 i0 (.agg #[.int .i64 0, .int .i64 0]) 2 16 Try.underlying22 hi hz0 hz1 hz2 rfl (by decide) _ _ _ rfl (hown.alloc _) ⟨_, 0, none⟩ 1 1 [.int .i64 2, .int .i64 (l[k] % 33 - 16)] rfl rfl (row_at _ _ _ (by simp)) (by simp [Value.oneCell']) (by simp only [maxLen]; omega) (by omega) (by simp; omega) ?_; intro v' w1 hown' hgrow _)
        go_roundw
        case rel => exact ⟨k + 1, by omega, by go_num, by rw [HF.out]; exact hown', (hb.alloc hbs _).grown hgrow (by simp; omega) (own_ge hown)⟩
        case measure => simp [intOf]; omega
    · obtain rfl : k = l.length := by omega
      rw [List.take_length] at hown
      have HO := hide hown
      clear hown
      go_wp2
      go_returns
      exact ⟨_, rfl, by rw [List.length_map]; exact HO.out, hb⟩

theorem fieldsPick : Try.prog.underlying 32 = some (.struct (Try.prog.fieldsOf 32)) := by kernel_rfl
theorem eqIn_pick (a b c d : Int) (w : World) : (Op.equalIn 10000 32 (.agg #[.int .i64 a, .int .i64 b]) (.agg #[.int .i64 c, .int .i64 d])).run Try.prog w = .ok (a == c && b == d) w := by
  rw [run_equalIn_agg w 9999 _ _ _ fieldsPick Try.stoodInHeld32]
  have hf : (Try.prog.fieldsOf 32).toList = [⟨ "Kind", 3, 0, false, "", "", 0⟩, ⟨ "N", 3, 1, false, "", "", 8⟩] := by kernel_rfl
  rw [hf]
  by_cases h : a = c <;> by_cases h' : b = d <;> simp [Op.eqFields, go_sem, h, h']
theorem neq_pick (a b c d : Int) (w : World) : (binOp .neq 32 (.agg #[.int .i64 a, .int .i64 b]) (.agg #[.int .i64 c, .int .i64 d])).run Try.prog w = .ok (.bool (!(a == c && b == d))) w := by
  rw [run_neq_struct, eqIn_pick]; rfl
theorem eql_pick (a b c d : Int) (w : World) : (binOp .eql 32 (.agg #[.int .i64 a, .int .i64 b]) (.agg #[.int .i64 c, .int .i64 d])).run Try.prog w = .ok (.bool (a == c && b == d)) w := by
  rw [run_eql_struct, eqIn_pick]; rfl

set_option maxHeartbeats 2000000 in
theorem same_any (va vb : Value) (a b : List PP) (w : World) (ha : Picks w va a) (hb : Picks w vb b) :
    Calls Try.prog 26 #[va, vb] w fun e w' => e = .returned (.bool (decide (a = b))) ∧ Below w.heap.size w w' := by
  have ha' := ha
  have hb' := hb
  obtain ⟨A, c, rfl, h1, h2, -⟩ := ha'
  obtain ⟨B, d, rfl, h3, h4, -⟩ := hb'
  unfold maxLen at h2 h4
  have HA := hide ha
  have HB := hide hb
  clear ha hb
  by_cases hn : a.length = b.length
  · have q : (((a.length : Int)) != ((b.length : Int))) = false := by rw [bne_eq_false_iff_eq]; omega
    have HN := hide hn
    clear hn
    go_enter Try.func26, Try.ntmps26
    go_wp2
    go_loopw [5] (fun i wr => ∃ k : Nat, k ≤ a.length ∧ i = .int .i64 k ∧ Below w.heap.size w wr ∧ Hid (a.take k = b.take k)) (fun i _ => a.length - (intOf i).toNat)
    case atStart => exact ⟨0, Nat.zero_le _, rfl, Below.refl _ _, hide (by simp)⟩
    case round =>
      obtain ⟨k, hk, rfl, hbw, HE⟩ := hrel
      by_cases hlt : k < a.length
      · have hlb : k < b.length := by have := HN.out; omega
        obtain ⟨b1, o1, rfl, _, c0, c1⟩ := picks_at (HA.out.below hbw) hlt
        obtain ⟨b2, o2, rfl, _, c2, c3⟩ := picks_at (HB.out.below hbw) hlb
        have hnp := neq_pick (a[k]).1 (a[k]).2 (b[k]).1 (b[k]).2
        by_cases he : a[k] = b[k]
        · have e1 : ((a[k]).1 == (b[k]).1 && (a[k]).2 == (b[k]).2) = true := by rw [he]; simp
          rw [e1] at hnp
          have HE' := hide (show a.take (k + 1) = b.take (k + 1) by rw [List.take_succ_eq_append_getElem hlt, List.take_succ_eq_append_getElem hlb, HE.out, he])
          clear e1 he
          go_wp2
          go_quiet (fail)
          go_wp2
          go_roundw
          case rel => exact ⟨k + 1, by omega, by go_num, bdrewN hbw _, HE'⟩
          case measure => simp [intOf]; omega
        · have e1 : ((a[k]).1 == (b[k]).1 && (a[k]).2 == (b[k]).2) = false := by
            rw [← Bool.not_eq_true]; intro h
            simp only [Bool.and_eq_true, beq_iff_eq] at h
            exact he (Prod.ext h.1 h.2)
          rw [e1] at hnp
          have HF := hide (show decide (a = b) = false by
            simp only [decide_eq_false_iff_not]
            intro h
            apply he
            simp [h])
          clear e1 he
          go_wp2
          go_quiet (fail)
          go_wp2
          go_ret
          exact ⟨ret_bool HF.out.symm, bdrewN hbw _⟩
      · have HF := hide (show a = b by
          have h := HE.out
          have := HN.out
          rwa [List.take_of_length_le (by omega), List.take_of_length_le (by omega)] at h)
        go_wp2
        go_ret
        exact ⟨ret_bool (by rw [HF.out]; simp), hbw⟩
  · have q : (((a.length : Int)) != ((b.length : Int))) = true := by rw [bne_iff_ne]; omega
    have HN := hide (show decide (a = b) = false by simp; intro e; exact hn (by rw [e]))
    clear hn
    go_enter Try.func26, Try.ntmps26
    go_wp2
    go_ret
    exact ⟨ret_bool HN.out.symm, Below.refl _ _⟩
end Go.Proofs.Ytbnnhalbgkaedaa
