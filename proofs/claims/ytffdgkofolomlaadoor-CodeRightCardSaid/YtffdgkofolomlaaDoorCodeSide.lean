/- Layer code: side. -/
import Derived.Test.YtffdgkofolomlaaDoorCodeText
import Derived.Test.YtffdgkofolomlaaDoorCodeQ
namespace Go.Proofs.YtffdgkofolomlaaDoor
open Go.RowKit Go.Shelf Go.Proofs

def sdV : Sd → Value
  | .reg x => regV x
  | .plc x y => plcV x y
  | .fre => freV
  | .non => nonV
  | .bad => .nilIface
theorem ba_list (s : ByteArray) : s.toList = s.data.toList := ByteArray.toList_eq s
theorem ba_one {s : ByteArray} {b : UInt8} (h : s.data.toList = [b]) : s.size = 1 ∧ ∀ k : 0 < s.size, ((s[0]'k).toNat : Int) = b.toNat := by
  obtain ⟨⟨l⟩⟩ := s
  simp only at h
  subst h
  exact ⟨rfl, fun _ => rfl⟩
theorem ba_three {s : ByteArray} {a m b : UInt8} (h : s.data.toList = [a, m, b]) : s.size = 3 ∧ (∀ k : 0 < s.size, ((s[0]'k).toNat : Int) = a.toNat) ∧ (∀ k : 1 < s.size, ((s[1]'k).toNat : Int) = m.toNat) ∧ ∀ k : 2 < s.size, ((s[2]'k).toNat : Int) = b.toNat := by
  obtain ⟨⟨l⟩⟩ := s
  simp only at h
  subst h
  exact ⟨rfl, fun _ => rfl, fun _ => rfl, fun _ => rfl⟩
theorem ba_len (s : ByteArray) : s.data.toList.length = s.size := by rw [Array.length_toList]; rfl
theorem u8_rng (b : UInt8) : 0 ≤ (b.toNat : Int) ∧ (b.toNat : Int) ≤ 255 := by have := b.toNat_lt; omega
set_option maxRecDepth 100000 in
set_option maxHeartbeats 1000000 in
theorem side_new (s : ByteArray) (w : World) (h : s.data.toList = [110, 101, 119]) : Calls Tryd.prog 42 #[.string s] w fun e w' => e = .returned (freV) ∧ Below w.heap.size w w' := by
  have q1 : (s.toList == [110, 101, 119]) = true := by rw [ba_list, h]; decide
  clear h
  go_enter Tryd.func42, Tryd.ntmps42
  go_wp2
  go_ret
  exact ⟨rfl, Below.refl _ _⟩
set_option maxRecDepth 100000 in
set_option maxHeartbeats 1000000 in
theorem side_none (s : ByteArray) (w : World) (h : s.data.toList = [48]) : Calls Tryd.prog 42 #[.string s] w fun e w' => e = .returned (nonV) ∧ Below w.heap.size w w' := by
  have q1 : (s.toList == [110, 101, 119]) = false := by rw [ba_list, h]; decide
  have q2 : (s.toList == [48]) = true := by rw [ba_list, h]; decide
  clear h
  go_enter Tryd.func42, Tryd.ntmps42
  go_wp2
  go_ret
  exact ⟨rfl, Below.refl _ _⟩
set_option maxRecDepth 100000 in
set_option maxHeartbeats 1000000 in
theorem side_one (s : ByteArray) (w : World) (b : UInt8) (h : s.data.toList = [b]) (hb : b ≠ 48) : Calls Tryd.prog 42 #[.string s] w fun e w' => e = .returned (regV ((b.toNat : Int) - 65)) ∧ Below w.heap.size w w' := by
  have q1 : (s.toList == [110, 101, 119]) = false := by rw [ba_list, h, beq_eq_false_iff_ne]; simp
  have q2 : (s.toList == [48]) = false := by rw [ba_list, h, beq_eq_false_iff_ne]; simpa using hb
  obtain ⟨h1, h2⟩ := ba_one h
  have q3 : ((s.size : Int) == 1) = true := by rw [beq_iff_eq]; omega
  have q4 : 0 < s.size := by omega
  obtain ⟨x, hx⟩ : ∃ x : Int, (b.toNat : Int) = x := ⟨_, rfl⟩
  have hr := u8_rng b
  rw [hx] at h2 hr ⊢
  obtain ⟨r0, r1⟩ := hr
  clear h hb h1 hx
  go_enter Tryd.func42, Tryd.ntmps42
  go_wp2
  go_ret
  exact ⟨rfl, Below.refl _ _⟩
set_option maxRecDepth 100000 in
set_option maxHeartbeats 1000000 in
theorem side_three (s : ByteArray) (w : World) (a b : UInt8) (h : s.data.toList = [a, 46, b]) : Calls Tryd.prog 42 #[.string s] w fun e w' => e = .returned (plcV ((a.toNat : Int) - 65) ((b.toNat : Int) - 48)) ∧ Below w.heap.size w w' := by
  have q1 : (s.toList == [110, 101, 119]) = false := by rw [ba_list, h, beq_eq_false_iff_ne]; simp
  have q2 : (s.toList == [48]) = false := by rw [ba_list, h, beq_eq_false_iff_ne]; simp
  obtain ⟨h1, h2, h3, h4⟩ := ba_three h
  have q3 : ((s.size : Int) == 1) = false := by rw [beq_eq_false_iff_ne]; omega
  have q4 : ((s.size : Int) == 3) = true := by rw [beq_iff_eq]; omega
  have q5 : 0 < s.size := by omega
  have q6 : 1 < s.size := by omega
  have q7 : 2 < s.size := by omega
  have q8 : (2 : Int) < s.size := by omega
  obtain ⟨x, hx⟩ : ∃ x : Int, (a.toNat : Int) = x := ⟨_, rfl⟩
  obtain ⟨y, hy⟩ : ∃ y : Int, (b.toNat : Int) = y := ⟨_, rfl⟩
  have hr := u8_rng a
  have hr2 := u8_rng b
  rw [hx] at h2 hr ⊢
  rw [hy] at h4 hr2 ⊢
  obtain ⟨r0, r1⟩ := hr
  obtain ⟨r2, r3⟩ := hr2
  have h3 : ∀ k : 1 < s.size, ((s[1]'k).toNat : Int) = 46 := fun k => by rw [h3 k]; rfl
  have v1 : IntKind.i64.wrap x = x := by simp [IntKind.wrap, IntKind.bits, IntKind.signed]; omega
  have v2 : IntKind.i64.wrap y = y := by simp [IntKind.wrap, IntKind.bits, IntKind.signed]; omega
  have v3 : IntKind.i64.wrap (x - 65) = x - 65 := by simp [IntKind.wrap, IntKind.bits, IntKind.signed]; omega
  have v4 : IntKind.i64.wrap (y - 48) = y - 48 := by simp [IntKind.wrap, IntKind.bits, IntKind.signed]; omega
  clear h h1 hx hy
  go_enter Tryd.func42, Tryd.ntmps42
  go_wp2
  refine wp_region_held_drew (S := fun _ => True) (by kernel_rfl) ?_ (fun hHeld => ?_)
  · exact trivial
  refine wpAnyH_take (i := 0) (oi := { dst := some 31, op := Op.move (Operand.tmp 0), type := 9, pos := "piece.go:113", after := #[], guard := none }) (v := ?_) rfl (by kernel_rfl) (by kernel_rfl) (by kernel_rfl) (fun _ _ _ h => h) (Or.inl ⟨by rfl, ?_⟩) (by assumption) ?_
  rotate_left
  · intro w_ hSw; (try dsimp only at hSw); go_simp; (try with_reducible rfl)
  (try simp only [Act.put, List.setIfInBounds_toArray, List.set_cons_zero, List.set_cons_succ])
  refine wpAnyH_take (i := 1) (oi := { dst := some 32, op := Op.index 9 (Operand.tmp 31) (Operand.const (Value.int IntKind.i64 0)), type := 5, pos := "piece.go:113", after := #[{ on := 0, ground := Ground.data }], guard := none }) (v := ?_) rfl (by kernel_rfl) (by kernel_rfl) (by kernel_rfl) (fun _ _ _ h => h) (Or.inl ⟨by rfl, ?_⟩) (by assumption) ?_
  rotate_left
  · intro w_ hSw; (try dsimp only at hSw); go_simp; (try with_reducible rfl)
  (try simp only [Act.put, List.setIfInBounds_toArray, List.set_cons_zero, List.set_cons_succ])
  refine wpAnyH_take (i := 2) (oi := { dst := some 33, op := Op.convert 5 80 (Operand.tmp 32), type := 80, pos := "piece.go:113", after := #[{ on := 1, ground := Ground.data }], guard := none }) (v := ?_) rfl (by kernel_rfl) (by kernel_rfl) (by kernel_rfl) (fun _ _ _ h => h) (Or.inl ⟨by rfl, ?_⟩) (by assumption) ?_
  rotate_left
  · intro w_ hSw; (try dsimp only at hSw); go_simp; (try with_reducible rfl)
  (try simp only [Act.put, List.setIfInBounds_toArray, List.set_cons_zero, List.set_cons_succ])
  refine wpAnyH_take (i := 3) (oi := { dst := some 34, op := Op.binOp BinOp.sub 80 (Operand.tmp 33) (Operand.const (Value.int IntKind.i64 65)) 80, type := 80, pos := "piece.go:113", after := #[{ on := 2, ground := Ground.data }], guard := none }) (v := ?_) rfl (by kernel_rfl) (by kernel_rfl) (by kernel_rfl) (fun _ _ _ h => h) (Or.inl ⟨by rfl, ?_⟩) (by assumption) ?_
  rotate_left
  · intro w_ hSw; (try dsimp only at hSw); go_simp; (try with_reducible rfl)
  (try simp only [Act.put, List.setIfInBounds_toArray, List.set_cons_zero, List.set_cons_succ])
  refine wpAnyH_take (i := 4) (oi := { dst := some 35, op := Op.move (Operand.tmp 0), type := 9, pos := "piece.go:113", after := #[], guard := none }) (v := ?_) rfl (by kernel_rfl) (by kernel_rfl) (by kernel_rfl) (fun _ _ _ h => h) (Or.inl ⟨by rfl, ?_⟩) (by assumption) ?_
  rotate_left
  · intro w_ hSw; (try dsimp only at hSw); go_simp; (try with_reducible rfl)
  (try simp only [Act.put, List.setIfInBounds_toArray, List.set_cons_zero, List.set_cons_succ])
  refine wpAnyH_take (i := 5) (oi := { dst := some 36, op := Op.index 9 (Operand.tmp 35) (Operand.const (Value.int IntKind.i64 2)), type := 5, pos := "piece.go:113", after := #[{ on := 4, ground := Ground.data }], guard := none }) (v := ?_) rfl (by kernel_rfl) (by kernel_rfl) (by kernel_rfl) (fun _ _ _ h => h) (Or.inl ⟨by rfl, ?_⟩) (by assumption) ?_
  rotate_left
  · intro w_ hSw; (try dsimp only at hSw); go_simp; (try with_reducible rfl)
  (try simp only [Act.put, List.setIfInBounds_toArray, List.set_cons_zero, List.set_cons_succ])
  refine wpAnyH_take (i := 6) (oi := { dst := some 37, op := Op.convert 5 3 (Operand.tmp 36), type := 3, pos := "piece.go:113", after := #[{ on := 5, ground := Ground.data }], guard := none }) (v := ?_) rfl (by kernel_rfl) (by kernel_rfl) (by kernel_rfl) (fun _ _ _ h => h) (Or.inl ⟨by rfl, ?_⟩) (by assumption) ?_
  rotate_left
  · intro w_ hSw; (try dsimp only at hSw); go_simp; (try with_reducible rfl)
  (try simp only [Act.put, List.setIfInBounds_toArray, List.set_cons_zero, List.set_cons_succ])
  refine wpAnyH_take (i := 7) (oi := { dst := some 38, op := Op.binOp BinOp.sub 3 (Operand.tmp 37) (Operand.const (Value.int IntKind.i64 48)) 3, type := 3, pos := "piece.go:113", after := #[{ on := 6, ground := Ground.data }], guard := none }) (v := ?_) rfl (by kernel_rfl) (by kernel_rfl) (by kernel_rfl) (fun _ _ _ h => h) (Or.inl ⟨by rfl, ?_⟩) (by assumption) ?_
  rotate_left
  · intro w_ hSw; (try dsimp only at hSw); go_simp; (try with_reducible rfl)
  (try simp only [Act.put, List.setIfInBounds_toArray, List.set_cons_zero, List.set_cons_succ])
  refine wpAnyH_take (i := 8) (oi := { dst := some 39, op := Op.build 82 #[(0, Operand.tmp 34), (1, Operand.tmp 38)], type := 82, pos := "piece.go:113", after := #[{ on := 3, ground := Ground.data }, { on := 7, ground := Ground.data }], guard := none }) (v := ?_) rfl (by kernel_rfl) (by kernel_rfl) (by kernel_rfl) (fun _ _ _ h => h) (Or.inl ⟨by rfl, ?_⟩) (by assumption) ?_
  rotate_left
  · intro w_ hSw; (try dsimp only at hSw); go_simp; (try with_reducible rfl)
  (try simp only [Act.put, List.setIfInBounds_toArray, List.set_cons_zero, List.set_cons_succ])
  refine wpAnyH_take (i := 9) (oi := { dst := some 40, op := Op.makeInterface 82 (Operand.tmp 39), type := 71, pos := "piece.go:113", after := #[{ on := 8, ground := Ground.data }], guard := none }) (v := ?_) rfl (by kernel_rfl) (by kernel_rfl) (by kernel_rfl) (fun _ _ _ h => h) (Or.inl ⟨by rfl, ?_⟩) (by assumption) ?_
  rotate_left
  · intro w_ hSw; (try dsimp only at hSw); go_simp; (try with_reducible rfl)
  (try simp only [Act.put, List.setIfInBounds_toArray, List.set_cons_zero, List.set_cons_succ])
  refine wpAnyH_take (i := 10) (oi := { dst := some 2, op := Op.assign (Operand.tmp 40), type := 71, pos := "piece.go:113", after := #[{ on := 9, ground := Ground.data }, { on := 0, ground := Ground.phase }, { on := 1, ground := Ground.phase }, { on := 2, ground := Ground.phase }, { on := 3, ground := Ground.phase }, { on := 4, ground := Ground.phase }, { on := 5, ground := Ground.phase }, { on := 6, ground := Ground.phase }, { on := 7, ground := Ground.phase }, { on := 8, ground := Ground.phase }, { on := 9, ground := Ground.phase }], guard := none }) (v := ?_) rfl (by kernel_rfl) (by kernel_rfl) (by kernel_rfl) (fun _ _ _ h => h) (Or.inl ⟨by rfl, ?_⟩) (by assumption) ?_
  rotate_left
  · intro w_ hSw; (try dsimp only at hSw); go_simp; (try with_reducible rfl)
  (try simp only [Act.put, List.setIfInBounds_toArray, List.set_cons_zero, List.set_cons_succ])
  refine wpAnyH_done (by kernel_rfl) ?_ _
  go_wp2
  go_ret
  exact ⟨rfl, below_drew (Below.refl _ _)⟩
set_option maxRecDepth 100000 in
set_option maxHeartbeats 1000000 in
theorem side_mid (s : ByteArray) (w : World) (a m b : UInt8) (h : s.data.toList = [a, m, b]) (hm : m ≠ 46) (hn : s.data.toList ≠ [110, 101, 119]) : Calls Tryd.prog 42 #[.string s] w fun e w' => e = .returned (.nilIface) ∧ Below w.heap.size w w' := by
  have q1 : (s.toList == [110, 101, 119]) = false := by rw [ba_list, beq_eq_false_iff_ne]; exact hn
  have q2 : (s.toList == [48]) = false := by rw [ba_list, h, beq_eq_false_iff_ne]; simp
  obtain ⟨h1, h2, h3, h4⟩ := ba_three h
  have q3 : ((s.size : Int) == 1) = false := by rw [beq_eq_false_iff_ne]; omega
  have q4 : ((s.size : Int) == 3) = true := by rw [beq_iff_eq]; omega
  have q6 : 1 < s.size := by omega
  obtain ⟨x, hx⟩ : ∃ x : Int, (m.toNat : Int) = x := ⟨_, rfl⟩
  have hr := u8_rng m
  rw [hx] at h3 hr
  obtain ⟨r0, r1⟩ := hr
  have q5 : (x == 46) = false := by rw [beq_eq_false_iff_ne]; intro e; apply hm; apply UInt8.toNat_inj.1; have : (46 : UInt8).toNat = 46 := rfl; omega
  clear h h1 hx h2 h4 hm hn
  go_enter Tryd.func42, Tryd.ntmps42
  go_wp2
  go_ret
  exact ⟨rfl, Below.refl _ _⟩
set_option maxRecDepth 100000 in
set_option maxHeartbeats 1000000 in
theorem side_long (s : ByteArray) (w : World) (h1 : s.size ≠ 1) (h3 : s.size ≠ 3) : Calls Tryd.prog 42 #[.string s] w fun e w' => e = .returned (.nilIface) ∧ Below w.heap.size w w' := by
  have q1 : (s.toList == [110, 101, 119]) = false := by rw [ba_list, beq_eq_false_iff_ne]; intro e; have := ba_len s; rw [e] at this; simp at this; omega
  have q2 : (s.toList == [48]) = false := by rw [ba_list, beq_eq_false_iff_ne]; intro e; have := ba_len s; rw [e] at this; simp at this; omega
  have q3 : ((s.size : Int) == 1) = false := by rw [beq_eq_false_iff_ne]; omega
  have q4 : ((s.size : Int) == 3) = false := by rw [beq_eq_false_iff_ne]; omega
  clear h1 h3
  go_enter Tryd.func42, Tryd.ntmps42
  go_wp2
  go_ret
  exact ⟨rfl, Below.refl _ _⟩
theorem side_any (s : ByteArray) (w : World) : Calls Tryd.prog 42 #[.string s] w fun e w' => e = .returned (sdV (sideF s.data.toList)) ∧ Below w.heap.size w w' := by
  have hl := ba_len s
  obtain ⟨t, ht⟩ : ∃ t, s.data.toList = t := ⟨_, rfl⟩
  rw [ht] at hl ⊢
  rcases t with _ | ⟨a, _ | ⟨m, _ | ⟨b, _ | ⟨c, t⟩⟩⟩⟩
  · exact side_long s w (by simp at hl; omega) (by simp at hl; omega)
  · by_cases hb : a = 48
    · subst hb; exact side_none s w ht
    · have e : sideF [a] = .reg ((a.toNat : Int) - 65) := by
        unfold sideF
        rw [if_neg (by simp), if_neg (by simpa using hb)]
      rw [e]
      exact side_one s w a ht hb
  · rw [show sideF [a, m] = .bad by simp [sideF]]; exact side_long s w (by simp at hl; omega) (by simp at hl; omega)
  · by_cases hn : [a, m, b] = [110, 101, 119]
    · rw [hn] at ht ⊢; exact side_new s w ht
    · by_cases hm : m = 46
      · subst hm
        have e : sideF [a, 46, b] = .plc ((a.toNat : Int) - 65) ((b.toNat : Int) - 48) := by
          unfold sideF
          rw [if_neg hn, if_neg (by simp)]
          simp
        rw [e]
        exact side_three s w a b ht
      · have e : sideF [a, m, b] = .bad := by
          unfold sideF
          rw [if_neg hn, if_neg (by simp)]
          simp [hm]
        rw [e]
        exact side_mid s w a m b ht hm (by rw [ht]; exact hn)
  · rw [show sideF (a :: m :: b :: c :: t) = .bad by simp [sideF]]; exact side_long s w (by simp at hl; omega) (by simp at hl; omega)
end Go.Proofs.YtffdgkofolomlaaDoor
