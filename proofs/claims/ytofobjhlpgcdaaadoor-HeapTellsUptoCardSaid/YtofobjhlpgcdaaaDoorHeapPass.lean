/- Layer heap: a number, a mark, slots are read. -/
import Derived.Test.YtofobjhlpgcdaaaDoorHeapNext
namespace Go.Proofs.YtofobjhlpgcdaaaDoor
open Go.RowKit Go.Shelf Go.Proofs

theorem as_nn (n : Int) (w : World) : (Instr.typeAssert (.iface 74 (.int .i64 n)) 89 74 true).run Tryd.prog w = .ok (.tuple #[.int .i64 n, .bool true]) w := by kernel_rfl
theorem as_mn (f : ByteArray) (w : World) : (Instr.typeAssert (.iface 76 (.string f)) 89 74 true).run Tryd.prog w = .ok (.tuple #[.int .i64 0, .bool false]) w := by kernel_rfl
theorem as_mm (f : ByteArray) (w : World) : (Instr.typeAssert (.iface 76 (.string f)) 89 76 true).run Tryd.prog w = .ok (.tuple #[.string f, .bool true]) w := by kernel_rfl
theorem as_nm (n : Int) (w : World) : (Instr.typeAssert (.iface 74 (.int .i64 n)) 89 76 true).run Tryd.prog w = .ok (.tuple #[.string .empty, .bool false]) w := by kernel_rfl

set_option maxRecDepth 100000 in
set_option maxHeartbeats 2000000 in
theorem rnumber_any (g : Nat) (l : B8) (w : World) (hl : l.length ≤ 140737488351232) (hE : EnvH w) (hR : RestAt g l w) :
    Calls Tryd.prog 41 #[.pointer (some ⟨g, 0, none⟩)] w fun e w' =>
      (match numF l with | some p => e = .returned (.int .i64 p.1) ∧ RestAt g p.2 w' | none => Pan e) ∧ w.grownBy w' (some g) := by
  have hN := next_any g l w hl hE hR
  rcases hf : firstF l with _ | p
  · have hn : numF l = none := by unfold numF; rw [hf]
    rw [hf] at hN
    rw [hn]
    have HN := hide hN
    clear hf hN hR hE hn
    go_enter Tryd.func41, Tryd.ntmps41
    go_wp2_with fail
    (with_reducible refine HN.out.mono ?_)
    rintro e w1 ⟨⟨u, v, rfl⟩, hb⟩
    go_wp2
    exact ⟨rfl, ⟨_, _, rfl⟩, hb⟩
  · rw [hf] at hN
    cases p with
    | num n =>
      have hn : numF l = some (n, l.drop (dec n).length) := by unfold numF; rw [hf]
      rw [hn]
      have HN := hide hN
      obtain ⟨y, hy⟩ : ∃ y, l.drop (dec n).length = y := ⟨_, rfl⟩
      have HY := hide hy
      rw [hy]
      clear hf hN hR hE hn hy
      go_enter Tryd.func41, Tryd.ntmps41
      go_wp2_with fail
      (with_reducible refine HN.out.mono ?_)
      rintro e w1 ⟨⟨he, hr⟩, hb⟩
      have he : e = .returned (.iface 74 (.int .i64 n)) := he
      subst he
      have hr2 := hide (show RestAt g y w1 by rw [← HY.out]; exact hr)
      clear hr HN HY he
      have ha := as_nn n
      go_wp2
      go_ret
      exact ⟨⟨rfl, hr2.out⟩, hb⟩
    | mrk m =>
      have hn : numF l = none := by unfold numF; rw [hf]
      rw [hn]
      have HN := hide hN
      obtain ⟨f, hf2⟩ : ∃ f : ByteArray, (⟨m.toArray⟩ : ByteArray) = f := ⟨_, rfl⟩
      have HF2 := hide hf2
      clear hf hN hR hE hn hf2
      go_enter Tryd.func41, Tryd.ntmps41
      go_wp2_with fail
      (with_reducible refine HN.out.mono ?_)
      rintro e w1 ⟨⟨he, hr⟩, hb⟩
      have he : e = .returned (.iface 76 (.string f)) := by rw [← HF2.out]; exact he
      subst he
      clear hr HN HF2 he
      have ha := as_mn f
      go_wp2
      exact ⟨rfl, ⟨_, _, rfl⟩, hb⟩

set_option maxRecDepth 100000 in
set_option maxHeartbeats 2000000 in
theorem pass_any (c : UInt8) (g : Nat) (l : B8) (w : World) (hl : l.length ≤ 140737488351232) (hE : EnvH w) (hR : RestAt g l w) :
    Calls Tryd.prog 46 #[.pointer (some ⟨g, 0, none⟩), .string ⟨[c].toArray⟩] w fun e w' =>
      (match passF c l with | some l' => e = .returned (.tuple #[]) ∧ RestAt g l' w' | none => Pan e) ∧ w.grownBy w' (some g) := by
  have hN := next_any g l w hl hE hR
  obtain ⟨k, hk⟩ : ∃ k : ByteArray, (⟨[c].toArray⟩ : ByteArray) = k := ⟨_, rfl⟩
  have hkl : k.toList = [c] := by rw [← hk, ba_toList]
  rw [hk]
  rcases hf : firstF l with _ | p
  · have hn : passF c l = none := by unfold passF; rw [hf]
    rw [hf] at hN
    rw [hn]
    have HN := hide hN
    clear hf hN hR hE hn hk hkl
    go_enter Tryd.func46, Tryd.ntmps46
    go_wp2_with fail
    (with_reducible refine HN.out.mono ?_)
    rintro e w1 ⟨⟨u, v, rfl⟩, hb⟩
    go_wp2
    exact ⟨rfl, ⟨_, _, rfl⟩, hb⟩
  · rw [hf] at hN
    cases p with
    | mrk m =>
      have hn : passF c l = if m = [c] then some (l.drop 1) else none := by unfold passF; rw [hf]
      rw [hn]
      have HN := hide hN
      obtain ⟨f, hf2⟩ : ∃ f : ByteArray, (⟨m.toArray⟩ : ByteArray) = f := ⟨_, rfl⟩
      have hfl : f.toList = m := by rw [← hf2, ba_toList]
      have HF2 := hide hf2
      by_cases he : m = [c]
      · rw [if_pos he]
        have hq : (f.toList == k.toList) = true := by rw [hfl, hkl, he]; simp
        have HM := hide he
        obtain ⟨y, hy⟩ : ∃ y, l.drop 1 = y := ⟨_, rfl⟩
        have HY := hide hy
        rw [hy]
        clear hf hN hR hE hn hf2 hk hkl hfl he hy
        go_enter Tryd.func46, Tryd.ntmps46
        go_wp2_with fail
        (with_reducible refine HN.out.mono ?_)
        rintro e w1 ⟨⟨he, hr⟩, hb⟩
        have he : e = .returned (.iface 76 (.string f)) := by rw [← HF2.out]; exact he
        subst he
        have hr2 := hide (show RestAt g y w1 by rw [← HY.out]; rw [HM.out] at hr; exact hr)
        clear hr HN HY HM HF2 he
        have ha := as_mm f
        go_wp2
        go_end0
        exact ⟨⟨rfl, hr2.out⟩, hb⟩
      · rw [if_neg he]
        have hq : (f.toList == k.toList) = false := by rw [hfl, hkl, beq_eq_false_iff_ne]; exact he
        clear hf hN hR hE hn hf2 hk hkl hfl he
        go_enter Tryd.func46, Tryd.ntmps46
        go_wp2_with fail
        (with_reducible refine HN.out.mono ?_)
        rintro e w1 ⟨⟨he, hr⟩, hb⟩
        have he : e = .returned (.iface 76 (.string f)) := by rw [← HF2.out]; exact he
        subst he
        clear hr HN HF2 he
        have ha := as_mm f
        go_wp2
        exact ⟨rfl, ⟨_, _, rfl⟩, hb⟩
    | num n =>
      have hn : passF c l = none := by unfold passF; rw [hf]
      rw [hn]
      have HN := hide hN
      clear hf hN hR hE hn hk hkl
      go_enter Tryd.func46, Tryd.ntmps46
      go_wp2_with fail
      (with_reducible refine HN.out.mono ?_)
      rintro e w1 ⟨⟨he, hr⟩, hb⟩
      have he : e = .returned (.iface 74 (.int .i64 n)) := he
      subst he
      clear hr HN he
      have ha := as_nm n
      go_wp2
      exact ⟨rfl, ⟨_, _, rfl⟩, hb⟩
end Go.Proofs.YtofobjhlpgcdaaaDoor
