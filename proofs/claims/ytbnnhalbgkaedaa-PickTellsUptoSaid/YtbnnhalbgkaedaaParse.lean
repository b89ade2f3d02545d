/- Layer pick: Parse. -/
import Derived.Test.YtbnnhalbgkaedaaRound
import Derived.Lib.OthersKept
namespace Go.Proofs.Ytbnnhalbgkaedaa
open Go.RowKit

/-- what Parse gives from place pos on, behind the picks acc -/
def parseFrom (s : ByteArray) : Nat → Nat → List (Int × Int) → Bool → List (Int × Int) × Int
  | 0, _, acc, over => if over then ([], 3) else (acc, 0)
  | f + 1, pos, acc, over =>
    if pos < s.size then
      if ((Utf8.decode s pos).1 : Int) = 32 ∨ ((Utf8.decode s pos).1 : Int) = 10 then parseFrom s f (pos + (Utf8.decode s pos).2) acc over
      else if (readF (Utf8.decode s pos).1).2 = false then ([], 2)
      else if acc.length = 100000 then parseFrom s f (pos + (Utf8.decode s pos).2) acc true
      else parseFrom s f (pos + (Utf8.decode s pos).2) (acc ++ [(readF (Utf8.decode s pos).1).1]) over
    else if over then ([], 3) else (acc, 0)
def parseF (s : ByteArray) : List (Int × Int) × Int := parseFrom s s.size 0 [] false

theorem width_pos (s : ByteArray) (pos : Nat) (h : pos < s.size) : 1 ≤ (Utf8.decode s pos).2 := by
  by_cases ha : (s[pos]'h).toNat < 128
  · rw [decode_ascii s pos h ha]
    exact Nat.le_refl _
  · exact (decode_high s pos h (by omega)).2
theorem parseFrom_end (s : ByteArray) (f pos : Nat) (acc : List (Int × Int)) (over : Bool) (h : ¬ pos < s.size) : parseFrom s f pos acc over = if over then ([], 3) else (acc, 0) := by
  cases f with
  | zero => rfl
  | succ f => rw [parseFrom, if_neg h]

theorem ret_errs {v : Value} {a b : Int} (h : a = b) : Ending.returned (.tuple #[v, .int .i64 a]) = .returned (.tuple #[v, .int .i64 b]) := by rw [h]

set_option maxHeartbeats 4000000 in
theorem Parse_any (s : ByteArray) (w : World) :
    Calls Try.prog 11 #[.string s] w fun e w' => ∃ v, e = .returned (.tuple #[v, .int .i64 (parseF s).2]) ∧ w'.ownsRow w.heap.size 32 2 v (parseF s).1.length ((parseF s).1.flatMap pc) ∧ Below w.heap.size w w' := by
  obtain ⟨i0, hi, hz0, hz1, hz2⟩ := info_parts info32
  go_enter Try.func11, Try.ntmps11
  go_wp2
  go_loopw [4, 5] (fun v o wr => ∃ (pos f : Nat) (acc : List (Int × Int)) (over : Bool), o = .bool over ∧ wr.ownsRow (w.heap.size + 1) 32 2 v acc.length (acc.flatMap pc) ∧ acc.length ≤ 100000 ∧
      wr.heap[w.heap.size]? = some (.stringIter s pos) ∧ Below w.heap.size w wr ∧ parseFrom s f pos acc over = parseF s ∧ s.size ≤ pos + f) (fun _ _ wr => s.size - wr.iterPos w.heap.size)
  case atStart =>
    refine ⟨0, s.size, [], false, rfl, World.ownsRow_nil _ _ _ _, by simp, World.iter_heap w s 0, (Below.refl _ w).alloc (Nat.le_refl _) _, rfl, by omega⟩
  case round =>
    obtain ⟨pos, f, acc, over, rfl, hown, hal, hit, hb, hpf, hfu⟩ := hrel
    have hsz : w.heap.size < wr.heap.size := (Array.getElem?_eq_some_iff.1 hit).1
    obtain ⟨A, cp, rfl, hcp, hcm⟩ := own_form hown
    by_cases hp : pos < s.size
    · have hnx : ∀ ty, (Instr.next (.pointer (some ⟨w.heap.size, 0, none⟩)) true ty).run Try.prog wr = _ := fun ty => Lib.run_next_any_at wr w.heap.size s pos ty hit hp
      have hwd := width_pos s pos hp
      have hd1 := decode_le s pos
      have hit2 := Lib.iterAt_heap wr w.heap.size s pos (pos + (Utf8.decode s pos).2) hit
      have hb2 := Lib.below_iterAt hb (k := w.heap.size) (by omega) s (pos + (Utf8.decode s pos).2)
      have hown2 := ownsRow_iterAt hown (k := w.heap.size) (by omega) s (pos + (Utf8.decode s pos).2)
      have hsz2 : w.heap.size < (wr.iterAt w.heap.size s (pos + (Utf8.decode s pos).2)).heap.size := by rw [Lib.iterAt_size]; omega
      obtain ⟨f, rfl⟩ : ∃ g, f = g + 1 := ⟨f - 1, by omega⟩
      rw [parseFrom, if_pos hp] at hpf
      have HP := hide hpf
      clear hpf
      generalize wr.iterAt w.heap.size s (pos + (Utf8.decode s pos).2) = W at *
      by_cases hbl : ((Utf8.decode s pos).1 : Int) = 32 ∨ ((Utf8.decode s pos).1 : Int) = 10
      · have HP' : Hid (parseFrom s f (pos + (Utf8.decode s pos).2) acc over = parseF s) := by have := HP.out; rw [if_pos hbl] at this; exact this
        clear HP
        go_wp2
        all_goals
          first
          | (exfalso; simp at *; omega)
          | (go_roundw
             case rel => exact ⟨_, f, acc, over, rfl, hown2, hal, hit2, hb2, HP'.out, by omega⟩
             case measure => simp only [World.iterPos, hit2, hit]; omega)
      · have HP' := HP.out
        clear HP
        rw [if_neg hbl] at HP'
        have h32 : ¬ ((Utf8.decode s pos).1 : Int) = 32 := fun h => hbl (.inl h)
        have h10 : ¬ ((Utf8.decode s pos).1 : Int) = 10 := fun h => hbl (.inr h)
        clear hbl
        have b32 : (((Utf8.decode s pos).1 : Int) == 32) = false := by simpa using h32
        have b10 : (((Utf8.decode s pos).1 : Int) == 10) = false := by simpa using h10
        generalize hq : (readF (Utf8.decode s pos).1).1 = q at HP'
        cases hok : (readF (Utf8.decode s pos).1).2
        · rw [if_pos hok] at HP'
          have HP := hide HP'
          clear HP'
          go_wp2_with (go_at_call 27; refine (read_any _ _ (by omega) (by omega)).mono ?_; rintro e w' ⟨rfl, hb'⟩; rw [hok, hq]; simp only [pv])
          all_goals first | (exfalso; simp at *; omega) | skip
          go_returns
          rw [← HP.out]
          exact ⟨_, rfl, by simpa using World.ownsRow_nil _ _ _ _, ((hb2.trans (hb'.mono (by omega))).alloc (by have := hb'.size; omega) _)⟩
        · rw [if_neg (by rw [hok]; simp)] at HP'
          have hsz3 : ∀ w' : World, Below W.heap.size W w' → w.heap.size < w'.heap.size := fun w' h => by have := h.size; omega
          by_cases hfull : acc.length = 100000
          · have hfb : ((acc.length : Int) == 100000) = true := by rw [hfull]; rfl
            rw [if_pos hfull] at HP'
            have HP := hide HP'
            clear HP'
            go_wp2_with (go_at_call 27; refine (read_any _ _ (by omega) (by omega)).mono ?_; rintro e w' ⟨rfl, hb'⟩; rw [hok, hq]; simp only [pv])
            go_roundw
            all_goals have hbW : Below (w.heap.size + 1) W (w'.alloc (.cells #[.int .i64 q.1, .int .i64 q.2] 32)) := (hb'.mono (by omega)).alloc (by have := hb'.size; omega) _
            all_goals have hit3 := (hbW.block _ (by omega)).trans hit2
            case rel => exact ⟨_, f, acc, true, rfl, (own_below hown2 hb').alloc _, hal, hit3, hb2.trans (hbW.mono (by omega)), HP.out, by omega⟩
            case measure => simp only [World.iterPos, hit3, hit]; omega
          · have hfb : ((acc.length : Int) == 100000) = false := by rw [beq_eq_false_iff_ne]; omega
            rw [if_neg hfull] at HP'
            have HP := hide HP'
            clear HP'
            go_wp2_with (first
              | (go_at_call 27; refine (read_any _ _ (by omega) (by omega)).mono ?_; rintro e w' ⟨rfl, hb'⟩; rw [hok, hq]; simp only [pv])
              | (at_builtin; refine wpList_append_own _ rfl _ _ 22 rfl (w.heap.size + 1) 32 i0 (.agg #[.int .i64 0, .int .i64 0]) 2 16 Try.underlying22 hi hz0 hz1 hz2 rfl (by decide) _ _ _ rfl (((own_below hown2 hb').alloc _).alloc _) ⟨_, 0, none⟩ 1 1 [.int .i64 q.1, .int .i64 q.2] rfl rfl (row_at _ _ _ (by simp)) (by simp [Value.oneCell']) (by simp only [maxLen]; omega) (by omega) (by have := hb'.size; simp; omega) ?_; intro v' w1 hown' hgrow _))
            go_roundw
            all_goals have hbW : Below (w.heap.size + 1) W w1 := (((hb'.mono (by omega)).alloc (by have := hb'.size; omega) _).alloc (by have := hb'.size; simp; omega) _).grown hgrow (by have := hb'.size; simp; omega) (own_ge hown2)
            all_goals have hit3 := (hbW.block _ (by omega)).trans hit2
            case rel => exact ⟨_, f, acc ++ [q], over, rfl, by rw [List.length_append, List.flatMap_append]; exact hown', by simp; omega, hit3, hb2.trans (hbW.mono (by omega)), HP.out, by omega⟩
            case measure => simp only [World.iterPos, hit3, hit]; omega
    · have hnx : ∀ ty, (Instr.next (.pointer (some ⟨w.heap.size, 0, none⟩)) true ty).run Try.prog wr = _ := fun ty => Lib.run_next_end_at wr w.heap.size s pos ty hit hp
      rw [parseFrom_end s f pos acc over hp] at hpf
      have HP := hide hpf
      clear hpf
      cases over
      · go_wp2
        go_returns
        rw [← HP.out]
        exact ⟨_, rfl, own_base hown (by omega), hb⟩
      · go_wp2
        go_returns
        rw [← HP.out]
        exact ⟨_, rfl, by simpa using World.ownsRow_nil _ _ _ _, hb⟩
end Go.Proofs.Ytbnnhalbgkaedaa
