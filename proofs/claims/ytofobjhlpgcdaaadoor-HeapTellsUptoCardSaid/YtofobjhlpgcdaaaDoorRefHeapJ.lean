/- Layer heap: the document's own answer: Number. -/
import Derived.Test.YtofobjhlpgcdaaaDoorRefHeapP
import Derived.Test.YtofobjhlpgcdaaaDoorRefHeapD
namespace Go.Proofs.YtofobjhlpgcdaaaDoor
open Go.RowKit

theorem num_short {l : B8} (h : l.length < 1 ∨ 7 < l.length) : numN l = -1 := by unfold numN; rw [if_pos h]
theorem num_bad {l : B8} (h : ¬ (l.length < 1 ∨ 7 < l.length)) (hd : l.all dgt = false) : numN l = -1 := by unfold numN; rw [if_neg h, hd]; rfl
theorem num_great {l : B8} (hd : l.all dgt = true) (h : 1000000 < valD 0 l ∨ Go.Lib.decDigits (valD 0 l).toNat ≠ l) : numN l = -1 := by
  unfold numN
  rw [if_pos hd, if_pos h]
  split <;> rfl
theorem num_good {l : B8} (h0 : ¬ (l.length < 1 ∨ 7 < l.length)) (hd : l.all dgt = true) (h : ¬ (1000000 < valD 0 l ∨ Go.Lib.decDigits (valD 0 l).toNat ≠ l)) : numN l = valD 0 l := by
  unfold numN
  rw [if_neg h0, if_pos hd, if_neg h]
theorem ten_pow {k : Nat} (h : k ≤ 7) : (10 : Int) ^ k ≤ 10000000 := by
  have : ∀ n : Fin 8, (10 : Int) ^ n.val ≤ 10000000 := by decide
  exact this ⟨k, by omega⟩

set_option maxRecDepth 100000 in
set_option maxHeartbeats 8000000 in
theorem rNum_any (p : ByteArray) (w : World) (hp : p.size ≤ 9223372036854775807) :
    Calls Tryd.prog 29 #[.string p] w fun e w' => e = .returned (.int .i64 (numN p.data.toList)) ∧ Below w.heap.size w w' := by
  obtain ⟨sb, hsb, hsr⟩ : ∃ sb : Nat → Int, (∀ n (h : n < p.size), ((p[n]'h).toNat : Int) = sb n) ∧ ∀ n, 0 ≤ sb n ∧ sb n ≤ 255 := by
    refine ⟨fun n => if h : n < p.size then ((p[n]'h).toNat : Int) else 0, fun n h => by simp [h], fun n => ?_⟩
    dsimp only
    split
    · next h => have := UInt8.toNat_lt (p[n]'h); omega
    · omega
  have htl : p.data.toList.length = p.size := by rw [Array.length_toList]; rfl
  obtain ⟨L, hL⟩ : ∃ L, p.data.toList = L := ⟨_, rfl⟩
  rw [hL] at htl
  rw [hL]
  have HL := hide hL
  have HTL := hide htl
  clear hL
  by_cases h1 : p.size < 1
  · have HN := hide (num_short (l := L) (.inl (by omega)))
    rw [HN.out]
    clear htl
    go_enter Tryd.func29, Tryd.ntmps29
    go_wp2
    go_ret
    exact ⟨rfl, Below.refl _ _⟩
  · by_cases h7 : 7 < p.size
    · have HN := hide (num_short (l := L) (.inr (by omega)))
      rw [HN.out]
      clear htl
      have q : decide (p.size < 1) = false := decide_eq_false h1
      go_enter Tryd.func29, Tryd.ntmps29
      go_wp2
      go_ret
      exact ⟨rfl, Below.refl _ _⟩
    · have h0 := hide (show ¬ (L.length < 1 ∨ 7 < L.length) by omega)
      obtain ⟨R, hR⟩ : ∃ R, numN L = R := ⟨_, rfl⟩
      rw [hR]
      have HR := hide hR
      clear htl hR
      have q : decide (p.size < 1) = false := decide_eq_false h1
      have q' : decide (7 < p.size) = false := decide_eq_false h7
      go_enter Tryd.func29, Tryd.ntmps29
      go_wp2
      go_loop [3, 4] (fun n i => ∃ (k : Nat) (N P : Int), k ≤ p.size ∧ i = .int .i64 k ∧ n = .int .i64 N ∧ 0 ≤ N ∧ N < P ∧ P ≤ 10000000 ∧ Hid (P = (10 : Int) ^ k) ∧ Hid (valD N (L.drop k) = valD 0 L) ∧ Hid ((L.take k).all dgt = true)) (fun _ i => p.size - (Go.RowKit.intOf i).toNat)
      case atStart => exact ⟨0, 0, 1, Nat.zero_le _, rfl, rfl, by omega, by omega, by omega, hide (by simp), hide (by simp), hide (by simp)⟩
      case round =>
        obtain ⟨k, N, P, hk, rfl, rfl, hN0, hN1, hP, HP, HV, HD⟩ := hrel
        by_cases hlt : k < p.size
        · have hkL : k < L.length := by rw [HTL.out]; exact hlt
          obtain ⟨b, hbd, hbx⟩ : ∃ b : UInt8, L.drop k = b :: L.drop (k + 1) ∧ (b.toNat : Int) = sb k := by
            refine ⟨p[k]'hlt, ?_, hsb k hlt⟩
            rw [List.drop_eq_getElem_cons hkL]
            congr 1
            simp only [← HL.out]; rfl
          have hb0 : L[k]? = some b := by
            have := congrArg (fun x => x[0]?) hbd
            simpa [List.getElem?_drop] using this
          obtain ⟨r0, r1⟩ := hsr k
          have hv := HV.out
          rw [hbd] at hv
          by_cases hd : 48 ≤ sb k ∧ sb k ≤ 57
          · have q1 : decide (sb k < 48) = false := decide_eq_false (by omega)
            have q2 : decide (57 < sb k) = false := decide_eq_false (by omega)
            have HV2 := hide (show valD (N * 10 + (sb k - 48)) (L.drop (k + 1)) = valD 0 L by rw [← hbx]; exact hv)
            have HD2 := hide (show (L.take (k + 1)).all dgt = true by
              rw [List.take_add_one, hb0, List.all_append, HD.out]
              simp only [Option.toList_some, List.all_cons, List.all_nil, Bool.true_and, Bool.and_true, dgt, Bool.and_eq_true, decide_eq_true_eq]
              omega)
            have hp7 := ten_pow (k := k + 1) (by omega)
            have HP2 := hide (show P * 10 = (10 : Int) ^ (k + 1) by rw [Int.pow_succ, HP.out])
            have hP2 : P * 10 ≤ 10000000 := by rw [HP2.out]; exact hp7
            obtain ⟨hd1, hd2⟩ := hd
            clear hbd hbx hb0 hv hp7
            go_wp2
            go_round
            case rel => exact ⟨k + 1, N * 10 + (sb k - 48), P * 10, by omega, by go_num, rfl, by omega, by omega, hP2, HP2, HV2, HD2⟩
            case measure => simp [Go.RowKit.intOf]; omega
          · have HN := hide (num_bad h0.out (show L.all dgt = false by
              rw [List.all_eq_false]
              refine ⟨b, List.mem_of_getElem? hb0, ?_⟩
              simp only [dgt, Bool.and_eq_true, decide_eq_true_eq]
              omega))
            have HR2 := hide (HR.out.symm.trans HN.out)
            clear hbd hbx hb0 hv
            by_cases hlo : sb k < 48
            · go_wp2
              go_ret
              exact ⟨ret_int HR2.out.symm, Below.refl _ _⟩
            · have q1 : decide (sb k < 48) = false := decide_eq_false hlo
              have q2 : decide (57 < sb k) = true := decide_eq_true (by omega)
              clear hd
              go_wp2
              go_ret
              exact ⟨ret_int HR2.out.symm, Below.refl _ _⟩
        · obtain rfl : k = p.size := by omega
          have hv := HV.out
          rw [List.drop_eq_nil_of_le (show L.length ≤ p.size by rw [HTL.out]; exact Nat.le_refl _), valD] at hv
          have hd := HD.out
          rw [List.take_of_length_le (show L.length ≤ p.size by rw [HTL.out]; exact Nat.le_refl _)] at hd
          have HV := hide hv
          have HD := hide hd
          clear hv hd
          by_cases hg : 1000000 < N
          · have HR2 := hide (HR.out.symm.trans (num_great HD.out (.inl (by rw [← HV.out]; exact hg))))
            go_wp2
            go_ret
            exact ⟨ret_int HR2.out.symm, Below.refl _ _⟩
          · have q3 : decide (1000000 < N) = false := decide_eq_false hg
            go_wp2_with fail
            (with_reducible refine (rDigits_c N _ hN0 (by omega)).mono ?_)
            rintro e w5 ⟨rfl, hb5⟩
            by_cases heq : dec N = L
            · have hte : (⟨(dec N).toArray⟩ : ByteArray) = p := by rw [heq, ← HL.out]
              rw [hte]
              have hng : ¬ (1000000 < valD 0 L ∨ Go.Lib.decDigits (valD 0 L).toNat ≠ L) := by
                rw [← HV.out]
                rintro (h | h)
                · omega
                · exact h heq
              have HR2 := hide (HR.out.symm.trans (num_good h0.out HD.out hng))
              clear hng
              have HV2 := hide (HR2.out.trans HV.out.symm)
              clear heq hte
              go_wp2
              go_ret
              exact ⟨ret_int HV2.out.symm, hb5⟩
            · have HR2 := hide (HR.out.symm.trans (num_great HD.out (.inr (by rw [← HV.out]; exact heq))))
              obtain ⟨T, hT⟩ : ∃ T : ByteArray, (⟨(dec N).toArray⟩ : ByteArray) = T := ⟨_, rfl⟩
              have hne : (T.toList == p.toList) = false := by rw [beq_eq_false_iff_ne, ← hT, ByteArray.toList_eq, ByteArray.toList_eq, HL.out]; simpa using heq
              rw [hT]
              clear heq hT
              go_wp2
              go_ret
              exact ⟨ret_int HR2.out.symm, hb5⟩
end Go.Proofs.YtofobjhlpgcdaaaDoor
