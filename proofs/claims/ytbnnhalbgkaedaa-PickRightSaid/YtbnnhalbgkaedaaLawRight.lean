/- PickRight: for any text: what is parsed is right, and printed it is the text without its blanks; with an error there is none. No condition. -/
import Derived.Test.YtbnnhalbgkaedaaEx
import Derived.Test.YtbnnhalbgkaedaaRead
import Derived.Test.YtbnnhalbgkaedaaText2
namespace Go.Proofs.Ytbnnhalbgkaedaa.lawRight
open Go.RowKit Go.WideShapes Go.ChangeShapes Go.ChangeAt Go.Proofs.Ytbnnhalbgkaedaa

theorem take_nb (s : ByteArray) (k : Nat) (h : k < s.size) : (s.data.toList.take (k + 1)).filter nb = (s.data.toList.take k).filter nb ++ if nb (s[k]'h) then [s[k]'h] else [] := by
  have hl : k < s.data.toList.length := by rw [bsize]; exact h
  rw [List.take_succ_eq_append_getElem hl, List.filter_append]
  congr 1
  have e : s.data.toList[k] = s[k]'h := rfl
  rw [e, List.filter_cons]
  split <;> simp_all
theorem extract_one (s : ByteArray) (k : Nat) (h : k < s.size) : s.extract k (k + 1) = ⟨[s[k]'h].toArray⟩ := by
  apply ByteArray.ext
  apply Array.ext'
  rw [ByteArray.data_extract, Array.toList_extract]
  simp only [List.extract, show k + 1 - k = 1 by omega]
  rw [drop_cons s k h]; rfl

set_option maxRecDepth 100000 in
set_option maxHeartbeats 8000000 in
theorem walk (s : ByteArray) (w : World) (hs : s.size ≤ 140737488351232) :
    Calls Try.prog 5 #[.string s] w fun e w' => e = .returned (.bool true) ∧ Below w.heap.size w w' := by
  have hpt := parse_text s s.size 0 [] false (by omega) (by simp) (by simp)
  rw [show parseFrom s s.size 0 [] false = parseF s from rfl] at hpt
  obtain ⟨⟨P, E⟩, hPE⟩ : ∃ x, parseF s = x := ⟨_, rfl⟩
  rw [hPE] at hpt
  dsimp only at hpt
  have HPE := hide hPE
  clear hPE
  by_cases hE : E = 0
  · subst hE
    obtain ⟨_, h2, h3, h4⟩ := hpt.2 rfl
    have HT := hide (show printL P = s.data.toList.filter nb by simpa [printL] using h2)
    have HK := hide (show (P.all fun p => there p 16 16) = true from List.all_eq_true.2 fun p hp => right_there (h4 p hp))
    clear hpt h2 h4
    go_enter Try.func5, Try.ntmps5
    go_wp2_with fail
    refine (examples_any _).mono ?_
    rintro e w1 ⟨rfl, hb1⟩
    go_wp2_with fail
    refine (Parse_any _ _).mono ?_
    rintro e w2 ⟨v2, rfl, ho2, hb2⟩
    rw [HPE.out] at ho2 ⊢
    have hbb := bcall hb1 hb2
    have hP2 := hide (Sl.of_own pc_len ho2)
    clear ho2
    go_wp2
    go_loopw [6, 7] (fun t i wr => ∃ k : Nat, k ≤ s.size ∧ i = .int .i64 k ∧ t = .string ⟨((s.data.toList.take k).filter nb).toArray⟩ ∧ Below w2.heap.size w2 wr) (fun _ i _ => s.size - (intOf i).toNat)
    case atStart => exact ⟨0, Nat.zero_le _, rfl, rfl, Below.refl _ _⟩
    case round =>
      obtain ⟨k, hk, rfl, rfl, hbw⟩ := hrel
      have hfl : ((s.data.toList.take k).filter nb).length ≤ k := Nat.le_trans (List.length_filter_le _ _) (List.length_take_le _ _)
      by_cases hlt : k < s.size
      · have HN := hide (take_nb s k hlt)
        have HX := hide (extract_one s k hlt)
        rcases (show (s[k]'hlt).toNat = 32 ∨ (s[k]'hlt).toNat = 10 ∨ ((s[k]'hlt).toNat ≠ 32 ∧ (s[k]'hlt).toNat ≠ 10) by omega) with h32 | h10 | ⟨h32, h10⟩
        · have hq := hide (show nb (s[k]'hlt) = false by unfold nb; rw [u8_of h32]; rfl)
          have b1 : (((s[k]'hlt).toNat : Int) != 32) = false := by rw [h32]; rfl
          clear h32
          go_wp2_with fail
          go_roundw
          case rel => exact ⟨k + 1, by omega, by go_num, by rw [HN.out, hq.out]; simp, hbw⟩
          case measure => simp [intOf]; omega
        · have hq := hide (show nb (s[k]'hlt) = false by unfold nb; rw [u8_of h10]; rfl)
          have b1 : (((s[k]'hlt).toNat : Int) != 32) = true := by rw [h10]; rfl
          have b2 : (((s[k]'hlt).toNat : Int) != 10) = false := by rw [h10]; rfl
          clear h10
          go_wp2_with fail
          go_roundw
          case rel => exact ⟨k + 1, by omega, by go_num, by rw [HN.out, hq.out]; simp, hbw⟩
          case measure => simp [intOf]; omega
        · have hq := hide (nb_of h32 h10)
          have b1 : (((s[k]'hlt).toNat : Int) != 32) = true := by rw [bne_iff_ne]; omega
          have b2 : (((s[k]'hlt).toNat : Int) != 10) = true := by rw [bne_iff_ne]; omega
          clear h32 h10
          go_wp2_with fail
          go_roundw
          case rel => exact ⟨k + 1, by omega, by go_num, by rw [HN.out, hq.out, HX.out, ba_append]; simp, hbw⟩
          case measure => simp [intOf]; omega
      · have HF := hide (show (s.data.toList.take k).filter nb = printL P by rw [HT.out, List.take_of_length_le (by rw [bsize]; omega)])
        go_wp2_with fail
        (with_reducible refine (Print_any _ P _ (hP2.out.below hbw) (by omega)).mono ?_)
        rintro e w5 ⟨rfl, hb5⟩
        have hbw := bcall hbw hb5
        rw [HF.out]
        go_wp2_with fail
        (with_reducible refine (Known_any _ P _ _ _ (hP2.out.below hbw)).mono ?_)
        rintro e w6 ⟨rfl, hb6⟩
        have hbw := bcall hbw hb6
        rw [HK.out]
        go_wp2
        go_ret
        exact ⟨rfl, hbb.trans (hbw.mono hbb.size)⟩
  · obtain ⟨h1, h2⟩ := hpt.1 hE
    subst h1
    have hE' : (E != 0) = true := by rw [bne_iff_ne]; exact hE
    rcases h2 with h2 | h2
    all_goals
      subst h2
      go_enter Try.func5, Try.ntmps5
      go_wp2_with fail
      refine (examples_any _).mono ?_
      rintro e w1 ⟨rfl, hb1⟩
      go_wp2_with fail
      refine (Parse_any _ _).mono ?_
      rintro e w2 ⟨v2, rfl, ho2, hb2⟩
      rw [HPE.out] at ho2 ⊢
      have hbb := bcall hb1 hb2
      obtain ⟨A2, c2, rfl, _, _⟩ : ∃ A c, v2 = .slice A 0 c ∧ 0 ≤ c ∧ c ≤ maxLen := own_form ho2
      clear ho2
      go_wp2
      go_ret
      exact ⟨rfl, hbb⟩

set_option maxRecDepth 100000 in
theorem lifted (os : Os) (started : os.Started) (H : Type) (enc : TypeId × Value → H) :
    ReturnsInHanded {} Try.checked os 5 .any (Rows.pickRightSpec.pre6 enc Try.prog Try.f5 Rows.pickRightRow.domain false) (Rows.pickRightSpec.post enc Try.prog Try.f5 false true false false) := by
  refine returnsInHanded_of_change_sized (C := Try.checked) ownL started (by kernel_rfl) Try.func5
    (ChangeSpec.witness6 (enc := enc) (C := Try.checked) false ⟨#[], #[.string .empty], []⟩ 8 (by kernel_rfl) (by kernel_rfl) (by kernel_rfl) (by kernel_rfl)) ?_
  intro W base args ds gs before hval hW _ hsz0 _
  have hW' := hW
  obtain ⟨p, q, hA0, hV, rfl, hfz, hnd⟩ := hW
  have hA : DataW.TrodAll enc Try.prog W 0 (fun _ => true) true Try.f5.params.toList args.toList ds p := hA0
  rw [Try.params5] at hA hval
  obtain ⟨v0, vs0, d0, ds0, p0, q0, hargs, rfl, rfl, h0, r0⟩ := trodAll_cons hA
  obtain ⟨rfl, rfl, rfl⟩ := trodAll_nil r0
  obtain rfl : args = #[v0] := by cases args; simp_all
  obtain ⟨rfl, rfl⟩ := trodVars_none hV
  obtain ⟨s0, rfl, rfl, rfl, hs0⟩ := Go.ChangeMaps.open_string Try.underlying9 (hval 0 9 v0 rfl rfl) h0
  have hsz : (DataW.weightsEach Try.prog [9] ([.lit (.string s0.data.toList)] : List (DataW H))).all (· ≤ reachBytes) = true := hsz0
  have e0 : s0.size ≤ 140737488351232 := by have h1 : s0.data.toList.length = s0.size := (by rw [Array.length_toList]; rfl); have h2 := sized_string hsz (j := 0) rfl rfl; simp only [reachBytes] at h2; omega
  refine (walk s0 W e0).mono fun e W' ⟨he, hg⟩ => ?_
  subst he
  exact ⟨_, rfl, law_post laidOutL (by kernel_rfl) rfl Try.underlying4 rfl ⟨rfl, rfl, rfl⟩ hW' hg⟩

/-- THE STATEMENT -/
theorem proved : Rows.PickRightSaid :=
  OpenClaim.holds_of_wide 5 Try.f5 rfl rfl rfl rfl rfl rfl rfl ⟨rfl, rfl, rfl, rfl, rfl⟩ rfl rfl rfl rfl rfl (by kernel_rfl) Try.func5 (by kernel_rfl)
    (of_decide_eq_true (by kernel_rfl)) (by unfold Func.isWrapper; first | (rw [if_pos (by decide +kernel)]; kernel_rfl) | (rw [if_neg (by decide +kernel)]; exact ⟨rfl, rfl⟩))
    (fun os started H enc _ => lifted os started H enc)

end Go.Proofs.Ytbnnhalbgkaedaa.lawRight
