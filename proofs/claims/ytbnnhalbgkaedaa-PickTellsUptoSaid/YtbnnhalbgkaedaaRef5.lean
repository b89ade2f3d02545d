/- Layer pick: the document's own answer: text, Print. -/
import Derived.Test.YtbnnhalbgkaedaaRef4
import Derived.Test.YtbnnhalbgkaedaaText
import Derived.Laws.IdiomStrings
namespace Go.Proofs.Ytbnnhalbgkaedaa
open Go.RowKit

theorem u8_back {x : Int} (h0 : 0 ≤ x) (h1 : x ≤ 255) : ((x.toNat.toUInt8).toNat : Int) = x := by rw [u8_nat h0 (by omega)]; omega
theorem conv1 (w : World) (x : Int) (h0 : 0 ≤ x) (h1 : x ≤ 255) :
    (convert 46 9 (.slice (some ⟨w.heap.size, 0, none⟩) 1 1)).run Try.prog (w.alloc (.cells #[.int .u8 x] 5)) = .ok (.string ⟨[x.toNat.toUInt8].toArray⟩) (w.alloc (.cells #[.int .u8 x] 5)) := by
  refine run_convert_bytes_back (w.alloc (.cells #[.int .u8 x] 5)) 46 9 5 ⟨w.heap.size, 0, none⟩ 1 [x.toNat.toUInt8] Try.underlying46 Try.underlying5 Try.underlying9 fun j hj => ?_
  obtain rfl : j = 0 := by simpa using hj
  rw [row_new w [.int .u8 x] 5 0 _ rfl]
  simp; omega
theorem conv2 (w : World) (x y : Int) (h0 : 0 ≤ x) (h1 : x ≤ 255) (g0 : 0 ≤ y) (g1 : y ≤ 255) :
    (convert 46 9 (.slice (some ⟨w.heap.size, 0, none⟩) 2 2)).run Try.prog (w.alloc (.cells #[.int .u8 x, .int .u8 y] 5)) = .ok (.string ⟨[x.toNat.toUInt8, y.toNat.toUInt8].toArray⟩) (w.alloc (.cells #[.int .u8 x, .int .u8 y] 5)) := by
  refine run_convert_bytes_back (w.alloc (.cells #[.int .u8 x, .int .u8 y] 5)) 46 9 5 ⟨w.heap.size, 0, none⟩ 2 [x.toNat.toUInt8, y.toNat.toUInt8] Try.underlying46 Try.underlying5 Try.underlying9 fun j hj => ?_
  have hj' : j < 2 := by simpa using hj
  match j, hj' with
  | 0, _ => rw [row_new w [.int .u8 x, .int .u8 y] 5 0 _ rfl]; simp; omega
  | 1, _ => rw [row_new w [.int .u8 x, .int .u8 y] 5 1 _ rfl]; simp; omega

theorem ret_text {s : ByteArray} {l : List UInt8} (h : s = ⟨l.toArray⟩) : Ending.returned (.string s) = .returned (.string ⟨l.toArray⟩) := by rw [h]
set_option maxRecDepth 100000 in
set_option maxHeartbeats 4000000 in
theorem text_any (k n : Int) (w : World) :
    Calls Try.prog 31 #[.agg #[.int .i64 k, .int .i64 n]] w fun e w' => e = .returned (.string ⟨(textP (k, n)).toArray⟩) ∧ Below w.heap.size w w' := by
  cases hR : right (k, n)
  · have HR := hide hR
    have HT := hide (show textP (k, n) = [63] by unfold textP writeF; rw [if_pos hR]; decide)
    clear hR
    go_enter Try.func31, Try.ntmps31
    go_wp2_with fail
    (with_reducible refine (rRight_any _ _ _).mono ?_)
    rintro e w2 ⟨rfl, hb2⟩
    rw [HR.out]
    go_wp2
    go_ret
    exact ⟨ret_text (by rw [HT.out]), bcall1 (Below.refl _ _) hb2⟩
  · have HR := hide hR
    have hR' : (!right (k, n)) = false := by rw [hR]; rfl
    by_cases h0 : k = 0
    · subst h0
      have hn : n = 0 := by simp [right] at hR; exact hR
      subst hn
      have HT := hide (show textP (0, 0) = [46] by decide)
      clear hR hR'
      go_enter Try.func31, Try.ntmps31
      go_wp2_with fail
      (with_reducible refine (rRight_any _ _ _).mono ?_)
      rintro e w2 ⟨rfl, hb2⟩
      rw [HR.out]
      obtain ⟨hc, hf⟩ := bcell hb2
      go_wp2
      go_ret
      exact ⟨ret_text (by rw [HT.out]), bcall1 (Below.refl _ _) hb2⟩
    · by_cases h1 : k = 1
      · subst h1
        have hr := right_1 hR' rfl
        have HT := hide (show textP (1, n) = [(97 + n - 1).toNat.toUInt8] by rw [(text_1 hR (by simp)).1]; simp [writeF, hR]; congr 2; omega)
        clear hR hR'
        go_enter Try.func31, Try.ntmps31
        go_wp2_with fail
        (with_reducible refine (rRight_any _ _ _).mono ?_)
        rintro e w2 ⟨rfl, hb2⟩
        rw [HR.out]
        obtain ⟨hc, hf⟩ := bcell hb2
        have hcv := conv1 w2 (97 + n - 1) (by omega) (by omega)
        go_wp2
        go_ret
        have hby : UInt8.ofNat ((97 + n).toNat - 1) = (97 + n - 1).toNat.toUInt8 := by rw [show (97 + n).toNat - 1 = (97 + n - 1).toNat by omega]
        exact ⟨ret_text (by rw [HT.out, ← hby]), (bcall1 (Below.refl _ _) hb2).alloc (by have := hb2.size; simp at this; omega) _⟩
      · have h2 : k = 2 := by simp [right] at hR; omega
        subst h2
        have hr := right_2 hR' rfl
        by_cases hn : n = 16
        · subst hn
          have HT := hide (show textP (2, 16) = [207, 128] by decide)
          clear hR hR'
          go_enter Try.func31, Try.ntmps31
          go_wp2_with fail
          (with_reducible refine (rRight_any _ _ _).mono ?_)
          rintro e w2 ⟨rfl, hb2⟩
          rw [HR.out]
          obtain ⟨hc, hf⟩ := bcell hb2
          have hcv := conv2 w2 207 128 (by omega) (by omega) (by omega) (by omega)
          go_wp2
          go_ret
          exact ⟨ret_text (by rw [HT.out]), (bcall1 (Below.refl _ _) hb2).alloc (by have := hb2.size; simp at this; omega) _⟩
        · have HT := hide (show textP (2, n) = [206, (176 + n).toNat.toUInt8] by
            rw [(text_2 hR rfl).1]
            have e : writeF (2, n) = n + 944 := by simp [writeF, hR]
            rw [e, show (192 + (n + 944) / 64) = 206 by omega, show (128 + (n + 944) % 64) = 176 + n by omega]; rfl)
          have q : (n == 16) = false := by simpa using hn
          clear hR hR' hn
          go_enter Try.func31, Try.ntmps31
          go_wp2_with fail
          (with_reducible refine (rRight_any _ _ _).mono ?_)
          rintro e w2 ⟨rfl, hb2⟩
          rw [HR.out]
          obtain ⟨hc, hf⟩ := bcell hb2
          have hcv := conv2 w2 206 (176 + n) (by omega) (by omega) (by omega) (by omega)
          go_wp2
          go_ret
          exact ⟨ret_text (by rw [HT.out]), (bcall1 (Below.refl _ _) hb2).alloc (by have := hb2.size; simp at this; omega) _⟩

set_option maxRecDepth 100000 in
set_option maxHeartbeats 4000000 in
theorem rPrint_any (v : Value) (l : List PP) (w : World) (hl : Picks w v l) (hlen : l.length ≤ 8796093022208) :
    Calls Try.prog 18 #[v] w fun e w' => e = .returned (.string ⟨(printL l).toArray⟩) ∧ Below w.heap.size w w' := by
  have hl' := hl
  obtain ⟨A, c, rfl, h1, h2, -⟩ := hl'
  unfold maxLen at h2
  have HL := hide hl
  clear hl
  go_enter Try.func18, Try.ntmps18
  go_wp2
  go_loopw [3, 4] (fun t i wr => ∃ k : Nat, k ≤ l.length ∧ i = .int .i64 k ∧ t = .string ⟨(printL (l.take k)).toArray⟩ ∧ Below w.heap.size w wr) (fun _ i _ => l.length - (intOf i).toNat)
  case atStart => exact ⟨0, Nat.zero_le _, rfl, rfl, Below.refl _ _⟩
  case round =>
    obtain ⟨k, hk, rfl, rfl, hb⟩ := hrel
    have hpl := printL_le (l.take k)
    have htk : (l.take k).length ≤ k := List.length_take_le _ _
    by_cases hlt : k < l.length
    · obtain ⟨b, off, rfl, hbl, c0, c1⟩ := picks_at (HL.out.below hb) hlt
      have HS := hide (show printL (l.take (k + 1)) = printL (l.take k) ++ textP (l[k].1, l[k].2) by
        rw [List.take_succ_eq_append_getElem hlt, printL, List.flatMap_append]; simp [printL])
      have htp := textP_le (l[k].1, l[k].2)
      go_wp2_with fail
      (with_reducible refine (text_any _ _ _).mono ?_)
      rintro e w2 ⟨rfl, hb2⟩
      go_wp2
      go_roundw
      case rel => exact ⟨k + 1, by omega, by go_num, by rw [HS.out, ba_append], bcall hb hb2⟩
      case measure => simp [intOf]; omega
    · have HF := hide (show printL (l.take k) = printL l by rw [List.take_of_length_le (by omega)])
      go_wp2
      go_ret
      exact ⟨ret_text (by rw [HF.out]), hb⟩
end Go.Proofs.Ytbnnhalbgkaedaa
