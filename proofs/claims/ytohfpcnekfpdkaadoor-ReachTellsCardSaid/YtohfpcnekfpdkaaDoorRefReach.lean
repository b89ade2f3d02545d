/- Layer reach: the document's own answer: own, next, Via, From. -/
import Derived.Test.YtohfpcnekfpdkaaDoorReachQ
import Derived.Test.YtohfpcnekfpdkaaDoorSetRef2
import Derived.Test.YtohfpcnekfpdkaaDoorQuietB
import Derived.Test.YtohfpcnekfpdkaaDoorHeapPut
namespace Go.Proofs.YtohfpcnekfpdkaaDoor
open Go.RowKit

def nextI (ls : Rws) (s k : Nat) : Nat := ((objs s).take k).foldl (fun a o => a ||| (ofF (rowF ls o) &&& ownF ls)) 0
theorem nextI_lt (ls : Rws) (s k : Nat) : nextI ls s k < 18446744073709551616 := fold_lt _ (fun _ => land_lt _ (ofF_lt _)) _ _ (by decide)
theorem nextI_succ (ls : Rws) (s k : Nat) (h : k < (objs s).length) : nextI ls s (k + 1) = nextI ls s k ||| (ofF (rowF ls (objs s)[k]) &&& ownF ls) := by
  unfold nextI
  rw [List.take_succ_eq_append_getElem h, List.foldl_append]; rfl
theorem nextI_end (ls : Rws) (s k : Nat) (h : (objs s).length ≤ k) : nextI ls s k = nextF ls s := by
  unfold nextI nextF
  rw [List.take_of_length_le h]
theorem rown_any (n : Int) (v : Value) (ls : Rws) (w : World) (h : Grid w v ls) :
    Calls Tryd.prog 59 #[hv n v] w fun e w' => e = .returned (.int .u64 (ownF ls : Nat)) ∧ Below w.heap.size w w' := by
  obtain ⟨A, c, rfl, h1, h2⟩ := h.form
  unfold maxLen at h2
  clear h
  go_enter Tryd.func59, Tryd.ntmps59
  go_wp2_with fail
  (with_reducible refine (rFirst_any _ _ (by omega) (by omega)).mono ?_)
  rintro e w' ⟨rfl, rfl⟩
  go_wp2
  go_ret
  exact ⟨rfl, bal _ _⟩
theorem rown_c (n : Int) (v : Value) (ls : Rws) (w : World) (h : Grid w v ls) (O : Nat) (hO : ownF ls = O) :
    Calls Tryd.prog 59 #[hv n v] w fun e w' => e = .returned (.int .u64 (O : Nat)) ∧ Below w.heap.size w w' := by
  subst hO; exact rown_any n v ls w h
theorem rOf_b (v : Value) (l : List Int) (w : World) (hl : Ints w v l) (hr : ∀ o ∈ l, -9223372036854775808 ≤ o ∧ o ≤ 9223372036854775807) (O : Nat) (hO : ofF l = O) :
    Calls Tryd.prog 77 #[v] w fun e w' => e = .returned (.int .u64 (O : Nat)) ∧ Below w.heap.size w w' := by
  subst hO
  exact (rOf_any v l w hl hr).mono fun e w' ⟨h1, h2⟩ => ⟨h1, by rw [h2]; exact Below.refl _ _⟩
set_option maxRecDepth 100000 in
set_option maxHeartbeats 4000000 in
theorem rnext_any (n : Int) (v : Value) (ls : Rws) (s : Nat) (w : World) (hs : s < 18446744073709551616) (h : Grid w v ls) (hr : Rng ls) (hin : ∀ o, hasF s o = true → o ≤ ls.length) :
    Calls Tryd.prog 61 #[hv n v, .int .u64 s] w fun e w' => e = .returned (.int .u64 (nextF ls s : Nat)) ∧ Below w.heap.size w w' := by
  have HG := hide h
  have HR := hide hr
  have HIn := hide hin
  obtain ⟨A, c, rfl, h1, h2⟩ := h.form
  unfold maxLen at h2
  obtain ⟨w1, e1, hb1, -, -, x0, x1⟩ := box1 w (.int .i64 n) (.slice A ls.length c) 26
  have H1 := hide e1
  have hs1 : w1.heap.size = w.heap.size + 1 := by rw [← e1]; simp
  obtain ⟨O, hO⟩ : ∃ O, ownF ls = O := ⟨_, rfl⟩
  have hOl : O < 18446744073709551616 := hO ▸ own_lt ls
  have HO := hide hO
  clear h hr hin e1 hO
  go_enter Tryd.func61, Tryd.ntmps61
  go_wp2_with fail
  rw [H1.out]
  (with_reducible refine (rList_any s _ hs).mono ?_)
  rintro e w2 ⟨vl, rfl, hown, hb2⟩
  have hI := Sl.of_own ic_len hown
  obtain ⟨Al, cl, rfl, hl1, hl2, -⟩ := id hI
  unfold maxLen at hl2
  have HI := hide hI
  have hol := objs_len s
  clear hown hI
  have X0 := hide (keepc hb2 x0)
  have X1 := hide (keepc hb2 x1)
  have hb02 := bcall hb1 hb2
  clear x0 x1
  go_wp2
  go_loopw [5, 7] (fun t i wr => ∃ k : Nat, k ≤ (objs s).length ∧ i = .int .i64 k ∧ t = .int .u64 (nextI ls s k : Nat) ∧ Below w2.heap.size w2 wr) (fun _ i _ => (objs s).length - (Go.RowKit.intOf i).toNat)
  case atStart => exact ⟨0, Nat.zero_le _, rfl, rfl, Below.refl _ _⟩
  case round =>
    obtain ⟨k, hk, rfl, rfl, hb⟩ := hrel
    have hbw := bcall hb02 hb
    by_cases hlt : k < (objs s).length
    · have HN := hide (nextI_succ ls s k hlt)
      obtain ⟨lb, loff, rfl, hlb, hlc⟩ := ints_at HI.out hlt
      obtain ⟨o, ho⟩ : ∃ o, (objs s)[k] = o := ⟨_, rfl⟩
      rw [ho] at HN hlc
      have hmo : hasF s o = true := mem_objs.1 (ho ▸ List.getElem_mem hlt)
      have hor := has_rng hmo
      have hol2 := HIn.out o hmo
      obtain ⟨j, rfl⟩ : ∃ j : Nat, o = (j : Int) + 1 := ⟨(o - 1).toNat, by omega⟩
      have hjl : j < ls.length := by omega
      obtain ⟨gb, goff, uu, rfl, hgb, hgc, hgi⟩ := grid_at HG.out hjl
      have hrow : rowF ls ((j : Int) + 1) = ls[j] := by rw [rowF_mem (by omega)]; simp
      rw [hrow] at HN
      have hrr := HR.out ls[j] (List.getElem_mem hjl)
      obtain ⟨row, hrw⟩ : ∃ row, ls[j] = row := ⟨_, rfl⟩
      rw [hrw] at hgi hrr HN
      obtain ⟨Ar, cr, rfl, -, -, -⟩ := id hgi
      have HRow := hide hgi
      have HRR := hide hrr
      have HNl := nextI_lt ls s k
      obtain ⟨T, hT⟩ : ∃ T, nextI ls s k = T := ⟨_, rfl⟩
      rw [hT] at HN HNl
      rw [hT]
      obtain ⟨V, hV⟩ : ∃ V, ofF row = V := ⟨_, rfl⟩
      have hVl : V < 18446744073709551616 := hV ▸ ofF_lt row
      rw [hV, HO.out] at HN
      have HV := hide hV
      have hand := bits_and_u64_nat V O hVl hOl
      have hor := bits_or_u64_nat T (V &&& O) HNl (land_lt _ hVl)
      have clq : ∀ p : BW wr, p.w.cell? ⟨lb, loff + k, none⟩ = some (.int .i64 ((j : Int) + 1)) := fun p => ((bcell (bcall hb p.b)).1 lb (loff + k) hlb).trans hlc
      have cgq : ∀ p : BW wr, p.w.cell? ⟨gb, goff + j, none⟩ = some (.slice Ar row.length cr) := fun p => ((bcell (bcall hbw p.b)).1 gb (goff + j) hgb).trans hgc
      have x0q : ∀ p : BW wr, p.w.cell? ⟨w.heap.size, 0, none⟩ = some (.int .i64 n) := fun p => keepc (bcall hb p.b) X0.out
      have x1q : ∀ p : BW wr, p.w.cell? ⟨w.heap.size, 1, none⟩ = some (.slice (some ⟨gb, goff, none⟩) ls.length c) := fun p => keepc (bcall hb p.b) X1.out
      have HGq := hide (fun p : BW wr => HG.out.below (bcall hbw p.b))
      have HRq := hide (fun p : BW wr => HRow.out.below (bcall hbw p.b))
      clear hlc hgc hgi hrow hrw hT hV ho hmo hrr
      go_wp2
      refine wp_region_below (by kernel_rfl) (by kernel_rfl) ?_
      repeat (go_big_quiet_step (first | (with_reducible refine below_of (rOf_b _ row _ (HRq.out _) HRR.out V HV.out)) | (with_reducible refine below_of (rown_c n _ ls _ (HGq.out _) O HO.out))))
      refine wpQuiet_nil ?_
      intro _ hw'
      obtain ⟨⟨wq, bq⟩, hw''⟩ := hw'
      subst hw''
      go_wp2
      go_roundw
      case rel => exact ⟨k + 1, by omega, by go_num, by rw [HN.out], bcall hb bq⟩
      case measure => simp [Go.RowKit.intOf]; omega
    · have HE := hide (nextI_end ls s k (by omega))
      go_wp2
      go_ret
      exact ⟨by rw [← HE.out]; rfl, hbw⟩
end Go.Proofs.YtohfpcnekfpdkaaDoor
