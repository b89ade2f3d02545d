/- Layer set: Of, numbers, Parse. -/
import Derived.Test.YtnodloeiabbliaaDoorSetText
namespace Go.Proofs.YtnodloeiabbliaaDoor
open Go.RowKit Go.Shelf Go.Proofs

abbrev Ints (w : World) (v : Value) (l : List Int) : Prop := Sl ic 1 w v l
theorem ic_len (o : Int) : (ic o).length = 1 := rfl
theorem ints_at {w : World} {A : Option Addr} {n c k : Nat} {l : List Int} (h : Ints w (.slice A n c) l) (hk : k < l.length) :
    ∃ b off, A = some ⟨b, off, none⟩ ∧ w.cell? ⟨b, off + k, none⟩ = some (.int .i64 l[k]) := by
  obtain ⟨A', c', e, h1, h2, h3⟩ := h
  injection e with e1 e2 e3
  subst e1
  obtain ⟨b, off, rfl, hb, hc⟩ := h3 (by omega)
  refine ⟨b, off, rfl, ?_⟩
  have := hc k l[k] (List.getElem?_eq_getElem hk) 0 (.int .i64 l[k]) rfl
  simpa using this
theorem ofF_snoc (l : List Int) (k : Nat) (h : k < l.length) : ofF (l.take (k + 1)) = addF (ofF (l.take k)) l[k] := by
  rw [List.take_succ_eq_append_getElem h, ofF, List.foldl_append]; rfl

set_option maxHeartbeats 1000000 in
theorem Of_any (v : Value) (l : List Int) (w : World) (hl : Ints w v l) (hr : ∀ o ∈ l, -9223372036854775808 ≤ o ∧ o ≤ 9223372036854775807) :
    Calls Tryd.prog 20 #[v] w fun e w' => e = .returned (.int .u64 (ofF l : Nat)) ∧ w' = w := by
  have hl' := hl
  obtain ⟨A, c, rfl, h1, h2, -⟩ := hl'
  unfold maxLen at h2
  have HL := hide hl
  have HR := hide hr
  clear hl hr
  go_enter Tryd.func20, Tryd.ntmps20
  go_wp2
  go_loop [3, 8] (fun s i => ∃ k : Nat, k ≤ l.length ∧ i = .int .i64 k ∧ s = .int .u64 (ofF (l.take k) : Nat)) (fun _ i => l.length - (Go.RowKit.intOf i).toNat)
  case atStart => exact ⟨0, Nat.zero_le _, rfl, rfl⟩
  case round =>
    obtain ⟨k, hk, rfl, rfl⟩ := hrel
    by_cases hlt : k < l.length
    · obtain ⟨b, off, rfl, hc⟩ := ints_at HL.out hlt
      have hb := HR.out _ (List.getElem_mem hlt)
      have HS := hide (ofF_snoc l k hlt)
      have hlo := ofF_lt (l.take k)
      generalize l[k] = o at *
      go_wp2_with (go_at_call 14; refine (Add_any _ _ _ hlo hb.1 hb.2).mono ?_; rintro e w' ⟨rfl, rfl⟩)
      go_round
      case rel => exact ⟨k + 1, by omega, by go_num, by rw [HS.out]⟩
      case measure => simp [Go.RowKit.intOf]; omega
    · go_wp2
      go_ret
      refine ⟨ret_u64 ?_, rfl⟩
      rw [List.take_of_length_le (by omega)]

/-! ### strconv.Atoi, strings.Split -/
theorem Atoi_ok (s : ByteArray) (hs : s.size ≤ 281474976710656) (v : Int) (h : Go.Lib.atoiAll s.data.toList = .ok v) (w : World) :
    Calls Tryd.prog 43 #[.string s] w fun e w' => e = .returned (.tuple #[.int .i64 v, .nilIface]) ∧ Below w.heap.size w w' :=
  (Tryd.strconv_Atoi_ok s (by omega) v h w).mono fun e w' ⟨he, hw⟩ => ⟨he, by
    rcases hw with rfl | ⟨t, rfl⟩
    · exact Below.refl _ _
    · exact Lib.bytesWorld_below _ _ _⟩
theorem Atoi_bad (s : ByteArray) (hs : s.size ≤ 281474976710656) (h : ∀ v, Go.Lib.atoiAll s.data.toList ≠ .ok v) (w : World) (hE : Env w) :
    Calls Tryd.prog 43 #[.string s] w fun e w' => ∃ (n : Int) (N : Nat), e = .returned (.tuple #[.int .i64 n, .iface 86 (.pointer (some ⟨N, 0, none⟩))]) ∧ Below w.heap.size w w' := by
  obtain ⟨-, ⟨te, pe, h2⟩, ⟨tr, pr, h3⟩, -⟩ := hE
  rcases ha : Go.Lib.atoiAll s.data.toList with v | _ | _
  · exact absurd ha (h v)
  · exact (Any.strconv_Atoi_syntax Tryd.laysC172 s hs ha _ w h2 (.inr ⟨_, _, rfl⟩)).mono fun e w' ⟨N, he, _, _, hb⟩ => ⟨0, N, he, hb⟩
  · exact (Any.strconv_Atoi_range Tryd.laysC172 s hs ha _ w h3 (.inr ⟨_, _, rfl⟩)).mono fun e w' ⟨N, he, _, _, hb⟩ => ⟨_, N, he, hb⟩

def pieces (t : ByteArray) : List ByteArray := Go.Lib.splitB ⟨#[44]⟩ 0 (Go.Lib.countB t ⟨#[44]⟩) t
theorem pieces_cut (t : ByteArray) : (pieces t).map (·.data.toList) = cut 44 t.data.toList := by
  unfold pieces
  rw [Go.Lib.splitB_data]
  exact splitK_cut 44 t.data.toList
theorem pieces_len (t : ByteArray) : (pieces t).length = Go.Lib.countB t ⟨#[44]⟩ + 1 := Go.Lib.splitB_all _ (by decide) 0 _ t rfl
theorem cut_size (c : UInt8) : ∀ (t : List UInt8) (p : List UInt8), p ∈ cut c t → p.length ≤ t.length
  | [], p, h => by simp [cut] at h; subst h; simp
  | b :: l, p, h => by
    rw [cut] at h
    have ih := cut_size c l
    split at h
    · rcases List.mem_cons.1 h with rfl | h
      · simp
      · have := ih p h; simp; omega
    · split at h
      · rename_i e; exact absurd e (cut_ne c l)
      · rename_i q r e
        rcases List.mem_cons.1 h with rfl | h
        · have := ih q (by rw [e]; exact List.mem_cons_self ..); simp; omega
        · have := ih p (by rw [e]; exact List.mem_cons_of_mem _ h); simp; omega
theorem piece_size {t p : ByteArray} (h : p ∈ pieces t) : p.size ≤ t.size := by
  have h1 : p.data.toList ∈ cut 44 t.data.toList := by rw [← pieces_cut]; exact List.mem_map_of_mem h
  have := cut_size 44 _ _ h1
  simpa using this
def numsB (P : List ByteArray) : List Int := P.map fun p => atoi0 p.data.toList
theorem nums_pieces (t : ByteArray) : numsB (pieces t) = numsF t.data.toList := by
  unfold numsB numsF
  rw [← pieces_cut, List.map_map]; rfl
theorem Split_any (t : ByteArray) (w : World) (ht : t.size < 4294967281) (hE : Env w) :
    Calls Tryd.prog 42 #[.string t, .string ⟨#[44]⟩] w fun e w' => e = .returned (.slice (some ⟨w.heap.size, 0, none⟩) (pieces t).length (pieces t).length) ∧ w' = w.alloc (.cells ((pieces t).map Value.string).toArray 9) := by
  obtain ⟨-, -, -, ⟨m, hm⟩⟩ := hE
  rw [pieces_len]
  exact Tryd.strings_Split t ⟨#[44]⟩ m w ht hm (by decide)
end Go.Proofs.YtnodloeiabbliaaDoor
