/- Layer deque: numbers stay numbers of 64 bits. No program in this text. -/
import Derived.Test.YthjdjkcdlknhbaaDequeMach
namespace Go.Proofs.Ythjdjkcdlknhbaa

theorem s64_I (x : Int) : I6 (s64 x) := by unfold I6 s64; omega
theorem w64_U' (x : Int) : U (w64 x) := by unfold U w64; omega
theorem load_U {m : List Int} (h : AllU m) (a : Int) : U (loadF m a) := vF_U h _
theorem store_U {m : List Int} (h : AllU m) {a v : Int} (ha : I6 a) (hv : U v) : AllU (storeF m a v) := mF_U h ⟨hv, by simp [U], by simp, ha⟩
theorem swap_U {m : List Int} (h : AllU m) {a x y : Int} (ha : I6 a) (hx : U x) (hy : U y) : AllU (swapF m a x y) := mF_U h ⟨hx, hy, by simp, ha⟩
theorem I6_small {x : Int} (h0 : -100 ≤ x) (h1 : x ≤ 100) : I6 x := by unfold I6; omega
structure StepU (m : List Int) (r : List Int × Mc) : Prop where
  mem : AllU r.1
  mac : McU r.2
  len : r.1.length = m.length
theorem step_U {m : List Int} {d : Mc} (hm : AllU m) (hd : McU d) : StepU m (stepF m d) := by
  have hk := hd.kind
  have hs := hd.base
  have hc := hd.cap
  have hb := hd.b
  have ht := hd.t
  have hx := hd.x
  have hu := hd.out
  have hbc : I6 (bottomC d) := s64_I _
  have hl := load_U hm
  have hsl : ∀ a v, (storeF m a v).length = m.length := fun a v => mF_len _ _
  have hwl : ∀ a x y, (swapF m a x y).length = m.length := fun a x y => mF_len _ _
  have no : StepU m (m, d) := ⟨hm, hd, rfl⟩
  have sm : ∀ {y : Int}, (-100 ≤ y ∧ y ≤ 100) → I6 y := fun h => I6_small h.1 h.2
  unfold stepF
  split
  · exact no
  · split
    · unfold pushF
      repeat' split
      all_goals first
        | exact no
        | exact ⟨hm, ⟨hk, sm (by simp), hs, hc, hl _, ht, hx, hu⟩, rfl⟩
        | exact ⟨hm, ⟨hk, sm (by simp), hs, hc, hb, hl _, hx, hu⟩, rfl⟩
        | exact ⟨hm, ⟨hk, sm (by simp), hs, hc, hb, hl _, hx, sm (by simp)⟩, rfl⟩
        | exact ⟨store_U hm (s64_I _) (w64_U' _), ⟨hk, sm (by simp), hs, hc, hb, ht, hx, hu⟩, hsl _ _⟩
        | exact ⟨store_U hm (s64_I _) (w64_U' _), ⟨hk, sm (by simp), hs, hc, hb, ht, hx, sm (by simp)⟩, hsl _ _⟩
    · split
      · unfold popF
        repeat' split
        all_goals first
          | exact no
          | exact ⟨hm, ⟨hk, sm (by simp), hs, hc, hl _, ht, hx, hu⟩, rfl⟩
          | exact ⟨hm, ⟨hk, sm (by simp), hs, hc, hb, hl _, hx, hu⟩, rfl⟩
          | exact ⟨hm, ⟨hk, sm (by simp), hs, hc, hb, ht, s64_I _, hu⟩, rfl⟩
          | exact ⟨hm, ⟨hk, sm (by simp), hs, hc, hb, ht, s64_I _, sm (by simp)⟩, rfl⟩
          | exact ⟨store_U hm (s64_I _) (w64_U' _), ⟨hk, sm (by simp), hs, hc, hb, ht, hx, hu⟩, hsl _ _⟩
          | exact ⟨store_U hm (s64_I _) hb, ⟨hk, sm (by simp), hs, hc, hb, ht, hx, sm (by simp)⟩, hsl _ _⟩
          | exact ⟨store_U hm (s64_I _) hb, ⟨hk, sm (by simp), hs, hc, hb, ht, sm (by simp), sm (by simp)⟩, hsl _ _⟩
          | exact ⟨swap_U hm hs ht (w64_U' _), ⟨hk, sm (by simp), hs, hc, hb, ht, hx, hu⟩, hwl _ _ _⟩
      · split
        · unfold stealF
          repeat' split
          all_goals first
            | exact no
            | exact ⟨hm, ⟨hk, sm (by simp), hs, hc, hb, hl _, hx, hu⟩, rfl⟩
            | exact ⟨hm, ⟨hk, sm (by simp), hs, hc, hl _, ht, hx, hu⟩, rfl⟩
            | exact ⟨hm, ⟨hk, sm (by simp), hs, hc, hl _, ht, hx, sm (by simp)⟩, rfl⟩
            | exact ⟨hm, ⟨hk, sm (by simp), hs, hc, hb, ht, s64_I _, hu⟩, rfl⟩
            | exact ⟨swap_U hm hs ht (w64_U' _), ⟨hk, sm (by simp), hs, hc, hb, ht, hx, sm (by simp)⟩, hwl _ _ _⟩
            | exact ⟨swap_U hm hs ht (w64_U' _), ⟨hk, sm (by simp), hs, hc, hb, ht, sm (by simp), sm (by simp)⟩, hwl _ _ _⟩
        · exact no
theorem start_U {k s c x : Int} (hk : I6 k) (hs : I6 s) (hc : I6 c) (hx : I6 x) : McU (startF k s c x) := ⟨hk, by simp [startF, I6], hs, hc, by simp [startF, U], by simp [startF, U], hx, by simp [startF, I6]⟩
end Go.Proofs.Ythjdjkcdlknhbaa
