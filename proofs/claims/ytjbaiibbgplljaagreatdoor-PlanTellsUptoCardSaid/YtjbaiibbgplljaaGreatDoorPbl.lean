import Derived.Test.YtjbaiibbgplljaaGreatDoorPar
import Derived.Test.YtjbaiibbgplljaaGreatDoorPbd
import Derived.Test.YtjbaiibbgplljaaGreatDoorPaz
set_option maxRecDepth 100000
set_option maxHeartbeats 40000000
namespace Go.Proofs.YtjbaiibbgplljaaGreatDoor
open Go.RowKit Go.Shelf Go.Proofs
structure EnvP (w : World) : Prop where
 e : Env w
 h : EnvH w
theorem EnvP.below {w w' : World} (h : EnvP w) (hb : Below w.heap.size w w') : EnvP w' := ⟨h.e.below hb, h.h.below hb⟩
theorem EnvP.t {w : World} (h : EnvP w) : EnvT w := ⟨h.e.tab⟩
def EnvR (g : Nat) (w : World) : Prop := ∃ w0, EnvP w0 ∧ w0.heap.size ≤ g ∧ Below w0.heap.size w0 w
theorem EnvR.env {g : Nat} {w : World} (h : EnvR g w) : EnvP w := by
 obtain ⟨w0, h1, _, h3⟩ := h; exact h1.below h3
theorem EnvR.grown {g : Nat} {w w' : World} (h : EnvR g w) (hg : w.grownBy w' (some g)) : EnvR g w' := by
 obtain ⟨w0, h1, h2, h3⟩ := h; exact ⟨w0, h1, h2, h3.trans (grown_bel2 hg h2 h3.size)⟩
theorem EnvR.below {g : Nat} {w w' : World} (h : EnvR g w) (hb : Below w.heap.size w w') : EnvR g w' := h.grown (grown_of_below hb _)
def PanQ (k : Int) (e : Ending) : Prop := e = .panicked [{ v := .iface 33 (.int .i64 k), recovered := false }]
def NumE (n : Int) (e : Ending) : Prop := if n < 0 then PanQ 2 e else e = .returned (.int .i64 n)
theorem numE_bad {n : Int} {e : Ending} (hn : n < 0) (h : PanQ 2 e) : NumE n e := by unfold NumE; rw [if_pos hn]; exact h
theorem numE_ok {n m : Int} (hn : ¬ n < 0) (h : n = m) : NumE n (.returned (.int .i64 m)) := by unfold NumE; rw [if_neg hn, h]
theorem number_any (s : ByteArray) (w : World) (hs : s.size ≤ 281474976710656) (hE : EnvP w) :
 Calls Tryz.prog 152 #[.string s] w fun e w' => NumE (numN s.data.toList) e ∧ Below w.heap.size w w' := by
 have HE := hide hE; obtain ⟨N, hN⟩ : ∃ N, numN s.data.toList = N := ⟨_, rfl⟩; have hp := num_prog (s := s.data.toList); rw [hN] at hp ⊢; have HNN := hide hN; clear hE hN; by_cases hok : ∃ n, Go.Lib.atoiAll s.data.toList = .ok n
 · obtain ⟨n, hn⟩ := hok
   have hA := hide (fun w => Atoi_okHp s hs n hn w); have hb := Go.Lib.atoiAll_bounds hn; by_cases h0 : n < 0
   · have hN : N < 0 := by
      rcases hp with ⟨m, h1, h2, _⟩ | ⟨h1, _⟩
      · rw [hn] at h1; injection h1 with h1; omega
      · exact h1
     have HN := hide hN; clear hp hn hN hb; go_enter Tryz.func152, Tryz.ntmps152
     go_wp2_with fail
     (with_reducible refine (hA.out _).mono ?_); rintro e w2 ⟨rfl, hb2⟩; go_wp2; exact ⟨rfl, numE_bad HN.out rfl, hb2⟩
   · by_cases h1 : 1000000 < n
     · have hN : N < 0 := by
        rcases hp with ⟨m, g1, g2, g3, _⟩ | ⟨g1, _⟩
        · rw [hn] at g1; injection g1 with g1; omega
        · exact g1
       have HN := hide hN; clear hp hn hN hb; go_enter Tryz.func152, Tryz.ntmps152
       go_wp2_with fail
       (with_reducible refine (hA.out _).mono ?_); rintro e w2 ⟨rfl, hb2⟩; go_wp2; exact ⟨rfl, numE_bad HN.out rfl, hb2⟩
     · have hI := hide (fun w hE => Itoa_any n (by omega) hb.2 w hE)
       obtain ⟨f, hf⟩ : ∃ f : ByteArray, (⟨(Go.Lib.decDigits n.toNat).toArray⟩ : ByteArray) = f := ⟨_, rfl⟩; have hfl : f.toList = dec n := by rw [← hf]; exact ba_toList _
       have hsl : s.toList = s.data.toList := ByteArray.toList_eq s; by_cases he : dec n = s.data.toList
       · have hN : ¬ N < 0 ∧ N = n := by
          have := dec_num (x := n) ⟨by omega, by omega⟩; rw [he, HNN.out] at this; omega
         have q1 : (f.toList == s.toList) = true := by rw [hfl, hsl, he]; simp
         have HN := hide hN; rw [hf] at hI; clear hp hn hN hb hf hfl hsl he HNN; go_enter Tryz.func152, Tryz.ntmps152
         go_wp2_with fail
         (with_reducible refine (hA.out _).mono ?_); rintro e w2 ⟨rfl, hb2⟩; go_wp2_with fail
         (with_reducible refine (hI.out _ (HE.out.below hb2).h).mono ?_); rintro e w3 ⟨rfl, hb3⟩; go_wp2; go_ret
         exact ⟨numE_ok (by have := HN.out.1; omega) HN.out.2, bcall hb2 hb3⟩
       · have hN : N < 0 := by
          rcases hp with ⟨m, g1, _, _, g2, _⟩ | ⟨g1, _⟩
          · rw [hn] at g1; injection g1 with g1; subst g1; exact absurd g2 he
          · exact g1
         have q1 : (f.toList == s.toList) = false := by rw [hfl, hsl]; simpa using he
         have HN := hide hN; rw [hf] at hI; clear hp hn hN hb hf hfl hsl he HNN; go_enter Tryz.func152, Tryz.ntmps152
         go_wp2_with fail
         (with_reducible refine (hA.out _).mono ?_); rintro e w2 ⟨rfl, hb2⟩; go_wp2_with fail
         (with_reducible refine (hI.out _ (HE.out.below hb2).h).mono ?_); rintro e w3 ⟨rfl, hb3⟩; go_wp2; exact ⟨rfl, numE_bad HN.out rfl, bcall hb2 hb3⟩
 · have hA := hide (fun w hE => Atoi_badHp s hs (fun v h => hok ⟨v, h⟩) w hE)
   have hN : N < 0 := by
    rcases hp with ⟨m, g1, _⟩ | ⟨g1, _⟩
    · exact absurd ⟨m, g1⟩ hok
    · exact g1
   have HN := hide hN; clear hp hok hN HNN; go_enter Tryz.func152, Tryz.ntmps152
   go_wp2_with fail
   (with_reducible refine (hA.out _ HE.out.h).mono ?_); rintro e w2 ⟨n, K, rfl, hb2⟩; go_wp2; exact ⟨rfl, numE_bad HN.out rfl, hb2⟩
