/- Layer plan: what the chapter asks, as plain functions, and what follows. No program in this text. -/
import Derived.Lib.OthersKept
import Derived.Shelf.Strings.Builder1
import Derived.Shelf.Strings.BuilderF
import Derived.Shelf.Strings.BuilderK
import Derived.Shelf.Strings.BuilderRune
import Derived.Test.YtdmbcjckgfjcaaaGreatDoorProg
import Derived.Test.YtdmbcjckgfjcaaaGreatDoorRaa
import Derived.Test.YtdmbcjckgfjcaaaGreatDoorRaa
import Derived.Test.YtdmbcjckgfjcaaaGreatDoorRaa
import Derived.Test.YtdmbcjckgfjcaaaGreatDoorRab
namespace Go.Proofs.YtdmbcjckgfjcaaaGreatDoor
structure Pq where
  wk : Int
  mu : Int
  cp : Int
  bf : Int
  bn : Int
  mo : Int
  pr : Int
  li : Int
  sl : Int
  ob : Rws
  ro : Nat
  rg : Rws
  pg : List (List Oq)
  pk : List (Int × Int)
deriving DecidableEq
def zeroQ : Pq := ⟨0, 0, 0, 0, 0, 0, 0, 0, 0, [], 0, [], [], []⟩
def regsF (n : Nat) (l : List Int) : Bool := l.all (fun x => decide (0 ≤ x ∧ x ≤ (n : Int))) && decide (1 ≤ l.length ∧ l.length ≤ 4)
def mutF (n : Nat) (sl : Int) (x : List Int × List Oq) : Bool := regsF n x.1 && cFits x.2 x.1.length sl
def pRng (p : Pq) : Prop := 1 ≤ p.wk ∧ p.wk ≤ 16 ∧ 0 ≤ p.mu ∧ p.mu ≤ 16 ∧ 1 ≤ p.cp ∧ p.cp ≤ 16 ∧ 1 ≤ p.bf ∧ p.bf ≤ 8 ∧ 1 ≤ p.bn ∧ p.bn ≤ 8 ∧ 0 ≤ p.pr ∧ p.pr ≤ 1000000 ∧ 0 ≤ p.li ∧ p.li ≤ 1000000
instance (p : Pq) : Decidable (pRng p) := by unfold pRng; exact inferInstance
def pRight (p : Pq) : Bool :=
  decide (pRng p) && (rightF p.sl p.ob && (decide ((p.ob.length : Int) ≤ p.mo ∧ p.mo ≤ 64) && (underF p.ro (firstF p.ob.length) &&
    (decide ((p.rg.length : Int) = p.mu ∧ (p.pg.length : Int) = p.mu) && ((p.rg.zip p.pg).all (mutF p.ob.length p.sl) &&
      (decide (p.pk.length ≤ 100000) && p.pk.all fun x => there x p.wk p.mu))))))
structure PRt (p : Pq) : Prop where
  rng : pRng p
  hp : rightF p.sl p.ob = true
  most : (p.ob.length : Int) ≤ p.mo ∧ p.mo ≤ 64
  und : underF p.ro (firstF p.ob.length) = true
  lens : (p.rg.length : Int) = p.mu ∧ (p.pg.length : Int) = p.mu
  muts : ∀ x ∈ p.rg.zip p.pg, mutF p.ob.length p.sl x = true
  len : p.pk.length ≤ 100000
  picks : ∀ x ∈ p.pk, there x p.wk p.mu = true
theorem pRight_iff {p : Pq} : pRight p = true ↔ PRt p := by
  unfold pRight
  simp only [Bool.and_eq_true, decide_eq_true_eq, List.all_eq_true]
  exact ⟨fun ⟨a, b, c, d, e, f, g, h⟩ => ⟨a, b, c, d, e, f, g, h⟩, fun ⟨a, b, c, d, e, f, g, h⟩ => ⟨a, b, c, d, e, f, g, h⟩⟩
def pBins (p : Pq) : Int := p.mo + p.wk + p.mu
def pGreys (p : Pq) : Nat := p.rg.foldl (fun s l => s ||| ofF l) p.ro
theorem regs_ok {n : Nat} {l : List Int} (h : regsF n l = true) : (∀ x ∈ l, 0 ≤ x ∧ x ≤ (n : Int)) ∧ 1 ≤ l.length ∧ l.length ≤ 4 := by
  unfold regsF at h
  rw [Bool.and_eq_true, decide_eq_true_eq, List.all_eq_true] at h
  exact ⟨fun x hx => by simpa using h.1 x hx, h.2⟩
theorem right_ob {p : Pq} (h : PRt p) : p.ob.length ≤ 64 := (right_len h.hp).2.2
end Go.Proofs.YtdmbcjckgfjcaaaGreatDoor
