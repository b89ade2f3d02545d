/- A range over a function whose body may panic: the frame's own function is known, so a panic of a round goes on through yield. -/
import Derived.RangeFuncBox
import Derived.RangeFuncNested
import Derived.RangeFuncBound
import Derived.RangeFuncCalls
import Derived.RangeFuncLeaves
namespace Go.Proofs.YtffdgkofolomlaaDoor
open Go.RowKit

section
variable {P : Program} {f : FuncId} {a : Act} {w : World} {Q : Exit → Act → World → Prop}

/-- what a code does in a frame of function f (no round) -/
def WpAt (P : Program) (f : FuncId) (c : Code) (Q : Exit → Act → World → Prop) (a : Act) (w : World) : Prop :=
  ∀ (b : Frame) (k : List Item) (cs : List Frame), b.roundOf = none → b.fn = f →
    ∃ e a' w', Q e a' w' ∧ ArrivesIn (Machine.fenced P Fence.wide) P (lone (b.atR a (.code c :: k)) cs w) b k cs e a' w'
theorem WpAt.of_wp {n : Nat} {c : Code} (h : c.wpIn Fence.wide n P Q a w) : WpAt P f c Q a w := fun b k cs hro _ => h b k cs hro trivial (room_wide _)
theorem WpAt.seq {x y : Code} (h : WpAt P f x (Exit.then (WpAt P f y Q) Q) a w) : WpAt P f (.seq x y) Q a w := by
  intro b k cs hro hb
  have s0 := StepsIn.one (fenced_wide P (lone (b.atR a (.code (.seq x y) :: k)) cs w)) (stepR_seq (P := P))
  obtain ⟨e, a1, w1, hq, ha⟩ := h b (.code y :: k) cs hro hb
  by_cases hn : e = .normal
  · subst hn
    obtain ⟨e2, a2, w2, hq2, ha2⟩ := hq b k cs hro hb
    exact ⟨e2, a2, w2, hq2, (ArrivesIn.of_steps (s0.trans ha) ha2)⟩
  · refine ⟨e, a1, w1, by cases e <;> first | exact hq | exact absurd rfl hn, .of_steps s0 (.pass (x := .code y) rfl (fun _ _ => .inl hn) ha)⟩
/-- a block that is left at its end, or by a panic -/
theorem WpAt.block {id : Nat} {c : Code} (h : WpAt P f c (fun e a' w' => (e = .normal ∧ Q .normal a' w') ∨ ∃ ch, e = .panic ch ∧ Q (.panic ch) a' w') a w) : WpAt P f (.block id c) Q a w := by
  intro b k cs hro hb
  have s0 := StepsIn.one (fenced_wide P (lone (b.atR a (.code (.block id c) :: k)) cs w)) (stepR_block (P := P))
  obtain ⟨e, a1, w1, hq, ha⟩ := h b (.inBlock id :: k) cs hro hb
  rcases hq with ⟨rfl, hq⟩ | ⟨ch, rfl, hq⟩
  · exact ⟨.normal, a1, w1, hq, (s0.trans ha).trans (.one (fenced_wide P _) (stepR_inBlock (P := P)))⟩
  · obtain ⟨todo, hs⟩ := ha
    exact ⟨_, a1, w1, hq, todo, s0.trans hs⟩
/-- a round whose body ends, or panics -/
theorem roundP {fd : Func} (hf : P.funcs[f]? = some fd) {n l : Nat} {tmps : Array Value} {assign body : Code} {R : Ending → World → Prop}
    (h : assign.wpIn (Fence.wide.inRound l) n P (Exit.then (fun a1 w1 => ∃ w2, (Instr.beginRound l).run P w1 = .ok () w2 ∧ body.wpIn (Fence.wide.inRound l) n P
      (fun e a3 w3 => (e = .normal ∧ ∃ v w4, (Instr.endRound l none).run P w3 = .ok v w4 ∧ R (.returned v) w4) ∨ ∃ ch, e = .panic ch ∧ a3.defers = [] ∧ R (.panicked ch) w3) a1 w2) (fun _ _ _ => False)) { tmps := tmps, defers := [] } w) :
    RoundIn Fence.wide n P l f tmps assign body w R := by
  refine ⟨trivial, fun c cs _ => ?_⟩
  obtain ⟨b, eb⟩ : ∃ b : Frame, b = { (default : Frame) with fn := f, kind := .normal, roundOf := some l } := ⟨_, rfl⟩
  have e0 : Frame.round l f tmps assign body .normal = b.atR { tmps := tmps, defers := [] } [.code assign, .beginRound, .code body] := by subst eb; simp [Frame.round, Frame.atR]
  have h1 : b.roundOf = some l := by rw [eb]
  have h2 : b.kind = .normal := by rw [eb]
  have h3 : b.fn = f := by rw [eb]
  obtain ⟨e, a1, w1, hq, ha⟩ := h b [.beginRound, .code body] (c :: cs) h1 trivial (fun _ hd => by simp [Fence.wide] at hd)
  rw [← e0] at ha
  cases e with
  | normal =>
    obtain ⟨w2, hbr, hbody⟩ := hq
    have s1 := StepsIn.one (fenced_wide P (lone (b.atR a1 [.beginRound, .code body]) (c :: cs) w1)) (stepR_beginRound h1 hbr)
    obtain ⟨e2, a3, w3, hq2, ha2⟩ := hbody b [] (c :: cs) h1 trivial (fun _ hd => by simp [Fence.wide] at hd)
    rcases hq2 with ⟨rfl, v, w4, hend, hR⟩ | ⟨ch, rfl, hd, hR⟩
    · exact ⟨.returned v, w4, hR, StepsIn.trans ha (s1.trans (StepsIn.trans ha2 (.one (fenced_wide P _) (stepR_round_end h1 h2 hend))))⟩
    · obtain ⟨todo, hs⟩ := ha2
      refine ⟨.panicked ch, w3, hR, StepsIn.trans ha (s1.trans (hs.trans (.one (fenced_wide P _) (step_leave_panicked ⟨rfl, ?_, fd, ?_⟩))))⟩
      · show (b.atR a3 todo).defers = []
        simp [Frame.atR, hd]
      · show P.funcs[(b.atR a3 todo).fn]? = some fd
        simp [Frame.atR, h3, hf]
  | _ => exact hq.elim
/-- the statement: the iterator ends, and no round has left a jump; or it passes a panic up -/
theorem WpAt.rangeFunc {g : Operand} {ps : Array Tmp} {assign body : Code} {gf : FuncId} {lb : Array Value} (hg : a.eval g = .func (.func gf) #[] lb) (eg : ∀ args w, (callFunc gf args).run P w = .ok (.enter gf args) w)
    (h : CallsIn Fence.wide 0 P gf (#[.func (.yield (w.heap.size + 1)) #[] #[]] ++ lb)
      ((w.alloc (.deferred (some []))).alloc (.loop { state := .ready, pending := none, fn := f, tmps := a.tmps, params := ps, assign := assign, body := body, defers := w.heap.size }))
      (fun e w3 => (∃ v w4, e = .returned v ∧ (Instr.endLoop (w.heap.size + 1)).run P w3 = .ok none w4 ∧ Q .normal { a with defers := { target := .collected w.heap.size, args := #[] } :: a.defers } w4) ∨
        ∃ ch, e = .panicked ch ∧ Q (.panic ch) { a with defers := { target := .collected w.heap.size, args := #[] } :: a.defers } w3)) :
    WpAt P f (.rangeFunc g ps assign body) Q a w := by
  intro b k cs hro hb
  subst hb
  have he := run_enterLoop_outer (P := P) (w := w) b.fn a.tmps ps assign body
  rw [← hro] at he
  obtain ⟨W1, hW1⟩ : ∃ W1, (w.alloc (.deferred (some []))).alloc (.loop { state := .ready, pending := none, fn := b.fn, tmps := a.tmps, params := ps, assign := assign, body := body, defers := w.heap.size }) = W1 := ⟨_, rfl⟩
  rw [hW1] at he h
  have hres : (resolve a.eval (rangeCall g (w.heap.size + 1)) 0).run P W1 = .ok { target := .fn (.func gf) lb, args := #[.func (.yield (w.heap.size + 1)) #[] #[]] } W1 := by
    simp only [resolve, hg]; simp [go_sem]
  have hinv : (invoke (.fn (.func gf) lb) #[.func (.yield (w.heap.size + 1)) #[] #[]]).run P W1 = .ok (.enter gf (#[.func (.yield (w.heap.size + 1)) #[] #[]] ++ lb)) W1 := by simp [invoke, go_sem, eg]
  have s1 := stepR_rangeFunc (b := b) (k := k) (cs := cs) he hres hinv
  obtain ⟨e, w3, fr, hR, hs, -, hl⟩ := h.2 (b.atR { a with defers := [{ target := .collected w.heap.size, args := #[] }] ++ a.defers } (.inRangeFunc (w.heap.size + 1) :: k) :: cs) (room_wide _)
  rcases hR with ⟨v, w4, rfl, hend, hQ⟩ | ⟨ch, rfl, hQ⟩
  · refine ⟨.normal, _, w4, hQ, StepsIn.head (fenced_wide P _) s1 (StepsIn.trans hs (.head (fenced_wide P _) (step_leave_returned hl) ?_))⟩
    rw [finish_atR_inRangeFunc]
    exact .one (fenced_wide P _) (stepR_endRangeFunc hend)
  · refine ⟨.panic ch, _, w3, hQ, .inRangeFunc (w.heap.size + 1) :: k, StepsIn.head (fenced_wide P _) s1 (StepsIn.trans hs (.one (fenced_wide P _) ?_))⟩
    rw [← Frame.raise_atR]
    exact step_leave_panicked hl
/-- a function's contract, where its body's walk knows whose frame it is -/
theorem callsAt {n : Nat} {fd : Func} {c : Code} {args : Array Value} {R : Ending → World → Prop} (hf : P.funcs[f]? = some fd) (hc : fd.body = some c)
    (h : WpAt P f c (fun e a' w' => (e = .ret ∧ LeavesInM Fence.wide n P fd a'.tmps R a'.defers .returning w') ∨ ∃ ch, e = .panic ch ∧ LeavesInM Fence.wide n P fd a'.tmps R a'.defers (.panicking ch) w')
      { tmps := args ++ Array.replicate (fd.ntmps - args.size) undef, defers := [] } w) : CallsIn Fence.wide n P f args w R := by
  refine ⟨trivial, fun cs hr => ?_⟩
  obtain ⟨b, eb⟩ : ∃ b : Frame, b = { (default : Frame) with fn := f, kind := .normal, roundOf := none } := ⟨_, rfl⟩
  have e0 : Frame.enter P f args .normal = b.atR { tmps := args ++ Array.replicate (fd.ntmps - args.size) undef, defers := [] } [.code c] := by subst eb; simp [Frame.enter, Frame.atR, hf, hc]
  have h1 : b.roundOf = none := by rw [eb]
  have h3 : b.fn = f := by rw [eb]
  obtain ⟨e, a', w', hq, ha⟩ := h b [] cs h1 h3
  rw [← e0] at ha
  have hk : (b.atR a' []).kind = .normal := by simp [Frame.atR, eb]
  rcases hq with ⟨rfl, hL⟩ | ⟨ch, rfl, hL⟩
  · obtain ⟨todo, hs⟩ := ha.1 h1
    obtain ⟨e', w2, fr, hR, hs2, hfn, hl⟩ := leaves_stepsInM a'.defers .returning w' { b.atR a' todo with mode := .returning } cs rfl (by simp [Frame.atR]) (by simp [Frame.atR]) (by simp [Frame.atR, h3, hf]) (by simp [Frame.atR, eb]) trivial hr hL
    exact ⟨e', w2, fr, hR, ComesIn.of_steps hs hs2, by rw [hfn]; simp [Frame.atR, h3], hl⟩
  · obtain ⟨todo, hs⟩ := ha
    obtain ⟨e', w2, fr, hR, hs2, hfn, hl⟩ := leaves_stepsInM a'.defers (.panicking ch) w' { b.atR a' todo with mode := .panicking ch } cs rfl (by simp [Frame.atR]) (by simp [Frame.atR]) (by simp [Frame.atR, h3, hf]) (by simp [Frame.atR, eb]) trivial hr hL
    exact ⟨e', w2, fr, hR, ComesIn.of_steps hs hs2, by rw [hfn]; simp [Frame.atR, h3], hl⟩
end
end Go.Proofs.YtffdgkofolomlaaDoor
