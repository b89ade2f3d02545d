/- Layer code: two ops compared. -/
import Derived.Test.YtffdgkofolomlaaDoorCodeUse
namespace Go.Proofs.YtffdgkofolomlaaDoor
open Go.RowKit Go.Shelf Go.Proofs

theorem fieldsCop : Tryd.prog.underlying 24 = some (.struct (Tryd.prog.fieldsOf 24)) := by kernel_rfl
theorem eqIn_cop (a b c d a' b' c' d' : Int) (w : World) : (Op.equalIn 10000 24 (qv a b c d) (qv a' b' c' d')).run Tryd.prog w = .ok (decide ((⟨a, b, c, d⟩ : Oq) = ⟨a', b', c', d'⟩)) w := by
  rw [run_equalIn_agg w 9999 _ _ _ fieldsCop Tryd.stoodInHeld24]
  have hf : (Tryd.prog.fieldsOf 24).toList = [⟨ "Kind", 3, 0, false, "", "", 0⟩, ⟨ "R", 3, 1, false, "", "", 8⟩, ⟨ "A", 3, 2, false, "", "", 16⟩, ⟨ "S", 3, 3, false, "", "", 24⟩] := by kernel_rfl
  rw [hf]
  by_cases h : a = a' <;> by_cases h1 : b = b' <;> by_cases h2 : c = c' <;> by_cases h3 : d = d' <;> simp [Op.eqFields, go_sem, h, h1, h2, h3]
theorem neq_cop (a b c d a' b' c' d' : Int) (w : World) : (binOp .neq 24 (qv a b c d) (qv a' b' c' d')).run Tryd.prog w = .ok (.bool (!decide ((⟨a, b, c, d⟩ : Oq) = ⟨a', b', c', d'⟩))) w := by
  rw [run_neq_struct, eqIn_cop]; rfl
theorem eql_cop (a b c d a' b' c' d' : Int) (w : World) : (binOp .eql 24 (qv a b c d) (qv a' b' c' d')).run Tryd.prog w = .ok (.bool (decide ((⟨a, b, c, d⟩ : Oq) = ⟨a', b', c', d'⟩))) w := by
  rw [run_eql_struct, eqIn_cop]; rfl
theorem fieldsRop : Tryd.prog.underlying 33 = some (.struct (Tryd.prog.fieldsOf 33)) := by kernel_rfl
theorem eqIn_rop (a b c d a' b' c' d' : Int) (w : World) : (Op.equalIn 10000 33 (qv a b c d) (qv a' b' c' d')).run Tryd.prog w = .ok (decide ((⟨a, b, c, d⟩ : Oq) = ⟨a', b', c', d'⟩)) w := by
  rw [run_equalIn_agg w 9999 _ _ _ fieldsRop Tryd.stoodInHeld33]
  have hf : (Tryd.prog.fieldsOf 33).toList = [⟨ "Kind", 3, 0, false, "", "", 0⟩, ⟨ "R", 3, 1, false, "", "", 8⟩, ⟨ "A", 3, 2, false, "", "", 16⟩, ⟨ "S", 3, 3, false, "", "", 24⟩] := by kernel_rfl
  rw [hf]
  by_cases h : a = a' <;> by_cases h1 : b = b' <;> by_cases h2 : c = c' <;> by_cases h3 : d = d' <;> simp [Op.eqFields, go_sem, h, h1, h2, h3]
theorem neq_rop (a b c d a' b' c' d' : Int) (w : World) : (binOp .neq 33 (qv a b c d) (qv a' b' c' d')).run Tryd.prog w = .ok (.bool (!decide ((⟨a, b, c, d⟩ : Oq) = ⟨a', b', c', d'⟩))) w := by
  rw [run_neq_struct, eqIn_rop]; rfl
theorem print_len (p : List Oq) : (cPrint p).length ≤ 6 * p.length + 1 := by
  unfold cPrint
  split
  · simp
  · have := join_len p p.length (Nat.le_refl _)
    rw [List.take_length] at this
    omega
theorem oqs_drew {w : World} {v : Value} {l : List Oq} (h : Oqs w v l) : Oqs w.drew v l := h
theorem Text_s (k r a z : Int) (T : ByteArray) (hT : (⟨(cText ⟨k, r, a, z⟩).toArray⟩ : ByteArray) = T) (w : World) : Calls Tryd.prog 20 #[qv k r a z] w fun e w' => e = .returned (.string T) ∧ Below w.heap.size w w' := by
  subst hT
  exact Text_any k r a z w
theorem oq_two {w : World} {g off c : Nat} {k r a z k' r' a' z' : Int} (h : Oqs w (.slice (some ⟨g, off, none⟩) 2 c) [⟨k, r, a, z⟩, ⟨k', r', a', z'⟩]) :
    w.cell? ⟨g, off, none⟩ = some (.int .i64 k) ∧ w.cell? ⟨g, off + 1, none⟩ = some (.int .i64 r) ∧ w.cell? ⟨g, off + 2, none⟩ = some (.int .i64 a) ∧ w.cell? ⟨g, off + 3, none⟩ = some (.int .i64 z) ∧
    w.cell? ⟨g, off + 4, none⟩ = some (.int .i64 k') ∧ w.cell? ⟨g, off + 5, none⟩ = some (.int .i64 r') ∧ w.cell? ⟨g, off + 6, none⟩ = some (.int .i64 a') ∧ w.cell? ⟨g, off + 7, none⟩ = some (.int .i64 z') := by
  have h0 := oq_cells h rfl (i := 0) rfl rfl
  have h1 := oq_cells h rfl (i := 1) rfl rfl
  simp only [Nat.zero_mul, Nat.one_mul, Nat.add_zero, Nat.add_assoc, Nat.reduceAdd] at h0 h1
  exact ⟨h0.1, h0.2.1, h0.2.2.1, h0.2.2.2, h1.1, h1.2.1, h1.2.2.1, h1.2.2.2⟩
theorem b4_all_drew {t : TypeId} {w : World} {B : Nat} {x y z u : Value} (h : B4 t w B x y z u) : B4 t w.drew B x y z u := ⟨h.blk⟩
end Go.Proofs.YtffdgkofolomlaaDoor
