/- Layer heap: the reader's parts. -/
import Derived.Test.YtofobjhlpgcdaaaDoorHeapText
namespace Go.Proofs.YtofobjhlpgcdaaaDoor
open Go.RowKit Go.Shelf Go.Proofs

/-- how a part is told, or that there is none -/
def Told (p : Option Prt) (e : Ending) : Prop :=
  match p with
  | some (.num n) => e = .returned (.iface 74 (.int .i64 n))
  | some (.mrk m) => e = .returned (.iface 76 (.string ⟨m.toArray⟩))
  | none => ∃ u v, e = .panicked [{ v := .iface u v, recovered := false }]
theorem ext_take (l : B8) (k : Nat) : (⟨l.toArray⟩ : ByteArray).extract 0 k = ⟨(l.take k).toArray⟩ := by
  apply ByteArray.ext
  apply Array.ext'
  rw [ByteArray.data_extract, Array.toList_extract]
  simp [List.extract]
theorem drop_noD : ∀ l : B8, noD (l.dropWhile isD)
  | [] => by intro b r h; cases h
  | x :: l => by
    rw [List.dropWhile_cons]
    split
    · exact drop_noD l
    · rename_i h; intro b r e; cases e; simpa using h
theorem ret_iface_str {t : TypeId} {a b : B8} (h : a = b) : Ending.returned (.iface t (.string ⟨a.toArray⟩)) = .returned (.iface t (.string ⟨b.toArray⟩)) := by rw [h]

theorem ret_iface_ba {t : TypeId} {a b : ByteArray} (h : a = b) : Ending.returned (.iface t (.string a)) = .returned (.iface t (.string b)) := by rw [h]
theorem first_mark (R : B8) (w : World) (hl : R.length ≤ 140737488351232) (hR : noD R) :
    Calls Tryd.prog 49 #[.string ⟨R.toArray⟩] w fun e w' => e = .returned (.iface 76 (.string ⟨(R.take 1).toArray⟩)) ∧ Below w.heap.size w w' := by
  have hd : R.dropWhile isD = R := by
    cases R with
    | nil => rfl
    | cons b r => rw [List.dropWhile_cons, hR b r rfl]; rfl
  have hT := hide (show Calls Tryd.prog 51 #[.string ⟨R.toArray⟩, .string ⟨#[48, 49, 50, 51, 52, 53, 54, 55, 56, 57]⟩] w fun e w' => e = .returned (.string ⟨R.toArray⟩) ∧ Below w.heap.size w w' from
    (TrimLeft_any ⟨R.toArray⟩ w).mono fun e w' ⟨h1, h2⟩ => ⟨by rw [h1]; exact ret_str hd, h2⟩)
  have HX0 := hide (ext_take R 0)
  cases R with
  | nil =>
    clear hd hR
    go_enter Tryd.func49, Tryd.ntmps49
    go_wp2_with fail
    refine hT.out.mono ?_
    rintro e w1 ⟨rfl, hb⟩
    go_wp2
    go_ret
    exact ⟨rfl, hb⟩
  | cons b r =>
    have HX1 := hide (ext_take (b :: r) 1)
    have hx : (⟨(b :: r).toArray⟩ : ByteArray).extract 0 0 = ⟨#[]⟩ := by rw [HX0.out]; rfl
    clear hd hR
    go_enter Tryd.func49, Tryd.ntmps49
    go_wp2_with fail
    refine hT.out.mono ?_
    rintro e w1 ⟨rfl, hb⟩
    go_wp2
    go_ret
    exact ⟨ret_iface_ba (by rw [show (min 1 ((r.length : Int) + 1)).toNat = 1 by omega]; exact HX1.out), hb⟩
theorem atoi_pos {ds : B8} {n : Int} (hd : ds.all isD = true) (h : Go.Lib.atoiAll ds = .ok n) : 0 ≤ n := by
  cases ds with
  | nil => cases h
  | cons c r =>
    rw [List.all_cons, Bool.and_eq_true] at hd
    have h45 : ∀ c : UInt8, isD c = true → c.toNat ≠ 45 := fun c h e => by
      have : c = 45 := UInt8.toNat_inj.1 (by simpa using e)
      subst this; revert h; decide
    unfold Go.Lib.atoiAll at h
    simp only [h45 c hd.1, if_false, not_false_eq_true, true_and, false_and] at h
    split at h
    · cases h
    · cases h
    · split at h
      · cases h
      · injection h with h; omega
theorem take_digits (l : B8) : (l.takeWhile isD).all isD = true := by
  rw [List.all_eq_true]; exact fun x hx => by
    induction l with
    | nil => cases hx
    | cons b l ih =>
      rw [List.takeWhile_cons] at hx
      split at hx
      · rcases List.mem_cons.1 hx with rfl | h
        · assumption
        · exact ih h
      · cases hx

def numP (ds : B8) : Option Prt := match Go.Lib.atoiAll ds with | .ok n => if dec n = ds then some (.num n) else none | _ => none
theorem numP_ok {ds : B8} {n : Int} (h : Go.Lib.atoiAll ds = .ok n) : numP ds = if dec n = ds then some (.num n) else none := by unfold numP; rw [h]

set_option maxRecDepth 100000 in
set_option maxHeartbeats 2000000 in
theorem first_num (ds R : B8) (w : World) (hl : (ds ++ R).length ≤ 140737488351232) (hne : ds ≠ []) (hds : ds.all isD = true) (hR : noD R) (hE : EnvH w) :
    Calls Tryd.prog 49 #[.string ⟨(ds ++ R).toArray⟩] w fun e w' => Told (numP ds) e ∧ Below w.heap.size w w' := by
  have hd : (ds ++ R).dropWhile isD = R := by
    have h1 := take_all ds R hds hR
    have h2 := drop_take (ds ++ R)
    rw [h1, List.drop_left] at h2
    exact h2.symm
  have hT := hide (show Calls Tryd.prog 51 #[.string ⟨(ds ++ R).toArray⟩, .string ⟨#[48, 49, 50, 51, 52, 53, 54, 55, 56, 57]⟩] w fun e w' => e = .returned (.string ⟨R.toArray⟩) ∧ Below w.heap.size w w' from
    (TrimLeft_any ⟨(ds ++ R).toArray⟩ w).mono fun e w' ⟨h1, h2⟩ => ⟨by rw [h1]; exact ret_str hd, h2⟩)
  rw [List.length_append] at hl
  obtain ⟨s, hs⟩ : ∃ s : ByteArray, (⟨(ds ++ R).toArray⟩ : ByteArray) = s := ⟨_, rfl⟩
  obtain ⟨d, hdd⟩ : ∃ d : ByteArray, (⟨ds.toArray⟩ : ByteArray) = d := ⟨_, rfl⟩
  have hssz : s.size = ds.length + R.length := by rw [← hs, ba_size, List.length_append]
  have hx : s.extract 0 ds.length = d := by rw [← hs, ext_take, List.take_left, hdd]
  have hRsz : (⟨R.toArray⟩ : ByteArray).size = R.length := ba_size R
  have hdl : d.data.toList = ds := by rw [← hdd]
  have hdsz : d.size = ds.length := by rw [← hdd, ba_size]
  have hem : (d.toList == []) = false := by
    rw [ByteArray.toList_eq, hdl]
    cases ds with
    | nil => exact absurd rfl hne
    | cons b r => rfl
  rw [hs] at hT ⊢
  obtain ⟨q, hq⟩ : ∃ q : ByteArray, (⟨R.toArray⟩ : ByteArray) = q := ⟨_, rfl⟩
  rw [hq] at hT hRsz
  obtain ⟨M, hM⟩ : ∃ M, ds.length = M := ⟨_, rfl⟩
  obtain ⟨M2, hM2⟩ : ∃ M2, R.length = M2 := ⟨_, rfl⟩
  rw [hM] at hl hssz hx hdsz
  rw [hM2] at hl hssz hRsz
  obtain ⟨P, hP⟩ : ∃ P, numP ds = P := ⟨_, rfl⟩
  rw [hP]
  have HDD := hide hdd
  have HE := hide hE
  by_cases hok : ∃ n, Go.Lib.atoiAll ds = .ok n
  · obtain ⟨n, hn⟩ := hok
    have hn0 := atoi_pos hds hn
    have hn1 := Go.Lib.atoiAll_bounds hn
    have hA := hide (fun w => Atoi_ok d (by omega) n (by rw [hdl]; exact hn) w)
    obtain ⟨D, hD⟩ : ∃ D, dec n = D := ⟨_, rfl⟩
    have HD := hide hD
    have hN := hide (fun w => number_text n hn0 hn1.2 w)
    rw [hD] at hN
    have hF := hide (numP_ok hn)
    rw [hP, hD] at hF
    obtain ⟨f, hf⟩ : ∃ f : ByteArray, (⟨D.toArray⟩ : ByteArray) = f := ⟨_, rfl⟩
    have hfl : f.toList = D := by rw [← hf, ba_toList]
    have hdl2 : d.toList = ds := by rw [ByteArray.toList_eq, hdl]
    rw [hf] at hN
    have hq0 : (f.toList == d.toList) = decide (D = ds) := by
      rw [hfl, hdl2]
      by_cases h : D = ds
      · subst h; simp
      · simp [h]
    by_cases he : D = ds
    · rw [decide_eq_true he] at hq0
      rw [if_pos he] at hF
      clear hn hn1 hD he hf hfl hdl2 hs hdd hne hds hR hd hE hdl hdsz hq hM hM2 hP
      go_enter Tryd.func49, Tryd.ntmps49
      go_wp2_with fail
      (with_reducible refine hT.out.mono ?_)
      rintro e w1 ⟨rfl, hb⟩
      go_wp2_with fail
      (with_reducible refine (hA.out _).mono ?_)
      rintro e w2 ⟨rfl, hb2⟩
      go_wp2_with fail
      (with_reducible refine (hN.out _ ((HE.out.below hb).below hb2)).mono ?_)
      rintro e w3 ⟨rfl, hb3⟩
      go_wp2
      go_ret
      exact ⟨by rw [hF.out]; rfl, bcall (bcall hb hb2) hb3⟩
    · rw [decide_eq_false he] at hq0
      rw [if_neg he] at hF
      clear hn hn1 hD he hf hfl hdl2 hs hdd hne hds hR hd hE hdl hdsz hq hM hM2 hP
      go_enter Tryd.func49, Tryd.ntmps49
      go_wp2_with fail
      (with_reducible refine hT.out.mono ?_)
      rintro e w1 ⟨rfl, hb⟩
      go_wp2_with fail
      (with_reducible refine (hA.out _).mono ?_)
      rintro e w2 ⟨rfl, hb2⟩
      go_wp2_with fail
      (with_reducible refine (hN.out _ ((HE.out.below hb).below hb2)).mono ?_)
      rintro e w3 ⟨rfl, hb3⟩
      go_wp2
      exact ⟨rfl, by rw [hF.out]; exact ⟨_, _, rfl⟩, bcall (bcall hb hb2) hb3⟩
  · have hA := hide (fun w => Atoi_bad d (by omega) (fun v h => hok ⟨v, by rw [← hdl]; exact h⟩) w)
    have hF := hide (show numP ds = none by
      unfold numP
      split
      · rename_i n h; exact absurd ⟨n, h⟩ hok
      · rfl)
    rw [hP] at hF
    clear hP hok hs hdd hne hds hR hd hE hdl hdsz hq hM hM2
    go_enter Tryd.func49, Tryd.ntmps49
    go_wp2_with fail
    (with_reducible refine hT.out.mono ?_)
    rintro e w1 ⟨rfl, hb⟩
    go_wp2_with fail
    (with_reducible refine (hA.out _ (HE.out.below hb)).mono ?_)
    rintro e w2 ⟨n, N, rfl, hb2⟩
    go_wp2
    exact ⟨rfl, by rw [hF.out]; exact ⟨_, _, rfl⟩, bcall hb hb2⟩
theorem first_any (l : B8) (w : World) (hl : l.length ≤ 140737488351232) (hE : EnvH w) :
    Calls Tryd.prog 49 #[.string ⟨l.toArray⟩] w fun e w' => Told (firstF l) e ∧ Below w.heap.size w w' := by
  by_cases h0 : l.takeWhile isD = []
  · have hR : noD l := by
      intro b r e
      subst e
      rw [List.takeWhile_cons] at h0
      split at h0
      · cases h0
      · rename_i h; simpa using h
    refine (first_mark l w hl hR).mono ?_
    rintro e w' ⟨rfl, hb⟩
    refine ⟨?_, hb⟩
    unfold firstF
    rw [if_pos h0]
    rfl
  · have e := take_drop_while l
    have := first_num (l.takeWhile isD) (l.dropWhile isD) w (by rw [← e]; exact hl) h0 (take_digits l) (drop_noD l) hE
    rw [← e] at this
    unfold firstF
    rw [if_neg h0]
    exact this
end Go.Proofs.YtofobjhlpgcdaaaDoor
