import Derived.Test.YtiggcpfmmgmncaaVp20
set_option maxHeartbeats 16000000
set_option maxRecDepth 100000
set_option linter.unusedVariables false
set_option linter.unusedSimpArgs false
namespace Go.Proofs.Ytiggcpfmmgmncaa
open Go.ChangeShapes Go.WideShapes Go.ChangeAt Go.RowKit
section
theorem sstands_none {B b g kc : Nat} {K : Option Addr} {d : Dv} (p each odd : Nat) (w : World) (h : DrA B w b g K kc d) (hp : p + 2 * each ≤ d.S.length) (ho : odd ≤ 1) (hx : readF d.S ((p + odd * each : Nat) : Int) ((p + odd * each + each : Nat) : Int) = none) :
    Calls Try.prog 68 #[.pointer (some ⟨b, 0, none⟩), .int .i64 p, .int .i64 each, .int .i64 odd] w fun e w' => TRes w.heap.size w' e none ∧ Below w.heap.size w w' := by
  have hl := h.len.2
  have HP := Lib.hid (splace_any p each odd w (by omega) (by omega))
  have hom : odd % 2 = odd := by omega
  rw [hom] at HP
  have hoe : p + odd * each + each ≤ d.S.length := by
    rcases (by omega : odd = 0 ∨ odd = 1) with rfl | rfl <;> omega
  have HR := Lib.hid (fun V (hV : Below w.heap.size w V) => rread_any (p + odd * each) (p + odd * each + each) V (h.below hV) hoe)
  obtain ⟨q, hq⟩ : ∃ q, p + odd * each = q := ⟨_, rfl⟩
  rw [hq] at HP HR hx
  rw [hx] at HR
  have hwq : IntKind.i64.wrap ((q : Int) + (each : Int)) = ((q + each : Nat) : Int) := by rw [IntKind.wrap_i64]; omega
  clear h hx hom hq
  go_enter Try.func68, Try.ntmps68
  go_wp2_with fail
  refine HP.out.mono ?_
  rintro e w1 ⟨rfl, hb⟩
  go_wp2_with fail
  refine (HR.out _ hb).mono ?_
  rintro e w2 ⟨rfl, hb2⟩
  have hB := since_step hb hb2
  go_wp2_with fail
  go_ret3
  exact ⟨TRes.no _ _ rfl, since_alloc hB _⟩
theorem sstands_no {B b g kc : Nat} {K : Option Addr} {d : Dv} (p each odd : Nat) (w : World) (h : DrA B w b g K kc d) (hp : p + 2 * each ≤ d.S.length) (ho : odd ≤ 1) (f : Fr) (l : List Nat) (hx : readF d.S ((p + odd * each : Nat) : Int) ((p + odd * each + each : Nat) : Int) = some (l, f)) (hf : ¬ (f.seq = 1 ∧ f.era ≠ 0 ∧ f.era % 2 = (odd : Int))) (he : 0 ≤ f.era ∧ f.era ≤ 16777215) :
    Calls Try.prog 68 #[.pointer (some ⟨b, 0, none⟩), .int .i64 p, .int .i64 each, .int .i64 odd] w fun e w' => TRes w.heap.size w' e none ∧ Below w.heap.size w w' := by
  have hl := h.len.2
  have HP := Lib.hid (splace_any p each odd w (by omega) (by omega))
  have hom : odd % 2 = odd := by omega
  rw [hom] at HP
  have hoe : p + odd * each + each ≤ d.S.length := by
    rcases (by omega : odd = 0 ∨ odd = 1) with rfl | rfl <;> omega
  have HR := Lib.hid (fun V (hV : Below w.heap.size w V) => rread_any (p + odd * each) (p + odd * each + each) V (h.below hV) hoe)
  obtain ⟨q, hq⟩ : ∃ q, p + odd * each = q := ⟨_, rfl⟩
  rw [hq] at HP HR hx
  rw [hx] at HR
  have hwq : IntKind.i64.wrap ((q : Int) + (each : Int)) = ((q + each : Nat) : Int) := by rw [IntKind.wrap_i64]; omega
  clear h hx hom hq
  obtain ⟨f0, f1, f2, f3, f4, fd⟩ := f
  simp only at hf he
  obtain ⟨er, rfl⟩ : ∃ er : Nat, f1 = (er : Int) := ⟨f1.toNat, by omega⟩
  have hmod := tmod2 er
  have hwm : IntKind.i64.wrap ((er % 2 : Nat) : Int) = ((er % 2 : Nat) : Int) := by rw [IntKind.wrap_i64]; omega
  have hmo : (er : Int) % 2 = ((er % 2 : Nat) : Int) := by omega
  rw [hmo] at hf
  clear hmo
  obtain ⟨z, hz⟩ : ∃ z, fd.length = z := ⟨_, rfl⟩
  have HZ := Lib.hid hz
  clear hz
  go_enter Try.func68, Try.ntmps68
  go_wp2_with fail
  refine HP.out.mono ?_
  rintro e w1 ⟨rfl, hb⟩
  go_wp2_with fail
  refine (HR.out _ hb).mono ?_
  rintro e w2 ⟨⟨A1, c1, A2, c2, rfl, own2⟩, hb2⟩
  have hB := since_step hb hb2
  unfold Fr.val
  simp only [HZ.out]
  by_cases h1 : f2 = 1
  · by_cases h2 : er = 0
    · have h1b : (f2 != 1) = false := by simpa using h1
      have h2b : ((er : Int) == 0) = true := by simpa using h2
      subst h2
      subst h1
      clear hf
      go_wp2_with fail
      go_ret3
      exact ⟨TRes.no _ _ rfl, since_alloc hB _⟩
    · have h2b : ((er : Int) == 0) = false := by simpa using h2
      have h3b : (((er % 2 : Nat) : Int) != (odd : Int)) = true := by
        simp only [bne_iff_ne, ne_eq]
        intro e
        exact hf ⟨h1, by omega, e⟩
      subst h1
      clear hf
      generalize er % 2 = r2 at *
      go_wp2_with fail
      go_ret3
      exact ⟨TRes.no _ _ rfl, since_alloc hB _⟩
  · have h1b : (f2 != 1) = true := by simpa using h1
    clear hf h1
    go_wp2_with fail
    go_ret3
    exact ⟨TRes.no _ _ rfl, since_alloc hB _⟩
theorem sstands_yes {B b g kc : Nat} {K : Option Addr} {d : Dv} (p each odd : Nat) (w : World) (h : DrA B w b g K kc d) (hp : p + 2 * each ≤ d.S.length) (ho : odd ≤ 1) (f : Fr) (l : List Nat) (hx : readF d.S ((p + odd * each : Nat) : Int) ((p + odd * each + each : Nat) : Int) = some (l, f)) (hf : f.seq = 1 ∧ f.era ≠ 0 ∧ f.era % 2 = (odd : Int)) (he : 0 ≤ f.era ∧ f.era ≤ 16777215) :
    Calls Try.prog 68 #[.pointer (some ⟨b, 0, none⟩), .int .i64 p, .int .i64 each, .int .i64 odd] w fun e w' => TRes w.heap.size w' e (some (f.era, l)) ∧ Below w.heap.size w w' := by
  have hl := h.len.2
  have HP := Lib.hid (splace_any p each odd w (by omega) (by omega))
  have hom : odd % 2 = odd := by omega
  rw [hom] at HP
  have hoe : p + odd * each + each ≤ d.S.length := by
    rcases (by omega : odd = 0 ∨ odd = 1) with rfl | rfl <;> omega
  have HR := Lib.hid (fun V (hV : Below w.heap.size w V) => rread_any (p + odd * each) (p + odd * each + each) V (h.below hV) hoe)
  obtain ⟨q, hq⟩ : ∃ q, p + odd * each = q := ⟨_, rfl⟩
  rw [hq] at HP HR hx
  rw [hx] at HR
  have hwq : IntKind.i64.wrap ((q : Int) + (each : Int)) = ((q + each : Nat) : Int) := by rw [IntKind.wrap_i64]; omega
  clear h hx hom hq
  obtain ⟨f0, f1, f2, f3, f4, fd⟩ := f
  simp only at hf he
  obtain ⟨er, rfl⟩ : ∃ er : Nat, f1 = (er : Int) := ⟨f1.toNat, by omega⟩
  have hmod := tmod2 er
  have hwm : IntKind.i64.wrap ((er % 2 : Nat) : Int) = ((er % 2 : Nat) : Int) := by rw [IntKind.wrap_i64]; omega
  have hmo : (er : Int) % 2 = ((er % 2 : Nat) : Int) := by omega
  rw [hmo] at hf
  clear hmo
  obtain ⟨rfl, h2, h3⟩ := hf
  have h2b : ((er : Int) == 0) = false := by simpa using (by omega : (er : Int) ≠ 0)
  have h3b : (((er % 2 : Nat) : Int) != (odd : Int)) = false := by simp [h3]
  generalize er % 2 = r2 at *
  obtain ⟨z, hz⟩ : ∃ z, fd.length = z := ⟨_, rfl⟩
  have HZ := Lib.hid hz
  clear hz h2 h3
  go_enter Try.func68, Try.ntmps68
  go_wp2_with fail
  refine HP.out.mono ?_
  rintro e w1 ⟨rfl, hb⟩
  go_wp2_with fail
  refine (HR.out _ hb).mono ?_
  rintro e w2 ⟨⟨A1, c1, A2, c2, rfl, own2⟩, hb2⟩
  have hB := since_step hb hb2
  have HOW := Lib.hid (own_base own2 hb.size)
  clear own2
  unfold Fr.val
  simp only [HZ.out]
  go_wp2_with fail
  go_ret3
  exact ⟨TRes.yes rfl (HOW.out.alloc _), since_alloc hB _⟩
theorem sstands_any {B b g kc : Nat} {K : Option Addr} {d : Dv} (p each odd : Nat) (w : World) (h : DrA B w b g K kc d) (hp : p + 2 * each ≤ d.S.length) (ho : odd ≤ 1) :
    Calls Try.prog 68 #[.pointer (some ⟨b, 0, none⟩), .int .i64 p, .int .i64 each, .int .i64 odd] w fun e w' => TRes w.heap.size w' e (standF d.S p each odd) ∧ Below w.heap.size w w' := by
  unfold standF
  cases hx : readF d.S ((p + odd * each : Nat) : Int) ((p + odd * each + each : Nat) : Int) with
  | none => exact sstands_none p each odd w h hp ho hx
  | some bf =>
    obtain ⟨l, f⟩ := bf
    have hok := (Fr.ok_iff f).1 (frD_some (readF_iff.1 hx).2.1).2.2.2
    simp only
    by_cases hf : f.seq = 1 ∧ f.era ≠ 0 ∧ f.era % 2 = (odd : Int)
    · rw [if_pos hf]
      exact sstands_yes p each odd w h hp ho f l hx hf ⟨hok.2.2.1, hok.2.2.2.1⟩
    · rw [if_neg hf]
      exact sstands_no p each odd w h hp ho f l hx hf ⟨hok.2.2.1, hok.2.2.2.1⟩
def loadS (S : List (List Nat)) (p each : Nat) : Int × List Nat × Int :=
  match standF S p each 0, standF S p each 1 with
  | none, none => (0, [], 11)
  | some (m, l), none => (m, l, 0)
  | none, some (n, l) => (n, l, 0)
  | some (m, l), some (n, k) => if m < n then (n, k, 0) else (m, l, 0)
def LRes9 (B : Nat) (w' : World) (e : Ending) (R : Int × List Nat × Int) : Prop := ∃ A' c', e = .returned (.tuple #[.int .i64 R.1, .slice A' R.2.1.length c', .int .i64 R.2.2]) ∧ w'.ownsRow B 5 1 (.slice A' R.2.1.length c') R.2.1.length (by8 R.2.1)
theorem standF_pos {S : List (List Nat)} {p each odd : Nat} {m : Int} {l : List Nat} (h : standF S p each odd = some (m, l)) : 0 < m ∧ m ≤ 16777215 := by
  unfold standF at h
  split at h
  · cases h
  · rename_i b f hr
    split at h
    · rename_i hf
      have hok := (Fr.ok_iff f).1 (frD_some (readF_iff.1 hr).2.1).2.2.2
      injection h with h
      injection h with h1 h2
      subst h1
      omega
    · cases h
theorem sload_nn {B b g kc : Nat} {K : Option Addr} {d : Dv} (p each : Nat) (w : World) (h : DrA B w b g K kc d) (hp : p + 2 * each ≤ d.S.length) (he : 1 ≤ each) (h0 : standF d.S p each 0 = none) (h1 : standF d.S p each 1 = none) :
    Calls Try.prog 33 #[.pointer (some ⟨b, 0, none⟩), .int .i64 p, .int .i64 each] w fun e w' => LRes9 w.heap.size w' e (0, [], 11) ∧ Below w.heap.size w w' := by
  have HF := Lib.hid (sfit_any (p : Int) (each : Int) w h)
  rw [show fitF d.S.length (p : Int) (each : Int) = 0 from if_pos (by omega)] at HF
  have H0 := Lib.hid (fun V (hV : Below w.heap.size w V) => sstands_any p each 0 V (h.below hV) hp (by omega))
  have H1 := Lib.hid (fun V (hV : Below w.heap.size w V) => sstands_any p each 1 V (h.below hV) hp (by omega))
  rw [h0] at H0
  rw [h1] at H1
  clear h h0 h1
  go_enter Try.func33, Try.ntmps33
  go_wp2_with fail
  refine HF.out.mono ?_
  rintro e w1 ⟨rfl, hb1⟩
  go_wp2_with fail
  refine (H0.out _ hb1).mono ?_
  rintro e w2 ⟨⟨A0, c0, rfl, own0⟩, hb⟩
  have hb2 := since_step hb1 hb
  have HO0 := Lib.hid (own_base own0 hb1.size)
  simp only [Option.getD_none, Option.getD_some, Option.isSome_none, Option.isSome_some, List.length_nil] at HO0 ⊢
  clear hb own0
  go_wp2_with fail
  refine (H1.out _ hb2).mono ?_
  rintro e w3 ⟨⟨A1, c1, rfl, own1⟩, hb⟩
  have hb3 := since_step hb2 hb
  have HO0' := Lib.hid (own_below HO0.out hb)
  have HO1 := Lib.hid (own_base own1 hb2.size)
  simp only [Option.getD_none, Option.getD_some, Option.isSome_none, Option.isSome_some, List.length_nil] at HO1 ⊢
  clear hb own1
  go_wp2_with fail
  go_ret3
  exact ⟨⟨none, 0, rfl, own_nil _ _ _⟩, hb3⟩
theorem sload_yn {B b g kc : Nat} {K : Option Addr} {d : Dv} (p each : Nat) (m : Int) (l : List Nat) (w : World) (h : DrA B w b g K kc d) (hp : p + 2 * each ≤ d.S.length) (he : 1 ≤ each) (h0 : standF d.S p each 0 = some (m, l)) (h1 : standF d.S p each 1 = none) :
    Calls Try.prog 33 #[.pointer (some ⟨b, 0, none⟩), .int .i64 p, .int .i64 each] w fun e w' => LRes9 w.heap.size w' e (m, l, 0) ∧ Below w.heap.size w w' := by
  have HF := Lib.hid (sfit_any (p : Int) (each : Int) w h)
  rw [show fitF d.S.length (p : Int) (each : Int) = 0 from if_pos (by omega)] at HF
  have H0 := Lib.hid (fun V (hV : Below w.heap.size w V) => sstands_any p each 0 V (h.below hV) hp (by omega))
  have H1 := Lib.hid (fun V (hV : Below w.heap.size w V) => sstands_any p each 1 V (h.below hV) hp (by omega))
  rw [h0] at H0
  rw [h1] at H1
  have hm := (standF_pos h0).1
  clear h h0 h1
  go_enter Try.func33, Try.ntmps33
  go_wp2_with fail
  refine HF.out.mono ?_
  rintro e w1 ⟨rfl, hb1⟩
  go_wp2_with fail
  refine (H0.out _ hb1).mono ?_
  rintro e w2 ⟨⟨A0, c0, rfl, own0⟩, hb⟩
  have hb2 := since_step hb1 hb
  have HO0 := Lib.hid (own_base own0 hb1.size)
  simp only [Option.getD_none, Option.getD_some, Option.isSome_none, Option.isSome_some, List.length_nil] at HO0 ⊢
  clear hb own0
  go_wp2_with fail
  refine (H1.out _ hb2).mono ?_
  rintro e w3 ⟨⟨A1, c1, rfl, own1⟩, hb⟩
  have hb3 := since_step hb2 hb
  have HO0' := Lib.hid (own_below HO0.out hb)
  have HO1 := Lib.hid (own_base own1 hb2.size)
  simp only [Option.getD_none, Option.getD_some, Option.isSome_none, Option.isSome_some, List.length_nil] at HO1 ⊢
  clear hb own1
  go_wp2_with fail
  go_ret3
  exact ⟨⟨A0, c0, rfl, HO0'.out⟩, hb3⟩
theorem sload_ny {B b g kc : Nat} {K : Option Addr} {d : Dv} (p each : Nat) (n : Int) (k : List Nat) (w : World) (h : DrA B w b g K kc d) (hp : p + 2 * each ≤ d.S.length) (he : 1 ≤ each) (h0 : standF d.S p each 0 = none) (h1 : standF d.S p each 1 = some (n, k)) :
    Calls Try.prog 33 #[.pointer (some ⟨b, 0, none⟩), .int .i64 p, .int .i64 each] w fun e w' => LRes9 w.heap.size w' e (n, k, 0) ∧ Below w.heap.size w w' := by
  have HF := Lib.hid (sfit_any (p : Int) (each : Int) w h)
  rw [show fitF d.S.length (p : Int) (each : Int) = 0 from if_pos (by omega)] at HF
  have H0 := Lib.hid (fun V (hV : Below w.heap.size w V) => sstands_any p each 0 V (h.below hV) hp (by omega))
  have H1 := Lib.hid (fun V (hV : Below w.heap.size w V) => sstands_any p each 1 V (h.below hV) hp (by omega))
  rw [h0] at H0
  rw [h1] at H1
  have hn := (standF_pos h1).1
  clear h h0 h1
  go_enter Try.func33, Try.ntmps33
  go_wp2_with fail
  refine HF.out.mono ?_
  rintro e w1 ⟨rfl, hb1⟩
  go_wp2_with fail
  refine (H0.out _ hb1).mono ?_
  rintro e w2 ⟨⟨A0, c0, rfl, own0⟩, hb⟩
  have hb2 := since_step hb1 hb
  have HO0 := Lib.hid (own_base own0 hb1.size)
  simp only [Option.getD_none, Option.getD_some, Option.isSome_none, Option.isSome_some, List.length_nil] at HO0 ⊢
  clear hb own0
  go_wp2_with fail
  refine (H1.out _ hb2).mono ?_
  rintro e w3 ⟨⟨A1, c1, rfl, own1⟩, hb⟩
  have hb3 := since_step hb2 hb
  have HO0' := Lib.hid (own_below HO0.out hb)
  have HO1 := Lib.hid (own_base own1 hb2.size)
  simp only [Option.getD_none, Option.getD_some, Option.isSome_none, Option.isSome_some, List.length_nil] at HO1 ⊢
  clear hb own1
  go_wp2_with fail
  go_ret3
  exact ⟨⟨A1, c1, rfl, HO1.out⟩, hb3⟩
theorem sload_yl {B b g kc : Nat} {K : Option Addr} {d : Dv} (p each : Nat) (m : Int) (l : List Nat) (n : Int) (k : List Nat) (w : World) (h : DrA B w b g K kc d) (hp : p + 2 * each ≤ d.S.length) (he : 1 ≤ each) (h0 : standF d.S p each 0 = some (m, l)) (h1 : standF d.S p each 1 = some (n, k)) (hmn : m < n) :
    Calls Try.prog 33 #[.pointer (some ⟨b, 0, none⟩), .int .i64 p, .int .i64 each] w fun e w' => LRes9 w.heap.size w' e (n, k, 0) ∧ Below w.heap.size w w' := by
  have HF := Lib.hid (sfit_any (p : Int) (each : Int) w h)
  rw [show fitF d.S.length (p : Int) (each : Int) = 0 from if_pos (by omega)] at HF
  have H0 := Lib.hid (fun V (hV : Below w.heap.size w V) => sstands_any p each 0 V (h.below hV) hp (by omega))
  have H1 := Lib.hid (fun V (hV : Below w.heap.size w V) => sstands_any p each 1 V (h.below hV) hp (by omega))
  rw [h0] at H0
  rw [h1] at H1
  clear h h0 h1
  go_enter Try.func33, Try.ntmps33
  go_wp2_with fail
  refine HF.out.mono ?_
  rintro e w1 ⟨rfl, hb1⟩
  go_wp2_with fail
  refine (H0.out _ hb1).mono ?_
  rintro e w2 ⟨⟨A0, c0, rfl, own0⟩, hb⟩
  have hb2 := since_step hb1 hb
  have HO0 := Lib.hid (own_base own0 hb1.size)
  simp only [Option.getD_none, Option.getD_some, Option.isSome_none, Option.isSome_some, List.length_nil] at HO0 ⊢
  clear hb own0
  go_wp2_with fail
  refine (H1.out _ hb2).mono ?_
  rintro e w3 ⟨⟨A1, c1, rfl, own1⟩, hb⟩
  have hb3 := since_step hb2 hb
  have HO0' := Lib.hid (own_below HO0.out hb)
  have HO1 := Lib.hid (own_base own1 hb2.size)
  simp only [Option.getD_none, Option.getD_some, Option.isSome_none, Option.isSome_some, List.length_nil] at HO1 ⊢
  clear hb own1
  go_wp2_with fail
  go_ret3
  exact ⟨⟨A1, c1, rfl, HO1.out⟩, hb3⟩
theorem sload_yg {B b g kc : Nat} {K : Option Addr} {d : Dv} (p each : Nat) (m : Int) (l : List Nat) (n : Int) (k : List Nat) (w : World) (h : DrA B w b g K kc d) (hp : p + 2 * each ≤ d.S.length) (he : 1 ≤ each) (h0 : standF d.S p each 0 = some (m, l)) (h1 : standF d.S p each 1 = some (n, k)) (hmn : ¬ m < n) :
    Calls Try.prog 33 #[.pointer (some ⟨b, 0, none⟩), .int .i64 p, .int .i64 each] w fun e w' => LRes9 w.heap.size w' e (m, l, 0) ∧ Below w.heap.size w w' := by
  have HF := Lib.hid (sfit_any (p : Int) (each : Int) w h)
  rw [show fitF d.S.length (p : Int) (each : Int) = 0 from if_pos (by omega)] at HF
  have H0 := Lib.hid (fun V (hV : Below w.heap.size w V) => sstands_any p each 0 V (h.below hV) hp (by omega))
  have H1 := Lib.hid (fun V (hV : Below w.heap.size w V) => sstands_any p each 1 V (h.below hV) hp (by omega))
  rw [h0] at H0
  rw [h1] at H1
  clear h h0 h1
  go_enter Try.func33, Try.ntmps33
  go_wp2_with fail
  refine HF.out.mono ?_
  rintro e w1 ⟨rfl, hb1⟩
  go_wp2_with fail
  refine (H0.out _ hb1).mono ?_
  rintro e w2 ⟨⟨A0, c0, rfl, own0⟩, hb⟩
  have hb2 := since_step hb1 hb
  have HO0 := Lib.hid (own_base own0 hb1.size)
  simp only [Option.getD_none, Option.getD_some, Option.isSome_none, Option.isSome_some, List.length_nil] at HO0 ⊢
  clear hb own0
  go_wp2_with fail
  refine (H1.out _ hb2).mono ?_
  rintro e w3 ⟨⟨A1, c1, rfl, own1⟩, hb⟩
  have hb3 := since_step hb2 hb
  have HO0' := Lib.hid (own_below HO0.out hb)
  have HO1 := Lib.hid (own_base own1 hb2.size)
  simp only [Option.getD_none, Option.getD_some, Option.isSome_none, Option.isSome_some, List.length_nil] at HO1 ⊢
  clear hb own1
  go_wp2_with fail
  go_ret3
  exact ⟨⟨A0, c0, rfl, HO0'.out⟩, hb3⟩
theorem sload_any {B b g kc : Nat} {K : Option Addr} {d : Dv} (p each : Nat) (w : World) (h : DrA B w b g K kc d) (hp : p + 2 * each ≤ d.S.length) (he : 1 ≤ each) :
    Calls Try.prog 33 #[.pointer (some ⟨b, 0, none⟩), .int .i64 p, .int .i64 each] w fun e w' => LRes9 w.heap.size w' e (loadS d.S p each) ∧ Below w.heap.size w w' := by
  unfold loadS
  cases h0 : standF d.S p each 0 with
  | none =>
    cases h1 : standF d.S p each 1 with
    | none => exact sload_nn p each w h hp he h0 h1
    | some x => exact sload_ny p each x.1 x.2 w h hp he h0 h1
  | some y =>
    cases h1 : standF d.S p each 1 with
    | none => exact sload_yn p each y.1 y.2 w h hp he h0 h1
    | some x =>
      simp only
      by_cases hmn : y.1 < x.1
      · rw [if_pos hmn]; exact sload_yl p each y.1 y.2 x.1 x.2 w h hp he h0 h1 hmn
      · rw [if_neg hmn]; exact sload_yg p each y.1 y.2 x.1 x.2 w h hp he h0 h1 hmn
end
end Go.Proofs.Ytiggcpfmmgmncaa
