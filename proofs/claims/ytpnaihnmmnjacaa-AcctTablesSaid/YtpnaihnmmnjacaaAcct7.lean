/-
  Layer 15, seventh part: the document's Bind (laid by gen_acct7.py).
-/
import Derived.Test.YtpnaihnmmnjacaaAcct6
namespace Go.Proofs.Ytpnaihnmmnjacaa
open Go.ChangeShapes Go.WideShapes Go.ChangeAt Go.RowKit
set_option linter.unusedVariables false
set_option linter.unusedSimpArgs false

theorem ordN : Ord ahN where
  tr := fun a b c h1 h2 => by simp only [ahN, decide_eq_true_eq] at *; omega
  asy := fun a b h => by simp only [ahN, decide_eq_true_eq, decide_eq_false_iff_not] at *; omega
  cong := fun a x b h1 h2 => by simp only [ahN, decide_eq_false_iff_not] at *; congr 1; apply propext; omega
  cong2 := fun a x b h1 h2 => by simp only [ahN, decide_eq_false_iff_not] at *; congr 1; apply propext; omega
theorem putR_in {α : Type} (ah : α → α → Bool) (c x : α) : ∀ l : List α, (∃ y ∈ l, ah y c = false) → putR ah (l ++ [x]) c = putR ah l c ++ [x]
  | [], h => by obtain ⟨y, hy, _⟩ := h; cases hy
  | a :: r, h => by
    simp only [List.cons_append, putR]
    by_cases h1 : ah a c = true
    · rw [if_pos h1, if_pos h1]
      obtain ⟨y, hy, hf⟩ := h
      rcases List.mem_cons.1 hy with rfl | hy
      · rw [h1] at hf; cases hf
      · rw [putR_in ah c x r ⟨y, hy, hf⟩]; rfl
    · rw [if_neg h1, if_neg h1]
      split <;> simp
theorem putR_out {α : Type} (ah : α → α → Bool) (c : α) (r : List α) : ∀ l : List α, (∀ y ∈ l, ah y c = true) → putR ah (l ++ r) c = l ++ putR ah r c
  | [], _ => rfl
  | a :: l, h => by
    simp only [List.cons_append, putR]
    rw [if_pos (h a (by simp)), putR_out ah c r l (fun y hy => h y (by simp [hy]))]
def dnK (L : List Nt) (c : Int) (k : Nat) : Bool := (L.take k).any fun x => decide (c < x.n)
def insK (L : List Nt) (c : Int) (k : Nat) : List Nt := if dnK L c k = true then inR (L.take k) c else L.take k
theorem dnK_snoc (L : List Nt) (c : Int) (k : Nat) (h : k < L.length) : dnK L c (k + 1) = (dnK L c k || decide (c < L[k].n)) := by
  unfold dnK; rw [take_snoc L k h, List.any_append]; simp
theorem insK_len (L : List Nt) (c : Int) (k : Nat) (h : k ≤ L.length) : (insK L c k).length ≤ k + 1 := by
  unfold insK
  split
  · exact Nat.le_trans (length_putR _ _) (by simp; omega)
  · simp; omega
theorem insK_in {L : List Nt} {c : Int} {k : Nat} (h : k < L.length) (hd : dnK L c k = true) : insK L c (k + 1) = insK L c k ++ [L[k]] := by
  have h2 : dnK L c (k + 1) = true := by rw [dnK_snoc L c k h, hd]; rfl
  unfold insK
  rw [if_pos h2, if_pos hd, take_snoc L k h]
  unfold dnK at hd
  rw [List.any_eq_true] at hd
  obtain ⟨y, hy, hc⟩ := hd
  exact putR_in _ _ _ _ ⟨y, hy, by simp only [ahN, decide_eq_false_iff_not, decide_eq_true_eq] at *; omega⟩
theorem out_all {L : List Nt} {c : Int} {k : Nat} (hk : k ≤ L.length) (hd : dnK L c k = false) (hno : ∀ j, (hj : j < L.length) → j < k → (L[j].n == c) = false) : ∀ y ∈ L.take k, ahN y ⟨c⟩ = true := fun y hy => by
  unfold dnK at hd
  rw [List.any_eq_false] at hd
  have h1 := hd y hy
  obtain ⟨j, hj, rfl⟩ := List.getElem_of_mem hy
  have hjk : j < k := by simp at hj; omega
  have h2 := hno j (by omega) hjk
  rw [List.getElem_take] at h1 ⊢
  simp only [ahN, decide_eq_true_eq, beq_eq_false_iff_ne] at *
  omega
theorem insK_new {L : List Nt} {c : Int} {k : Nat} (h : k < L.length) (hd : dnK L c k = false) (hno : ∀ j, (hj : j < L.length) → j < k → (L[j].n == c) = false) (hc : c < L[k].n) : insK L c (k + 1) = insK L c k ++ [⟨c⟩] ++ [L[k]] := by
  have h2 : dnK L c (k + 1) = true := by rw [dnK_snoc L c k h]; simp [hc]
  unfold insK
  rw [if_pos h2, if_neg (by rw [hd]; decide), take_snoc L k h]
  unfold inR
  rw [putR_out _ _ _ _ (out_all (Nat.le_of_lt h) hd hno)]
  have e1 : ahN L[k] ⟨c⟩ = false := by simp only [ahN, decide_eq_false_iff_not]; omega
  have e2 : ahN ⟨c⟩ L[k] = true := by simp only [ahN, decide_eq_true_eq]; exact hc
  simp [putR, e1, e2]
theorem insK_no {L : List Nt} {c : Int} {k : Nat} (h : k < L.length) (hd : dnK L c k = false) (hc : ¬ c < L[k].n) : insK L c (k + 1) = insK L c k ++ [L[k]] ∧ dnK L c (k + 1) = false := by
  have h2 : dnK L c (k + 1) = false := by rw [dnK_snoc L c k h, hd]; simp; omega
  refine ⟨?_, h2⟩
  unfold insK
  rw [if_neg (by rw [h2]; decide), if_neg (by rw [hd]; decide), take_snoc L k h]
theorem insK_end {L : List Nt} {c : Int} (hno : ∀ j, (hj : j < L.length) → j < L.length → (L[j].n == c) = false) : inR L c = if dnK L c L.length = true then insK L c L.length else insK L c L.length ++ [⟨c⟩] := by
  by_cases hd : dnK L c L.length = true
  · rw [if_pos hd]; unfold insK; rw [if_pos hd, List.take_length]
  · rw [if_neg hd]
    have hd' : dnK L c L.length = false := by simpa using hd
    have h := out_all (Nat.le_refl _) hd' hno
    unfold insK
    rw [if_neg hd]
    rw [List.take_length] at h ⊢
    have := putR_out ahN ⟨c⟩ [] L h
    rw [List.append_nil] at this
    unfold inR
    rw [this]; rfl
theorem inL_false {L : List Nt} {c : Int} (hno : ∀ j, (hj : j < L.length) → j < L.length → (L[j].n == c) = false) : inL c L = false := by
  unfold inL
  rw [List.any_eq_false]
  intro x hx
  obtain ⟨j, hj, rfl⟩ := List.getElem_of_mem hx
  have := hno j hj hj
  simp only [beq_eq_false_iff_ne, beq_iff_eq] at *
  omega
theorem inL_true {L : List Nt} {c : Int} {k : Nat} (h : k < L.length) (he : (L[k].n == c) = true) : inL c L = true := by
  unfold inL
  rw [List.any_eq_true]
  exact ⟨L[k], List.getElem_mem h, by simp only [beq_iff_eq] at *; omega⟩
def BRel (L : List Nt) (c : Int) (W : World) (out done i : Value) (wr : World) : Prop :=
  ∃ (k : Nat) (A' : Option Addr) (c' : Nat), k ≤ L.length ∧ i = .int .i64 k ∧ done = .bool (dnK L c k) ∧ out = .slice A' (insK L c k).length c' ∧ wr.ownsRow W.heap.size 3 1 (.slice A' (insK L c k).length c') (insK L c k).length (rc Nt.cells (insK L c k)) ∧
    (∀ j, (hj : j < L.length) → j < k → (L[j].n == c) = false) ∧ Below W.heap.size W wr

set_option maxHeartbeats 8000000 in
set_option maxRecDepth 100000 in
theorem rbind_any (id mem kind : Int) (A : Option Addr) (cap : Nat) (L : List Nt) (c : Int) (w : World) (hl : L.length ≤ 900000) (hs : Sl w A (rc Nt.cells L)) :
    Calls Try.prog 23 #[.agg #[.int .i64 id, .int .i64 mem, .int .i64 kind, .slice A L.length cap], .int .i64 c] w fun e w' => BindRes w.heap.size w' e id mem kind (bindE id mem kind L c) (inR L c) ∧ Below w.heap.size w w' := by
  have hB0 := since_alloc (since_alloc (Below.refl _ w) (.cells #[.int .i64 id, .int .i64 mem, .int .i64 kind, .slice A L.length cap] 24)) (.cells #[.int .i64 0, .int .i64 0, .int .i64 0, .slice none 0 0] 24)
  have hV0 : Af ((w.alloc (.cells #[.int .i64 id, .int .i64 mem, .int .i64 kind, .slice A L.length cap] 24)).alloc (.cells #[.int .i64 0, .int .i64 0, .int .i64 0, .slice none 0 0] 24)) w.heap.size ⟨id, mem, kind, A, L.length, cap⟩ := ⟨(Ac.Bx.new w ⟨id, mem, kind, A, L.length, cap⟩).below ((Below.refl _ _).alloc (Nat.le_refl _) (.cells #[.int .i64 0, .int .i64 0, .int .i64 0, .slice none 0 0] 24)), fun i => by simp⟩
  have hZ0 : Bz ((w.alloc (.cells #[.int .i64 id, .int .i64 mem, .int .i64 kind, .slice A L.length cap] 24)).alloc (.cells #[.int .i64 0, .int .i64 0, .int .i64 0, .slice none 0 0] 24)) (w.heap.size + 1) := by have h := Bz.new (w.alloc (.cells #[.int .i64 id, .int .i64 mem, .int .i64 kind, .slice A L.length cap] 24)); rw [World.size_alloc] at h; exact h
  have hs0 := (hs.alloc (.cells #[.int .i64 id, .int .i64 mem, .int .i64 kind, .slice A L.length cap] 24)).alloc (.cells #[.int .i64 0, .int .i64 0, .int .i64 0, .slice none 0 0] 24)
  clear hs
  have HCK := Lib.hid (fun V h => ris_any id mem kind A cap L V (by omega) h)
  by_cases hok : okC id mem kind L
  rotate_left
  · have HE : Hid (isE id mem kind L = false) := Lib.hid (is_bad hok)
    have HR : Hid (bindE id mem kind L c = 2) := Lib.hid (by rw [bindE, if_pos hok])
    clear hok
    go_enter Try.func23, Try.ntmps23
    go_upto_region 1 with fail
    generalize hWW : (w.alloc (.cells #[.int .i64 id, .int .i64 mem, .int .i64 kind, .slice A L.length cap] 24)).alloc (.cells #[.int .i64 0, .int .i64 0, .int .i64 0, .slice none 0 0] 24) = w0 at *
    clear hWW
    have hb0 := Below.refl w0.heap.size w0
    have hcs := @cell_set
    obtain ⟨q0, q1, q2, q3⟩ := (hV0.bx).got
    simp only at q0 q1 q2 q3
    obtain ⟨z0, z1, z2, z3⟩ := hZ0.got
    have fq := hV0.fz
    have fz := hZ0.fz
    have lq := hV0.bx.lt
    have lz := hZ0.bk.1
    go_wp2_with fail
    refine (HCK.out _ hs0).mono ?_
    rw [HE.out]
    rintro e w1 ⟨rfl, hb⟩
    have hV1 := hV0.below hb
    have hZ1 := hZ0.below hb
    have hs1 := hs0.below hb
    have hB1 := since_step hB0 hb
    clear hb
    clear q0 q1 q2 q3 z0 z1 z2 z3 fq fz lq lz
    obtain ⟨q0, q1, q2, q3⟩ := (hV1.bx).got
    simp only at q0 q1 q2 q3
    obtain ⟨z0, z1, z2, z3⟩ := hZ1.got
    have fq := hV1.fz
    have fz := hZ1.fz
    have lq := hV1.bx.lt
    have lz := hZ1.bk.1
    go_wp2_with fail
    refine bodyPost_ret (v := .tuple #[.agg #[.int .i64 0, .int .i64 0, .int .i64 0, .slice none 0 0], .int .i64 2]) ?_ rfl ⟨?_, ?_⟩
    · simp [results, Try.results23, go_sem, z0, z1, z2, z3, fz]
    · rw [HR.out]; exact .inl ⟨by decide, rfl⟩
    · repeat' (first | with_reducible exact hB1 | with_reducible refine Below.setCell ?_ ?_ _ | with_reducible refine Below.alloc ?_ ?_ _)
      all_goals first | (simp; done) | (simp; omega)
  have HE : Hid (isE id mem kind L = true) := Lib.hid (is_ok hok)
  by_cases hk : kind = 1
  · have hkb : (kind == 1) = true := by simpa using hk
    have HR : Hid (bindE id mem kind L c = 17) := Lib.hid (by rw [bindE, if_neg (fun h => h hok), if_pos hk])
    clear hok hk
    go_enter Try.func23, Try.ntmps23
    go_upto_region 1 with fail
    generalize hWW : (w.alloc (.cells #[.int .i64 id, .int .i64 mem, .int .i64 kind, .slice A L.length cap] 24)).alloc (.cells #[.int .i64 0, .int .i64 0, .int .i64 0, .slice none 0 0] 24) = w0 at *
    clear hWW
    have hb0 := Below.refl w0.heap.size w0
    have hcs := @cell_set
    obtain ⟨q0, q1, q2, q3⟩ := (hV0.bx).got
    simp only at q0 q1 q2 q3
    obtain ⟨z0, z1, z2, z3⟩ := hZ0.got
    have fq := hV0.fz
    have fz := hZ0.fz
    have lq := hV0.bx.lt
    have lz := hZ0.bk.1
    go_wp2_with fail
    refine (HCK.out _ hs0).mono ?_
    rw [HE.out]
    rintro e w1 ⟨rfl, hb⟩
    have hV1 := hV0.below hb
    have hZ1 := hZ0.below hb
    have hs1 := hs0.below hb
    have hB1 := since_step hB0 hb
    clear hb
    clear q0 q1 q2 q3 z0 z1 z2 z3 fq fz lq lz
    obtain ⟨q0, q1, q2, q3⟩ := (hV1.bx).got
    simp only at q0 q1 q2 q3
    obtain ⟨z0, z1, z2, z3⟩ := hZ1.got
    have fq := hV1.fz
    have fz := hZ1.fz
    have lq := hV1.bx.lt
    have lz := hZ1.bk.1
    go_wp2_with fail
    refine bodyPost_ret (v := .tuple #[.agg #[.int .i64 0, .int .i64 0, .int .i64 0, .slice none 0 0], .int .i64 17]) ?_ rfl ⟨?_, ?_⟩
    · simp [results, Try.results23, go_sem, z0, z1, z2, z3, fz]
    · rw [HR.out]; exact .inl ⟨by decide, rfl⟩
    · repeat' (first | with_reducible exact hB1 | with_reducible refine Below.setCell ?_ ?_ _ | with_reducible refine Below.alloc ?_ ?_ _)
      all_goals first | (simp; done) | (simp; omega)
  have hkb : (kind == 1) = false := by simpa using hk
  by_cases hc : isCl c = true
  rotate_left
  · have HR : Hid (bindE id mem kind L c = 2) := Lib.hid (by rw [bindE, if_neg (fun h => h hok), if_neg hk, if_pos (by simpa using hc)])
    have hc2 : c < 1 ∨ (¬ c < 1 ∧ 16 < c) := by unfold isCl at hc; simp at hc; omega
    clear hok hk hc
    rcases hc2 with hc1 | ⟨hc1, hc2⟩
    all_goals
      go_enter Try.func23, Try.ntmps23
      go_upto_region 1 with fail
      generalize hWW : (w.alloc (.cells #[.int .i64 id, .int .i64 mem, .int .i64 kind, .slice A L.length cap] 24)).alloc (.cells #[.int .i64 0, .int .i64 0, .int .i64 0, .slice none 0 0] 24) = w0 at *
      clear hWW
      have hb0 := Below.refl w0.heap.size w0
      have hcs := @cell_set
      obtain ⟨q0, q1, q2, q3⟩ := (hV0.bx).got
      simp only at q0 q1 q2 q3
      obtain ⟨z0, z1, z2, z3⟩ := hZ0.got
      have fq := hV0.fz
      have fz := hZ0.fz
      have lq := hV0.bx.lt
      have lz := hZ0.bk.1
      go_wp2_with fail
      refine (HCK.out _ hs0).mono ?_
      rw [HE.out]
      rintro e w1 ⟨rfl, hb⟩
      have hV1 := hV0.below hb
      have hZ1 := hZ0.below hb
      have hs1 := hs0.below hb
      have hB1 := since_step hB0 hb
      clear hb
      clear q0 q1 q2 q3 z0 z1 z2 z3 fq fz lq lz
      obtain ⟨q0, q1, q2, q3⟩ := (hV1.bx).got
      simp only at q0 q1 q2 q3
      obtain ⟨z0, z1, z2, z3⟩ := hZ1.got
      have fq := hV1.fz
      have fz := hZ1.fz
      have lq := hV1.bx.lt
      have lz := hZ1.bk.1
      go_wp2_with fail
      refine bodyPost_ret (v := .tuple #[.agg #[.int .i64 0, .int .i64 0, .int .i64 0, .slice none 0 0], .int .i64 2]) ?_ rfl ⟨?_, ?_⟩
      · simp [results, Try.results23, go_sem, z0, z1, z2, z3, fz]
      · rw [HR.out]; exact .inl ⟨by decide, rfl⟩
      · repeat' (first | with_reducible exact hB1 | with_reducible refine Below.setCell ?_ ?_ _ | with_reducible refine Below.alloc ?_ ?_ _)
        all_goals first | (simp; done) | (simp; omega)
  have hc1 : ¬ c < 1 := by unfold isCl at hc; simp at hc; omega
  have hc2 : ¬ 16 < c := by unfold isCl at hc; simp at hc; omega
  have HR12 : Hid (inL c L = true → bindE id mem kind L c = 12) := Lib.hid (fun hi => by rw [bindE, if_neg (fun h => h hok), if_neg hk, if_neg (by rw [hc]; decide), if_pos hi])
  have HR0 : Hid (inL c L = false → bindE id mem kind L c = if kind = 4 ∧ 0 < L.length then 10 else 0) := Lib.hid (fun hi => by rw [bindE, if_neg (fun h => h hok), if_neg hk, if_neg (by rw [hc]; decide), if_neg (by rw [hi]; decide)])
  clear hok hk hc
  go_enter Try.func23, Try.ntmps23
  go_upto_region 1 with fail
  generalize hWW : (w.alloc (.cells #[.int .i64 id, .int .i64 mem, .int .i64 kind, .slice A L.length cap] 24)).alloc (.cells #[.int .i64 0, .int .i64 0, .int .i64 0, .slice none 0 0] 24) = w0 at *
  clear hWW
  have hb0 := Below.refl w0.heap.size w0
  have hcs := @cell_set
  obtain ⟨q0, q1, q2, q3⟩ := (hV0.bx).got
  simp only at q0 q1 q2 q3
  obtain ⟨z0, z1, z2, z3⟩ := hZ0.got
  have fq := hV0.fz
  have fz := hZ0.fz
  have lq := hV0.bx.lt
  have lz := hZ0.bk.1
  go_wp2_with fail
  refine (HCK.out _ hs0).mono ?_
  rw [HE.out]
  rintro e w1 ⟨rfl, hb⟩
  have hV1 := hV0.below hb
  have hZ1 := hZ0.below hb
  have hs1 := hs0.below hb
  have hB1 := since_step hB0 hb
  clear hb
  clear q0 q1 q2 q3 z0 z1 z2 z3 fq fz lq lz
  obtain ⟨q0, q1, q2, q3⟩ := (hV1.bx).got
  simp only at q0 q1 q2 q3
  obtain ⟨z0, z1, z2, z3⟩ := hZ1.got
  have fq := hV1.fz
  have fz := hZ1.fz
  have lq := hV1.bx.lt
  have lz := hZ1.bk.1
  have HV : Hid (∀ V, Below w1.heap.size w1 V → Af V w.heap.size ⟨id, mem, kind, A, L.length, cap⟩) := Lib.hid fun V hV => hV1.below hV
  have HZ : Hid (∀ V, Below w1.heap.size w1 V → Bz V (w.heap.size + 1)) := Lib.hid fun V hV => hZ1.below hV
  have hbx1 : w.heap.size + 1 < w1.heap.size := lz
  clear hV0 hZ0 hs0 hV1 hZ1 HCK
  go_wp2_with fail
  go_loopw [6, 7, 8] (fun out done i wr => BRel L c w1 out done i wr) (fun _ _ i _ => L.length - (intOf i).toNat)
  case atStart => exact ⟨0, none, 0, by omega, rfl, rfl, rfl, own_nil _ _ _, fun j hj h => absurd h (by omega), Below.refl _ _⟩
  case round =>
    obtain ⟨k, A', c', hk, rfl, rfl, rfl, hown, hno, hB⟩ := hrel
    clear q0 q1 q2 q3 z0 z1 z2 z3 fq fz lq lz
    have hV := HV.out _ hB
    have hZ := HZ.out _ hB
    obtain ⟨q0, q1, q2, q3⟩ := hV.bx.got
    simp only at q0 q1 q2 q3
    have hBw := since_step hB1 hB
    have hwl := hB.size
    by_cases hlt : k < L.length
    · obtain ⟨b, o, rfl, hbw1, hg1⟩ := hs1.nt hlt
      have n1 := hg1.1
      have HX : Hid (∀ V, Below w1.heap.size w1 V → V.cell? ⟨b, o + k, none⟩ = some (.int .i64 L[k].n)) := Lib.hid fun V hV => (hV.cell (p := ⟨b, o + k, none⟩) hbw1).trans n1
      have n0 := HX.out _ hB
      have hlk : (k : Int) < (L.length : Int) := by omega
      have hge : (0 : Int) ≤ (k : Int) := by omega
      have hil := insK_len L c k (Nat.le_of_lt hlt)
      clear hg1 n1
      by_cases he : (L[k].n == c) = true
      · have HR := Lib.hid (HR12.out (inL_true hlt he))
        clear HR12 HR0 hno hown
        generalize L[k].n = x at *
        obtain ⟨z0, z1, z2, z3⟩ := hZ.got
        have fz := hZ.fz
        have lz := hZ.bk.1
        go_wp2_with fail
        refine bodyPost_ret (v := .tuple #[.agg #[.int .i64 0, .int .i64 0, .int .i64 0, .slice none 0 0], .int .i64 12]) ?_ rfl ⟨?_, ?_⟩
        · simp [results, Try.results23, go_sem, z0, z1, z2, z3, fz]
        · rw [HR.out]; exact .inl ⟨by decide, rfl⟩
        · repeat' (first | with_reducible exact hBw | with_reducible refine Below.setCell ?_ ?_ _ | with_reducible refine Below.alloc ?_ ?_ _)
          all_goals first | (simp; done) | (simp; omega)
      · have he' : (L[k].n == c) = false := by simpa using he
        have HN : Hid (∀ j, (hj : j < L.length) → j < k + 1 → (L[j].n == c) = false) := Lib.hid fun j hj hjk => by
          rcases Nat.lt_or_ge j k with h' | h'
          · exact hno j hj h'
          · obtain rfl : j = k := by omega
            exact he'
        obtain ⟨⟨x⟩, hx⟩ : ∃ x, L[k] = x := ⟨_, rfl⟩
        cases hd : dnK L c k with
        | true =>
          have HI := insK_in hlt hd
          have HD : Hid (dnK L c (k + 1) = true) := Lib.hid (by rw [dnK_snoc L c k hlt, hd]; rfl)
          rw [hx] at HI n0 he' HX
          have HI := Lib.hid HI
          clear hno hd HR12 HR0 hx he
          simp only at n0 he' HX
          generalize insK L c k = q at *
          by_cases hcx : c < x
          all_goals
            go_wp2_with (first
              | (at_builtin; refine wpList_app rfl (.tmp 54) (.tmp 60) rfl ENt rfl rfl (hown.alloc _) (m := 1) (news := (⟨x⟩ : Nt).cells) rfl (Sl.new_ _ _ _) (Nt.one _) (by unfold maxLen; omega) (by omega) (by simp only [World.size_alloc]; omega) ?_; intro A2 c2 w3 hown3 hg3 hb3)
              | fail)
            go_roundw
            case rel =>
              refine ⟨k + 1, A2, c2, by omega, by go_num, by rw [HD.out], ?_, ?_, HN.out, (hB.alloc hwl _).trans hb3⟩
              · rw [HI.out]; simp
              · rw [HI.out, rc_append]; simpa [rc] using hown3
            case measure => simp [intOf]; omega
        | false =>
          by_cases hcx : c < L[k].n
          · have HI := insK_new hlt hd hno hcx
            have HD : Hid (dnK L c (k + 1) = true) := Lib.hid (by rw [dnK_snoc L c k hlt, hd]; simp [hcx])
            rw [hx] at HI n0 he' HX hcx
            have HI := Lib.hid HI
            clear hno hd HR12 HR0 hx he
            simp only at n0 he' HX hcx
            generalize insK L c k = q at *
            go_wp2_with (first
              | (at_builtin; refine wpList_app rfl (.tmp 50) (.tmp 52) rfl ENt rfl rfl (hown.alloc _) (m := 1) (news := (⟨c⟩ : Nt).cells) rfl (Sl.new_ _ _ _) (Nt.one _) (by unfold maxLen; omega) (by omega) (by simp only [World.size_alloc]; omega) ?_; intro A1 c1 w2 hown2 hg2 hb2; have hBB := (hB.alloc hwl _).trans hb2; have hV2 := HV.out _ hBB; have q3 := hV2.bx.got.2.2.2; simp only at q3; have n0 := HX.out _ hBB; have hwl2 := hBB.size)
              | (at_builtin; refine wpList_app rfl (.tmp 54) (.tmp 60) rfl ENt rfl rfl (hown2.alloc _) (m := 1) (news := (⟨x⟩ : Nt).cells) rfl (Sl.new_ _ _ _) (Nt.one _) (by unfold maxLen; omega) (by omega) (by simp only [World.size_alloc]; omega) ?_; intro A2 c2 w3 hown3 hg3 hb3)
              | fail)
            go_roundw
            case rel =>
              refine ⟨k + 1, A2, c2, by omega, by go_num, by rw [HD.out], ?_, ?_, HN.out, (hBB.alloc hwl2 _).trans hb3⟩
              · rw [HI.out]; simp
              · rw [HI.out, rc_append, rc_append]; simpa [rc] using hown3
            case measure => simp [intOf]; omega
          · obtain ⟨hI, hD⟩ := insK_no hlt hd hcx
            rw [hx] at hI n0 he' HX hcx
            have HI := Lib.hid hI
            have HD := Lib.hid hD
            clear hno hd HR12 HR0 hI hD hx he
            simp only at n0 he' HX hcx
            generalize insK L c k = q at *
            go_wp2_with (first
              | (at_builtin; refine wpList_app rfl (.tmp 54) (.tmp 60) rfl ENt rfl rfl (hown.alloc _) (m := 1) (news := (⟨x⟩ : Nt).cells) rfl (Sl.new_ _ _ _) (Nt.one _) (by unfold maxLen; omega) (by omega) (by simp only [World.size_alloc]; omega) ?_; intro A2 c2 w3 hown3 hg3 hb3)
              | fail)
            go_roundw
            case rel =>
              refine ⟨k + 1, A2, c2, by omega, by go_num, by rw [HD.out], ?_, ?_, HN.out, (hB.alloc hwl _).trans hb3⟩
              · rw [HI.out]; simp
              · rw [HI.out, rc_append]; simpa [rc] using hown3
            case measure => simp [intOf]; omega
    · obtain rfl : k = L.length := by omega
      have hge : ¬ ((L.length : Int) < (L.length : Int)) := by omega
      obtain ⟨z0, z1, z2, z3⟩ := hZ.got
      have fz := hZ.fz
      have lz := hZ.bk.1
      have fq := hV.fz
      have lq := hV.bx.lt
      have hi0 := inL_false hno
      have hil := insK_len L c L.length (Nat.le_refl _)
      by_cases h4 : kind = 4 ∧ 0 < L.length
      · have HR9 := HR0.out hi0
        rw [if_pos h4] at HR9
        have HR := Lib.hid HR9
        clear HR9
        have h4b : (kind == 4) = true := by simpa using h4.1
        have h4c : (0 : Int) < (L.length : Int) := by omega
        clear hno hi0 HR0 HR12 h4 hown
        go_wp2_with fail
        refine bodyPost_ret (v := .tuple #[.agg #[.int .i64 0, .int .i64 0, .int .i64 0, .slice none 0 0], .int .i64 10]) ?_ rfl ⟨?_, ?_⟩
        · simp [results, Try.results23, go_sem, z0, z1, z2, z3, fz]
        · rw [HR.out]; exact .inl ⟨by decide, rfl⟩
        · repeat' (first | with_reducible exact hBw | with_reducible refine Below.setCell ?_ ?_ _ | with_reducible refine Below.alloc ?_ ?_ _)
          all_goals first | (simp; done) | (simp; omega)
      · have HR9 := HR0.out hi0
        rw [if_neg h4] at HR9
        have HR := Lib.hid HR9
        clear HR9
        have h4b : ((kind == 4) = false) ∨ ((kind == 4) = true ∧ ¬ (0 : Int) < (L.length : Int)) := by
          by_cases h : kind = 4
          · exact .inr ⟨by simpa using h, fun h9 => h4 ⟨h, by omega⟩⟩
          · exact .inl (by simpa using h)
        have hIN := insK_end hno
        clear hno hi0 HR0 HR12 h4
        cases hd : dnK L c L.length with
        | true =>
          rw [if_pos hd] at hIN
          have HIN := Lib.hid hIN
          clear hIN hd
          generalize insK L c L.length = q at *
          rcases h4b with h4b | ⟨h4b, h4c⟩
          all_goals
            go_wp2_with fail
            refine bodyPost_ret (v := .tuple #[.agg #[.int .i64 id, .int .i64 mem, .int .i64 kind, .slice A' (inR L c).length c'], .int .i64 0]) ?_ rfl ⟨?_, ?_⟩
            · rw [HIN.out]
              simp [results, Try.results23, go_sem, z0, z1, z2, z3, q0, q1, q2, q3, fz, fq, hcs]
            · rw [HR.out, HIN.out]
              refine .inr ⟨rfl, A', c', rfl, own_base ?_ hB1.size⟩
              repeat' (first | with_reducible exact hown | with_reducible refine own_setFar ?_ ?_ _)
              all_goals first | (simp; done) | (simp; omega)
            · repeat' (first | with_reducible exact hBw | with_reducible refine Below.setCell ?_ ?_ _ | with_reducible refine Below.alloc ?_ ?_ _)
              all_goals first | (simp; done) | (simp; omega)
        | false =>
          rw [if_neg (by rw [hd]; decide)] at hIN
          have HIN := Lib.hid hIN
          clear hIN hd
          generalize insK L c L.length = q at *
          rcases h4b with h4b | ⟨h4b, h4c⟩
          all_goals
            go_wp2_with (first
              | (at_builtin; refine wpList_app rfl (.tmp 74) (.tmp 76) rfl ENt rfl rfl (hown.alloc _) (m := 1) (news := (⟨c⟩ : Nt).cells) rfl (Sl.new_ _ _ _) (Nt.one _) (by unfold maxLen; omega) (by omega) (by simp only [World.size_alloc]; omega) ?_; intro A2 c2 w3 hown3 hg3 hb3; have hBB := (hB.alloc hwl _).trans hb3; have hV2 := HV.out _ hBB; have hZ2 := HZ.out _ hBB; have hBw3 := since_step hB1 hBB; obtain ⟨q0, q1, q2, q3⟩ := hV2.bx.got; simp only at q0 q1 q2 q3; obtain ⟨z0, z1, z2, z3⟩ := hZ2.got; have fz := hZ2.fz; have fq := hV2.fz; have lq := hV2.bx.lt; have lz := hZ2.bk.1; have hown4 : w3.ownsRow w1.heap.size 3 1 (.slice A2 (q ++ [(⟨c⟩ : Nt)]).length c2) (q ++ [(⟨c⟩ : Nt)]).length (rc Nt.cells (q ++ [(⟨c⟩ : Nt)])) := by (rw [rc_append]; simpa [rc] using hown3))
              | fail)
            refine bodyPost_ret (v := .tuple #[.agg #[.int .i64 id, .int .i64 mem, .int .i64 kind, .slice A2 (inR L c).length c2], .int .i64 0]) ?_ rfl ⟨?_, ?_⟩
            · rw [HIN.out]
              simp [results, Try.results23, go_sem, z0, z1, z2, z3, q0, q1, q2, q3, fz, fq, hcs]
            · rw [HR.out, HIN.out]
              refine .inr ⟨rfl, A2, c2, rfl, own_base ?_ hB1.size⟩
              repeat' (first | with_reducible exact hown4 | with_reducible refine own_setFar ?_ ?_ _)
              all_goals first | (simp; done) | (simp; omega)
            · repeat' (first | with_reducible exact hBw3 | with_reducible refine Below.setCell ?_ ?_ _ | with_reducible refine Below.alloc ?_ ?_ _)
              all_goals first | (simp; done) | (simp; omega)
end Go.Proofs.Ytpnaihnmmnjacaa
