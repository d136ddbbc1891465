import Derived.Test.YtiggcpfmmgmncaaVp13
import Derived.Test.YtiggcpfmmgmncaaVp15
set_option maxHeartbeats 16000000
set_option maxRecDepth 100000
set_option linter.unusedVariables false
set_option linter.unusedSimpArgs false
namespace Go.Proofs.Ytiggcpfmmgmncaa
open Go.ChangeShapes Go.WideShapes Go.ChangeAt Go.RowKit
section
def frB (b : List Nat) : Option Fr := if (decF b).2 = 0 then some (decF b).1 else none
def frD (S : List (List Nat)) (i : Int) : Option Fr := if 0 ≤ i ∧ i < (S.length : Int) then frB (S.getD i.toNat []) else none
def takeF (S : List (List Nat)) (i : Int) : Nat → Option (List Fr)
  | 0 => some []
  | k + 1 => match takeF S i k with
    | none => none
    | some l => match frD S (i + (k : Int)) with
      | none => none
      | some f => some (l ++ [f])
def readF (S : List (List Nat)) (i tt : Int) : Option (List Nat × Fr) :=
  if tt ≤ i then none else match frD S i with
    | none => none
    | some f => if tt - i < f.parts then none else match takeF S i f.parts.toNat with
      | none => none
      | some l => if (joinF l).2 = true then some ((joinF l).1, f) else none
theorem frB_ok {b : List Nat} {f : Fr} (h : frB b = some f) : f.ok = true ∧ (decF b) = (f, 0) := by
  unfold frB at h
  split at h
  · rename_i h0
    injection h with h
    unfold decF at *
    split at h0
    · rename_i h1
      rw [if_pos h1] at h
      subst h
      exact ⟨h1.2.1, if_pos h1⟩
    · exact absurd h0 (by decide)
  · cases h
theorem frB_enc {f : Fr} (h : f.ok = true) : frB (sealed f.body) = some f := by
  have := dec_enc h
  rw [encF, if_pos h] at this
  unfold frB
  rw [this]; rfl
theorem frD_some {S : List (List Nat)} {i : Int} {f : Fr} (h : frD S i = some f) : 0 ≤ i ∧ i < (S.length : Int) ∧ frB (S.getD i.toNat []) = some f ∧ f.ok = true := by
  unfold frD at h
  split at h
  · rename_i h1
    exact ⟨h1.1, h1.2, h, (frB_ok h).1⟩
  · cases h
theorem frD_at {S : List (List Nat)} {k : Nat} (h : k < S.length) : frD S (k : Int) = frB S[k] := by
  unfold frD
  rw [if_pos ⟨by omega, by omega⟩, Int.toNat_natCast, List.getD_eq_getElem?_getD, List.getElem?_eq_getElem h]; rfl
theorem frD_eq {S T : List (List Nat)} (hl : S.length = T.length) {i : Int} (h : S[i.toNat]? = T[i.toNat]?) : frD S i = frD T i := by
  unfold frD
  rw [hl, List.getD_eq_getElem?_getD, List.getD_eq_getElem?_getD, h]
theorem takeF_iff {S : List (List Nat)} {i : Int} : ∀ {k : Nat} {l : List Fr}, takeF S i k = some l ↔ l.length = k ∧ ∀ j : Nat, j < k → frD S (i + (j : Int)) = l[j]?
  | 0, l => by
    unfold takeF
    constructor
    · intro h; injection h with h; subst h; exact ⟨rfl, fun j hj => absurd hj (by omega)⟩
    · rintro ⟨h, _⟩; rw [List.eq_nil_of_length_eq_zero h]
  | k + 1, l => by
    unfold takeF
    constructor
    · intro h
      split at h
      · cases h
      · rename_i l0 h0
        split at h
        · cases h
        · rename_i f hf
          injection h with h
          subst h
          obtain ⟨h1, h2⟩ := takeF_iff.1 h0
          refine ⟨by simp [h1], fun j hj => ?_⟩
          by_cases e : j = k
          · subst e; rw [hf, List.getElem?_append_right (by omega), h1]; simp
          · rw [h2 j (by omega), List.getElem?_append_left (by omega)]
    · rintro ⟨h1, h2⟩
      have hk : k < l.length := by omega
      have h0 : takeF S i k = some (l.take k) := takeF_iff.2 ⟨by simp; omega, fun j hj => by rw [h2 j (by omega), List.getElem?_take, if_pos hj]⟩
      have hf := h2 k (by omega)
      rw [List.getElem?_eq_getElem hk] at hf
      rw [h0]
      simp only [hf]
      rw [← take_snoc l k hk, List.take_of_length_le (by omega)]
theorem joinF_all {l : List Fr} (h : (joinF l).2 = true) : ∃ f0, l[0]? = some f0 ∧ ((l.length : Nat) : Int) = f0.parts ∧ ∀ (j : Nat) (f : Fr), l[j]? = some f → goodJ f0 l.length j f = true := by
  cases l with
  | nil => cases h
  | cons f l =>
    unfold joinF at h
    by_cases hc : (decide ((((f :: l).length : Nat) : Int) = f.parts) && allJ f (f :: l).length 0 (f :: l)) = true
    · rw [Bool.and_eq_true, decide_eq_true_eq] at hc
      refine ⟨f, rfl, hc.1, fun j g hg => ?_⟩
      have := (allJ_iff f (f :: l).length (f :: l) 0).1 hc.2
      obtain ⟨hj, e⟩ := List.getElem?_eq_some_iff.1 hg
      have h2 := this j hj
      rw [Nat.zero_add, e] at h2
      exact h2
    · have e : (if (decide ((((f :: l).length : Nat) : Int) = f.parts) && allJ f (f :: l).length 0 (f :: l)) = true then (dataJ (f :: l), true) else (([] : List Nat), false)) = ([], false) := if_neg hc
      have h2 : (([] : List Nat), false).2 = true := by rw [← e]; exact h
      cases h2
theorem readF_iff {S : List (List Nat)} {i tt : Int} {b : List Nat} {f : Fr} : readF S i tt = some (b, f) ↔ i < tt ∧ frD S i = some f ∧ f.parts ≤ tt - i ∧ ∃ l, takeF S i f.parts.toNat = some l ∧ joinF l = (b, true) := by
  unfold readF
  constructor
  · intro h
    split at h
    · cases h
    · split at h
      · cases h
      · rename_i g hg
        split at h
        · cases h
        · split at h
          · cases h
          · rename_i l hl
            split at h
            · rename_i hj
              injection h with h
              injection h with h1 h2
              subst h2
              exact ⟨by omega, hg, by omega, l, hl, by rw [← h1, ← hj]⟩
            · cases h
  · rintro ⟨h1, h2, h3, l, h4, h5⟩
    rw [if_neg (by omega), h2]
    simp only
    rw [if_neg (by omega), h4]
    simp only
    rw [h5]; rfl
theorem readF_life {S : List (List Nat)} {i tt : Int} {b : List Nat} {f : Fr} (h : readF S i tt = some (b, f)) : ∀ j : Nat, (j : Int) < f.parts → ∃ g, frD S (i + (j : Int)) = some g ∧ g.life = f.life := by
  obtain ⟨h1, h2, h3, l, h4, h5⟩ := readF_iff.1 h
  obtain ⟨ll, hl⟩ := takeF_iff.1 h4
  obtain ⟨f0, e0, e1, e2⟩ := joinF_all (by rw [h5])
  have hok := (Fr.ok_iff f).1 (frD_some h2).2.2.2
  have hf0 : f0 = f := by
    have := hl 0 (by omega)
    rw [e0, show i + ((0 : Nat) : Int) = i by omega, h2] at this
    exact (Option.some.inj this).symm
  subst hf0
  intro j hj
  have hjl : j < l.length := by omega
  refine ⟨l[j], ?_, ?_⟩
  · rw [hl j (by omega), List.getElem?_eq_getElem hjl]
  · have := e2 j l[j] (List.getElem?_eq_getElem hjl)
    unfold goodJ at this
    simp only [Bool.and_eq_true, decide_eq_true_eq] at this
    exact this.2.1.1
theorem readF_same {S T : List (List Nat)} (hl : S.length = T.length) {i tt : Int} {f : Fr} (hf : frD S i = some f) (h : ∀ j : Nat, (j : Int) < f.parts → frD S (i + (j : Int)) = frD T (i + (j : Int))) : readF S i tt = readF T i tt := by
  have hok := (Fr.ok_iff f).1 (frD_some hf).2.2.2
  have h0 := h 0 (by omega)
  rw [show i + ((0 : Nat) : Int) = i by omega] at h0
  have ht : takeF S i f.parts.toNat = takeF T i f.parts.toNat := by
    have key : ∀ k : Nat, (k : Int) ≤ f.parts → takeF S i k = takeF T i k := by
      intro k
      induction k with
      | zero => intro _; rfl
      | succ k ih => intro hk; unfold takeF; rw [ih (by omega), h k (by omega)]
    exact key _ (by omega)
  unfold readF
  rw [← h0, hf]
  simp only [ht]
theorem readF_new {S : List (List Nat)} {P n : Nat} {tt life era seq : Int} {b : List Nat} (hn : partsN b.length = n) (hb : n ≤ 255) (hok : (piece life era seq b n 0).ok = true) (hP : P + n ≤ S.length) (hto : ((P + n : Nat) : Int) ≤ tt)
    (h : ∀ j, j < n → S[P + j]? = some (sealed (piece life era seq b n j).body)) : readF S P tt = some (b, piece life era seq b n 0) := by
  have hp := partsN_pos b.length
  have hfr : ∀ j : Nat, j < n → frD S ((P : Int) + (j : Int)) = some (piece life era seq b n j) := fun j hj => by
    have hlt : P + j < S.length := by omega
    have e := h j hj
    rw [List.getElem?_eq_getElem hlt] at e
    rw [show (P : Int) + (j : Int) = ((P + j : Nat) : Int) by omega, frD_at hlt, Option.some.inj e]
    exact frB_enc ((piece_ok hj hb).trans hok)
  refine readF_iff.2 ⟨by omega, by simpa using hfr 0 (by omega), by show (n : Int) ≤ tt - (P : Int); omega, piecesF life era seq b n n, ?_, join_pieces hn hb hok⟩
  show takeF S P ((n : Int)).toNat = _
  rw [Int.toNat_natCast]
  refine takeF_iff.2 ⟨piecesF_len _ _ _ _ _ _, fun j hj => ?_⟩
  rw [hfr j hj, piecesF, List.getElem?_map, List.getElem?_range hj]; rfl
theorem readF_torn {S T : List (List Nat)} (hl : T.length = S.length) {P n : Nat} {tt life era seq : Int} {b : List Nat} (hn : partsN b.length = n) (hb : n ≤ 255) (hok : (piece life era seq b n 0).ok = true) (hP : P + n ≤ S.length) (hto : ((P + n : Nat) : Int) ≤ tt)
    (h : ∀ i, T[i]? = S[i]? ∨ (P ≤ i ∧ i < P + n ∧ T[i]? = some (sealed (piece life era seq b n (i - P)).body)))
    (hlow : ∀ (i : Nat) (f : Fr), P ≤ i → i < P + n → frD S i = some f → f.life < life) : readF T P tt = some (b, piece life era seq b n 0) ∨ readF T P tt = none ∨ readF T P tt = readF S P tt := by
  have hp := partsN_pos b.length
  have hnew : ∀ j : Nat, j < n → T[P + j]? = some (sealed (piece life era seq b n j).body) → frD T ((P : Int) + (j : Int)) = some (piece life era seq b n j) := fun j hj e => by
    have hlt : P + j < T.length := by omega
    rw [List.getElem?_eq_getElem hlt] at e
    rw [show (P : Int) + (j : Int) = ((P + j : Nat) : Int) by omega, frD_at hlt, Option.some.inj e]
    exact frB_enc ((piece_ok hj hb).trans hok)
  have hold : ∀ i : Nat, T[i]? = S[i]? → frD T (i : Int) = frD S (i : Int) := fun i e => frD_eq hl (by simpa using e)
  cases hr : readF T P tt with
  | none => exact .inr (.inl rfl)
  | some bf =>
    obtain ⟨b', f'⟩ := bf
    have hlife := readF_life hr
    obtain ⟨h1, h2, h3, l, h4, h5⟩ := readF_iff.1 hr
    have hok' := (Fr.ok_iff f').1 (frD_some h2).2.2.2
    rcases h P with e | ⟨_, _, e⟩
    · refine .inr (.inr ?_)
      rw [← hr]
      refine readF_same hl h2 fun j hj => ?_
      rcases h (P + j) with e2 | ⟨_, hj2, e2⟩
      · rw [show (P : Int) + (j : Int) = ((P + j : Nat) : Int) by omega]
        exact hold _ e2
      · exfalso
        obtain ⟨g, hg, hgl⟩ := hlife j hj
        rw [show P + j - P = j by omega] at e2
        rw [hnew j (by omega) e2] at hg
        have hP2 : frD S (P : Int) = some f' := by rw [← hold P e]; exact h2
        have := hlow P f' (Nat.le_refl _) (by omega) hP2
        have hg2 := Option.some.inj hg
        rw [← hg2] at hgl
        have : (piece life era seq b n j).life = life := rfl
        omega
    · left
      rw [Nat.sub_self] at e
      have hf0 : f' = piece life era seq b n 0 := by
        have := hnew 0 (by omega) e
        rw [show (P : Int) + ((0 : Nat) : Int) = (P : Int) by omega, h2] at this
        exact Option.some.inj this
      subst hf0
      rw [← hr]
      refine readF_new hn hb hok (by omega) hto fun j hj => ?_
      rcases h (P + j) with e2 | ⟨_, hj2, e2⟩
      · exfalso
        obtain ⟨g, hg, hgl⟩ := hlife j (by show (j : Int) < (n : Int); omega)
        rw [show (P : Int) + (j : Int) = ((P + j : Nat) : Int) by omega, hold _ e2] at hg
        have := hlow (P + j) g (by omega) (by omega) hg
        have h9 : (piece life era seq b n 0).life = life := rfl
        omega
      · rw [show P + j - P = j by omega] at e2
        exact e2
end
section
def FRes (B : Nat) (w' : World) (e : Ending) (R : Option Fr) : Prop := ∃ A' c', e = .returned (.tuple #[(R.getD Fr0).val A' c', .bool R.isSome]) ∧ w'.ownsRow B 5 1 (.slice A' (R.getD Fr0).data.length c') (R.getD Fr0).data.length (by8 (R.getD Fr0).data)
theorem frB_dec (b : List Nat) : (frB b).getD Fr0 = (decF b).1 ∧ (frB b).isSome = decide ((decF b).2 = 0) ∧ ((decF b).2 = 0 ∨ (decF b).2 = 3) := by
  unfold frB decF
  split
  · exact ⟨rfl, rfl, .inl rfl⟩
  · exact ⟨rfl, rfl, .inr rfl⟩
theorem six_got {w V : World} {a0 a1 a2 a3 a4 a5 : Value} {t : TypeId} (h : Below (w.heap.size + 1) (w.alloc (.cells #[a0, a1, a2, a3, a4, a5] t)) V) :
    (V.cell? ⟨w.heap.size, 0, none⟩ = some a0 ∧ V.cell? ⟨w.heap.size, 1, none⟩ = some a1 ∧ V.cell? ⟨w.heap.size, 2, none⟩ = some a2 ∧ V.cell? ⟨w.heap.size, 3, none⟩ = some a3 ∧ V.cell? ⟨w.heap.size, 4, none⟩ = some a4 ∧ V.cell? ⟨w.heap.size, 5, none⟩ = some a5) ∧
    (V.frozen? ⟨w.heap.size, 0, none⟩ = false ∧ V.frozen? ⟨w.heap.size, 1, none⟩ = false ∧ V.frozen? ⟨w.heap.size, 2, none⟩ = false ∧ V.frozen? ⟨w.heap.size, 3, none⟩ = false ∧ V.frozen? ⟨w.heap.size, 4, none⟩ = false ∧ V.frozen? ⟨w.heap.size, 5, none⟩ = false) ∧ w.heap.size < V.heap.size := by
  have hz := h.size
  rw [World.size_alloc] at hz
  have hf : ∀ i, V.frozen? ⟨w.heap.size, i, none⟩ = false := fun i => (h.frozen (p := ⟨w.heap.size, i, none⟩) (Nat.lt_succ_self _)).trans (frozen_new w _ t i)
  exact ⟨box6 (by rw [World.size_alloc]; exact h), ⟨hf 0, hf 1, hf 2, hf 3, hf 4, hf 5⟩, by omega⟩
theorem below_six {B g : Nat} {w V : World} {a0 a1 a2 a3 a4 a5 : Value} (h : Below B w V) (hg : B ≤ g) :
    Below B w ((((((V.setCell ⟨g, 0, none⟩ a0).setCell ⟨g, 1, none⟩ a1).setCell ⟨g, 2, none⟩ a2).setCell ⟨g, 3, none⟩ a3).setCell ⟨g, 4, none⟩ a4).setCell ⟨g, 5, none⟩ a5) :=
  ((((((h.setCell (p := ⟨g, 0, none⟩) hg _).setCell (p := ⟨g, 1, none⟩) hg _).setCell (p := ⟨g, 2, none⟩) hg _).setCell (p := ⟨g, 3, none⟩) hg _).setCell (p := ⟨g, 4, none⟩) hg _).setCell (p := ⟨g, 5, none⟩) hg _)
theorem own_six {w : World} {base e size n g : Nat} {v : Value} {xs : List Value} {a0 a1 a2 a3 a4 a5 : Value} (h : w.ownsRow base e size v n xs) (hp : v.ownBlock ≠ some g) :
    ((((((w.setCell ⟨g, 0, none⟩ a0).setCell ⟨g, 1, none⟩ a1).setCell ⟨g, 2, none⟩ a2).setCell ⟨g, 3, none⟩ a3).setCell ⟨g, 4, none⟩ a4).setCell ⟨g, 5, none⟩ a5).ownsRow base e size v n xs :=
  own_far1 (own_far1 (own_far1 (own_far1 (own_far1 (own_far1 h (p := ⟨g, 0, none⟩) hp _) (p := ⟨g, 1, none⟩) hp _) (p := ⟨g, 2, none⟩) hp _) (p := ⟨g, 3, none⟩) hp _) (p := ⟨g, 4, none⟩) hp _) (p := ⟨g, 5, none⟩) hp _
theorem rframe_at {B b g kc : Nat} {K : Option Addr} {d : Dv} (k : Nat) (w : World) (h : DrA B w b g K kc d) (hk : k < d.S.length) :
    Calls Try.prog 77 #[.pointer (some ⟨b, 0, none⟩), .int .i64 k] w fun e w' => FRes w.heap.size w' e (frD d.S k) ∧ Below w.heap.size w w' := by
  rw [frD_at hk]
  have HR := Lib.hid (fun V (hV : Below w.heap.size w V) => dread_ok k V (h.below hV) hk)
  have H96 := Lib.hid (h.s96 _ (List.getElem_mem hk))
  have HOC := Lib.hid (h.oct _ (List.getElem_mem hk))
  generalize d.S[k] = X at *
  clear h hk
  obtain ⟨q1, q2, q3⟩ := frB_dec X
  generalize frB X = R at *
  obtain ⟨⟨⟨f0, f1, f2, f3, f4, fd⟩, z⟩, hDX⟩ : ∃ D, decF X = D := ⟨_, rfl⟩
  rw [hDX] at q1 q2 q3
  simp only at q1 q2 q3
  have HDX := Lib.hid hDX
  have HQ1 := Lib.hid q1
  have HQ2 := Lib.hid q2
  have HQ3 := Lib.hid q3
  clear q1 q2 q3 hDX
  go_enter Try.func77, Try.ntmps77
  go_wp2_with fail
  have hB0 : Below w.heap.size w (w.alloc (.cells #[.int .i64 0, .int .i64 0, .int .i64 0, .int .i64 0, .int .i64 0, .slice none 0 0] 130)) := since_alloc (Below.refl _ _) _
  refine (HR.out _ hB0).mono ?_
  rintro e w1 ⟨⟨m, rfl, own1⟩, hb⟩
  have hB1 := since_step hB0 hb
  have hD := fdec7_any (some ⟨m, 0, none⟩) 96 X w1 (by rw [H96.out]; exact Nat.le_refl _) (by decide) (Sl.of_own own1) HOC.out
  rw [H96.out, HDX.out] at hD
  have HD := Lib.hid hD
  clear hD own1
  have HB := Lib.hid hb
  have HB1 := Lib.hid hB1
  clear hb hB1
  go_wp2_with fail
  refine HD.out.mono ?_
  rintro e w2 ⟨⟨A2, c2, rfl, own2⟩, hb2⟩
  unfold Fr.val
  simp only
  have hb3 := HB.out.trans (hb2.mono HB.out.size)
  obtain ⟨⟨y0, y1, y2, y3, y4, y5⟩, ⟨z0, z1, z2, z3, z4, z5⟩, hlt⟩ := six_got (by rw [World.size_alloc] at hb3; exact hb3)
  have hB2 := Lib.hid (since_step HB1.out hb2)
  have HNE := Lib.hid (show (Value.slice A2 fd.length c2).ownBlock ≠ some w.heap.size from fun e => by have h1 := own_ge own2 _ e; have h2 := HB.out.size; rw [World.size_alloc] at h2; omega)
  have HOW2 := Lib.hid (own_base own2 (show w.heap.size ≤ w1.heap.size from HB1.out.size))
  clear hb2 hb3 own2 HD HB HB1
  go_wp2_with fail
  refine bodyPost_ret (v := .tuple #[.agg #[.int .i64 f0, .int .i64 f1, .int .i64 f2, .int .i64 f3, .int .i64 f4, .slice A2 fd.length c2], .bool (z == 0)]) ?_ rfl ⟨⟨A2, c2, ?_, ?_⟩, ?_⟩
  · simp [results, Try.results77, go_sem, y0, y1, y2, y3, y4, y5, hlt]
  · rw [HQ1.out, HQ2.out]
    rcases HQ3.out with h | h <;> rw [h] <;> rfl
  · rw [HQ1.out]
    exact (own_six HOW2.out HNE.out).alloc _
  · exact (below_six hB2.out (Nat.le_refl _)).alloc (Nat.le_of_lt (by simpa using hlt)) _
end
end Go.Proofs.Ytiggcpfmmgmncaa
