import Derived.Test.YtiggcpfmmgmncaaSp01
import Derived.Test.YtiggcpfmmgmncaaSp20
import Derived.Test.YtiggcpfmmgmncaaSp17
section
namespace Go.Proofs.Ytiggcpfmmgmncaa
open Go.ChangeShapes Go.WideShapes Go.ChangeAt Go.RowKit
set_option linter.unusedVariables false
set_option linter.unusedSimpArgs false

theorem own_kept_types {w w' : World} {B B' e e' s s' : Nat} {v v' : Value} {n n' : Nat} {xs ys : List Value} (hne : e ≠ e') (h : w.ownsRow B e s v n xs) (ho : w.ownsRow B' e' s' v' n' ys) (hg : w.grownBy w' v'.ownBlock) : w'.ownsRow B e s v n xs := by
  refine h.kept hg ?_
  rcases h.2 with ⟨rfl, _⟩ | ⟨g, cap, cur, rfl, _, hh, _⟩
  · exact .inl rfl
  · right
    rcases ho.2 with ⟨rfl, _⟩ | ⟨g', cap', cur', rfl, _, hh', _⟩
    · simp [Value.ownBlock]
    · simp only [Value.ownBlock, ne_eq, Option.some.injEq]
      intro e
      subst e
      rw [hh] at hh'
      injection hh' with hh'
      injection hh' with _ e
      exact absurd e hne
end Go.Proofs.Ytiggcpfmmgmncaa
end
section
namespace Go.Proofs.Ytiggcpfmmgmncaa
open Go.ChangeShapes Go.WideShapes Go.ChangeAt Go.RowKit
set_option linter.unusedVariables false
set_option linter.unusedSimpArgs false

def Nob (w : World) (p : Option Addr) : Prop := p = none ∨ ∃ b, p = some ⟨b, 0, none⟩ ∧ w.heap[b]? = some (.cells #[.bool false, .bool false, .int .i64 0, .slice none 0 0, .slice none 0 0, .int .i64 0] 71 (0, 0))
theorem Nob.below {w w' : World} {p : Option Addr} (h : Nob w p) (hb : Below w.heap.size w w') : Nob w' p := by
  rcases h with h | ⟨b, h1, h2⟩
  · exact .inl h
  · exact .inr ⟨b, h1, by rw [hb.block b (Array.getElem?_eq_some_iff.1 h2).1]; exact h2⟩
def OwnR (B : Nat) (w : World) (S : List (RowS Nat)) : Prop := ∀ s ∈ S, w.ownsRow B 5 1 (.slice s.A s.l.length s.c) s.l.length (by8 s.l)
theorem OwnR.below {B : Nat} {w w' : World} {S : List (RowS Nat)} (h : OwnR B w S) (hb : Below w.heap.size w w') : OwnR B w' S := fun s hs => own_below (h s hs) hb
theorem OwnR.chg {B b g : Nat} {w w' : World} {S : List (RowS Nat)} (h : OwnR B w S) {kc : Nat} {K : Option Addr} {d : Dv} {B2 : Nat} (hd : DrA B2 w b g K kc d) (hc : Chg2 b g w w') : OwnR B w' S := fun s hs => by
  obtain ⟨h1, h2⟩ := hd.off (h s hs) (by decide) (by decide)
  exact hc.own (h s hs) h1 h2
theorem OwnR.slf {B b g : Nat} {w : World} {S : List (RowS Nat)} (h : OwnR B w S) {kc : Nat} {K : Option Addr} {d : Dv} {B2 : Nat} (hd : DrA B2 w b g K kc d) : ∀ r ∈ S, SlF w b g r.A (by8 r.l) := fun r hr => by
  obtain ⟨h1, h2⟩ := hd.off (h r hr) (by decide) (by decide)
  exact SlF.of_own (h r hr) h1 h2
end Go.Proofs.Ytiggcpfmmgmncaa
end
section
namespace Go.Proofs.Ytiggcpfmmgmncaa
open Go.ChangeShapes Go.WideShapes Go.ChangeAt Go.RowKit
set_option linter.unusedVariables false
set_option linter.unusedSimpArgs false

theorem rd_nt' {w : World} {r : List Value} (h : Go.Proofs.Ytiggcpfmmgmncaa.Rd w (.int .i64) r) : ∃ g : Nt, r = g.cells ∧ True := by
  obtain ⟨n, rfl, hn⟩ := h
  exact ⟨⟨n⟩, rfl, trivial⟩
theorem putK_or {torn : Bool} {keep : List Nt} {p : Nat} {cs S : List (List Nat)} : ∀ (k : Nat), k ≤ cs.length → ∀ i, (putK torn keep p cs k S)[i]? = S[i]? ∨ (p ≤ i ∧ i < p + k ∧ (i < S.length → (putK torn keep p cs k S)[i]? = cs[i - p]?))
  | 0, _, i => .inl rfl
  | k + 1, hk, i => by
    have ih := putK_or (torn := torn) (keep := keep) (p := p) (cs := cs) (S := S) k (by omega) i
    rw [putK]
    split
    · by_cases e : p + k = i
      · subst e
        refine .inr ⟨by omega, by omega, fun hi => ?_⟩
        rw [List.getElem?_set_self (by rw [putK_len]; exact hi), show p + k - p = k by omega, List.getD_eq_getElem?_getD, List.getElem?_eq_getElem (by omega)]; rfl
      · rw [List.getElem?_set_ne e]
        rcases ih with h | ⟨h1, h2, h3⟩
        · exact .inl h
        · exact .inr ⟨h1, by omega, h3⟩
    · rcases ih with h | ⟨h1, h2, h3⟩
      · exact .inl h
      · exact .inr ⟨h1, by omega, h3⟩
theorem putK_in {keep : List Nt} {p : Nat} {cs S : List (List Nat)} : ∀ (k : Nat), k ≤ cs.length → ∀ i, p ≤ i → i < p + k → i < S.length → (putK false keep p cs k S)[i]? = cs[i - p]?
  | 0, _, i, h1, h2, _ => absurd h2 (by omega)
  | k + 1, hk, i, h1, h2, h3 => by
    rw [putK, if_pos (show (!false || inL (k : Int) keep) = true from rfl)]
    by_cases e : p + k = i
    · subst e
      rw [List.getElem?_set_self (by rw [putK_len]; exact h3), show p + k - p = k by omega, List.getD_eq_getElem?_getD, List.getElem?_eq_getElem (by omega)]; rfl
    · rw [List.getElem?_set_ne e]
      exact putK_in k (by omega) i h1 (by omega) h3
def RowsF (w : World) (b g : Nat) (A : Option Addr) (S : List (RowS Nat)) : Prop := SlF w b g A (rc RowS.cells S) ∧ ∀ r ∈ S, SlF w b g r.A (by8 r.l)
theorem RowsF.chg {w w1 : World} {b g : Nat} {A : Option Addr} {S : List (RowS Nat)} (h : RowsF w b g A S) (hc : Chg2 b g w w1) : RowsF w1 b g A S := ⟨h.1.chg hc, fun r hr => (h.2 r hr).chg hc⟩
theorem RowsF.below {w w1 : World} {b g : Nat} {A : Option Addr} {S : List (RowS Nat)} (h : RowsF w b g A S) (hc : Below w.heap.size w w1) : RowsF w1 b g A S := ⟨h.1.below hc, fun r hr => (h.2 r hr).below hc⟩
theorem RowsF.of_own {w : World} {b g B base base2 kc c : Nat} {K A : Option Addr} {d : Dv} {S : List (RowS Nat)} (hd : DrA B w b g K kc d) (ho : w.ownsRow base 36 1 (.slice A S.length c) S.length (rc RowS.cells S)) (hr : OwnR base2 w S) : RowsF w b g A S := by
  obtain ⟨x1, x2⟩ := hd.off ho (by decide) (by decide)
  exact ⟨SlF.of_own ho x1 x2, fun r h => hr.slf hd r h⟩
end Go.Proofs.Ytiggcpfmmgmncaa
end
section
namespace Go.Proofs.Ytiggcpfmmgmncaa
open Go.ChangeShapes Go.WideShapes Go.ChangeAt Go.RowKit
set_option linter.unusedVariables false
set_option linter.unusedSimpArgs false

def frB (b : List Nat) : Option Fr := if (decF b).2 = 0 then some (decF b).1 else none
def frD (S : List (List Nat)) (i : Int) : Option Fr := if 0 ≤ i ∧ i < (S.length : Int) then frB (S.getD i.toNat []) else none
def takeF (S : List (List Nat)) (i : Int) : Nat → Option (List Fr)
  | 0 => some []
  | k + 1 => match takeF S i k with
    | none => none
    | some l => match frD S (i + (k : Int)) with
      | none => none
      | some f => some (l ++ [f])
def readF (S : List (List Nat)) (i tt : Int) : Option (List Nat × Fr) :=
  if tt ≤ i then none else match frD S i with
    | none => none
    | some f => if tt - i < f.parts then none else match takeF S i f.parts.toNat with
      | none => none
      | some l => if (joinF l).2 = true then some ((joinF l).1, f) else none
theorem frB_ok {b : List Nat} {f : Fr} (h : frB b = some f) : f.ok = true ∧ (decF b) = (f, 0) := by
  unfold frB at h
  split at h
  · rename_i h0
    injection h with h
    unfold decF at *
    split at h0
    · rename_i h1
      rw [if_pos h1] at h
      subst h
      exact ⟨h1.2.1, if_pos h1⟩
    · exact absurd h0 (by decide)
  · cases h
theorem frB_enc {f : Fr} (h : f.ok = true) : frB (sealed f.body) = some f := by
  have := dec_enc h
  rw [encF, if_pos h] at this
  unfold frB
  rw [this]; rfl
theorem frD_some {S : List (List Nat)} {i : Int} {f : Fr} (h : frD S i = some f) : 0 ≤ i ∧ i < (S.length : Int) ∧ frB (S.getD i.toNat []) = some f ∧ f.ok = true := by
  unfold frD at h
  split at h
  · rename_i h1
    exact ⟨h1.1, h1.2, h, (frB_ok h).1⟩
  · cases h
theorem frD_at {S : List (List Nat)} {k : Nat} (h : k < S.length) : frD S (k : Int) = frB S[k] := by
  unfold frD
  rw [if_pos ⟨by omega, by omega⟩, Int.toNat_natCast, List.getD_eq_getElem?_getD, List.getElem?_eq_getElem h]; rfl
theorem frD_eq {S T : List (List Nat)} (hl : S.length = T.length) {i : Int} (h : S[i.toNat]? = T[i.toNat]?) : frD S i = frD T i := by
  unfold frD
  rw [hl, List.getD_eq_getElem?_getD, List.getD_eq_getElem?_getD, h]
theorem takeF_iff {S : List (List Nat)} {i : Int} : ∀ {k : Nat} {l : List Fr}, takeF S i k = some l ↔ l.length = k ∧ ∀ j : Nat, j < k → frD S (i + (j : Int)) = l[j]?
  | 0, l => by
    unfold takeF
    constructor
    · intro h; injection h with h; subst h; exact ⟨rfl, fun j hj => absurd hj (by omega)⟩
    · rintro ⟨h, _⟩; rw [List.eq_nil_of_length_eq_zero h]
  | k + 1, l => by
    unfold takeF
    constructor
    · intro h
      split at h
      · cases h
      · rename_i l0 h0
        split at h
        · cases h
        · rename_i f hf
          injection h with h
          subst h
          obtain ⟨h1, h2⟩ := takeF_iff.1 h0
          refine ⟨by simp [h1], fun j hj => ?_⟩
          by_cases e : j = k
          · subst e; rw [hf, List.getElem?_append_right (by omega), h1]; simp
          · rw [h2 j (by omega), List.getElem?_append_left (by omega)]
    · rintro ⟨h1, h2⟩
      have hk : k < l.length := by omega
      have h0 : takeF S i k = some (l.take k) := takeF_iff.2 ⟨by simp; omega, fun j hj => by rw [h2 j (by omega), List.getElem?_take, if_pos hj]⟩
      have hf := h2 k (by omega)
      rw [List.getElem?_eq_getElem hk] at hf
      rw [h0]
      simp only [hf]
      rw [← take_snoc l k hk, List.take_of_length_le (by omega)]
theorem joinF_all {l : List Fr} (h : (joinF l).2 = true) : ∃ f0, l[0]? = some f0 ∧ ((l.length : Nat) : Int) = f0.parts ∧ ∀ (j : Nat) (f : Fr), l[j]? = some f → goodJ f0 l.length j f = true := by
  cases l with
  | nil => cases h
  | cons f l =>
    unfold joinF at h
    by_cases hc : (decide ((((f :: l).length : Nat) : Int) = f.parts) && allJ f (f :: l).length 0 (f :: l)) = true
    · rw [Bool.and_eq_true, decide_eq_true_eq] at hc
      refine ⟨f, rfl, hc.1, fun j g hg => ?_⟩
      have := (allJ_iff f (f :: l).length (f :: l) 0).1 hc.2
      obtain ⟨hj, e⟩ := List.getElem?_eq_some_iff.1 hg
      have h2 := this j hj
      rw [Nat.zero_add, e] at h2
      exact h2
    · have e : (if (decide ((((f :: l).length : Nat) : Int) = f.parts) && allJ f (f :: l).length 0 (f :: l)) = true then (dataJ (f :: l), true) else (([] : List Nat), false)) = ([], false) := if_neg hc
      have h2 : (([] : List Nat), false).2 = true := by rw [← e]; exact h
      cases h2
theorem readF_iff {S : List (List Nat)} {i tt : Int} {b : List Nat} {f : Fr} : readF S i tt = some (b, f) ↔ i < tt ∧ frD S i = some f ∧ f.parts ≤ tt - i ∧ ∃ l, takeF S i f.parts.toNat = some l ∧ joinF l = (b, true) := by
  unfold readF
  constructor
  · intro h
    split at h
    · cases h
    · split at h
      · cases h
      · rename_i g hg
        split at h
        · cases h
        · split at h
          · cases h
          · rename_i l hl
            split at h
            · rename_i hj
              injection h with h
              injection h with h1 h2
              subst h2
              exact ⟨by omega, hg, by omega, l, hl, by rw [← h1, ← hj]⟩
            · cases h
  · rintro ⟨h1, h2, h3, l, h4, h5⟩
    rw [if_neg (by omega), h2]
    simp only
    rw [if_neg (by omega), h4]
    simp only
    rw [h5]; rfl
theorem readF_life {S : List (List Nat)} {i tt : Int} {b : List Nat} {f : Fr} (h : readF S i tt = some (b, f)) : ∀ j : Nat, (j : Int) < f.parts → ∃ g, frD S (i + (j : Int)) = some g ∧ g.life = f.life := by
  obtain ⟨h1, h2, h3, l, h4, h5⟩ := readF_iff.1 h
  obtain ⟨ll, hl⟩ := takeF_iff.1 h4
  obtain ⟨f0, e0, e1, e2⟩ := joinF_all (by rw [h5])
  have hok := (Fr.ok_iff f).1 (frD_some h2).2.2.2
  have hf0 : f0 = f := by
    have := hl 0 (by omega)
    rw [e0, show i + ((0 : Nat) : Int) = i by omega, h2] at this
    exact (Option.some.inj this).symm
  subst hf0
  intro j hj
  have hjl : j < l.length := by omega
  refine ⟨l[j], ?_, ?_⟩
  · rw [hl j (by omega), List.getElem?_eq_getElem hjl]
  · have := e2 j l[j] (List.getElem?_eq_getElem hjl)
    unfold goodJ at this
    simp only [Bool.and_eq_true, decide_eq_true_eq] at this
    exact this.2.1.1
theorem readF_same {S T : List (List Nat)} (hl : S.length = T.length) {i tt : Int} {f : Fr} (hf : frD S i = some f) (h : ∀ j : Nat, (j : Int) < f.parts → frD S (i + (j : Int)) = frD T (i + (j : Int))) : readF S i tt = readF T i tt := by
  have hok := (Fr.ok_iff f).1 (frD_some hf).2.2.2
  have h0 := h 0 (by omega)
  rw [show i + ((0 : Nat) : Int) = i by omega] at h0
  have ht : takeF S i f.parts.toNat = takeF T i f.parts.toNat := by
    have key : ∀ k : Nat, (k : Int) ≤ f.parts → takeF S i k = takeF T i k := by
      intro k
      induction k with
      | zero => intro _; rfl
      | succ k ih => intro hk; unfold takeF; rw [ih (by omega), h k (by omega)]
    exact key _ (by omega)
  unfold readF
  rw [← h0, hf]
  simp only [ht]
theorem readF_new {S : List (List Nat)} {P n : Nat} {tt life era seq : Int} {b : List Nat} (hn : partsN b.length = n) (hb : n ≤ 255) (hok : (piece life era seq b n 0).ok = true) (hP : P + n ≤ S.length) (hto : ((P + n : Nat) : Int) ≤ tt)
    (h : ∀ j, j < n → S[P + j]? = some (sealed (piece life era seq b n j).body)) : readF S P tt = some (b, piece life era seq b n 0) := by
  have hp := partsN_pos b.length
  have hfr : ∀ j : Nat, j < n → frD S ((P : Int) + (j : Int)) = some (piece life era seq b n j) := fun j hj => by
    have hlt : P + j < S.length := by omega
    have e := h j hj
    rw [List.getElem?_eq_getElem hlt] at e
    rw [show (P : Int) + (j : Int) = ((P + j : Nat) : Int) by omega, frD_at hlt, Option.some.inj e]
    exact frB_enc ((piece_ok hj hb).trans hok)
  refine readF_iff.2 ⟨by omega, by simpa using hfr 0 (by omega), by show (n : Int) ≤ tt - (P : Int); omega, piecesF life era seq b n n, ?_, join_pieces hn hb hok⟩
  show takeF S P ((n : Int)).toNat = _
  rw [Int.toNat_natCast]
  refine takeF_iff.2 ⟨piecesF_len _ _ _ _ _ _, fun j hj => ?_⟩
  rw [hfr j hj, piecesF, List.getElem?_map, List.getElem?_range hj]; rfl
theorem readF_torn {S T : List (List Nat)} (hl : T.length = S.length) {P n : Nat} {tt life era seq : Int} {b : List Nat} (hn : partsN b.length = n) (hb : n ≤ 255) (hok : (piece life era seq b n 0).ok = true) (hP : P + n ≤ S.length) (hto : ((P + n : Nat) : Int) ≤ tt)
    (h : ∀ i, T[i]? = S[i]? ∨ (P ≤ i ∧ i < P + n ∧ T[i]? = some (sealed (piece life era seq b n (i - P)).body)))
    (hlow : ∀ (i : Nat) (f : Fr), P ≤ i → i < P + n → frD S i = some f → f.life < life) : readF T P tt = some (b, piece life era seq b n 0) ∨ readF T P tt = none ∨ readF T P tt = readF S P tt := by
  have hp := partsN_pos b.length
  have hnew : ∀ j : Nat, j < n → T[P + j]? = some (sealed (piece life era seq b n j).body) → frD T ((P : Int) + (j : Int)) = some (piece life era seq b n j) := fun j hj e => by
    have hlt : P + j < T.length := by omega
    rw [List.getElem?_eq_getElem hlt] at e
    rw [show (P : Int) + (j : Int) = ((P + j : Nat) : Int) by omega, frD_at hlt, Option.some.inj e]
    exact frB_enc ((piece_ok hj hb).trans hok)
  have hold : ∀ i : Nat, T[i]? = S[i]? → frD T (i : Int) = frD S (i : Int) := fun i e => frD_eq hl (by simpa using e)
  cases hr : readF T P tt with
  | none => exact .inr (.inl rfl)
  | some bf =>
    obtain ⟨b', f'⟩ := bf
    have hlife := readF_life hr
    obtain ⟨h1, h2, h3, l, h4, h5⟩ := readF_iff.1 hr
    have hok' := (Fr.ok_iff f').1 (frD_some h2).2.2.2
    rcases h P with e | ⟨_, _, e⟩
    · refine .inr (.inr ?_)
      rw [← hr]
      refine readF_same hl h2 fun j hj => ?_
      rcases h (P + j) with e2 | ⟨_, hj2, e2⟩
      · rw [show (P : Int) + (j : Int) = ((P + j : Nat) : Int) by omega]
        exact hold _ e2
      · exfalso
        obtain ⟨g, hg, hgl⟩ := hlife j hj
        rw [show P + j - P = j by omega] at e2
        rw [hnew j (by omega) e2] at hg
        have hP2 : frD S (P : Int) = some f' := by rw [← hold P e]; exact h2
        have := hlow P f' (Nat.le_refl _) (by omega) hP2
        have hg2 := Option.some.inj hg
        rw [← hg2] at hgl
        have : (piece life era seq b n j).life = life := rfl
        omega
    · left
      rw [Nat.sub_self] at e
      have hf0 : f' = piece life era seq b n 0 := by
        have := hnew 0 (by omega) e
        rw [show (P : Int) + ((0 : Nat) : Int) = (P : Int) by omega, h2] at this
        exact Option.some.inj this
      subst hf0
      rw [← hr]
      refine readF_new hn hb hok (by omega) hto fun j hj => ?_
      rcases h (P + j) with e2 | ⟨_, hj2, e2⟩
      · exfalso
        obtain ⟨g, hg, hgl⟩ := hlife j (by show (j : Int) < (n : Int); omega)
        rw [show (P : Int) + (j : Int) = ((P + j : Nat) : Int) by omega, hold _ e2] at hg
        have := hlow (P + j) g (by omega) (by omega) hg
        have h9 : (piece life era seq b n 0).life = life := rfl
        omega
      · rw [show P + j - P = j by omega] at e2
        exact e2
end Go.Proofs.Ytiggcpfmmgmncaa
end
