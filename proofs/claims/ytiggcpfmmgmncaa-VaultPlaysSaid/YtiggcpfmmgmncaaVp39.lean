import Derived.Test.YtiggcpfmmgmncaaVp35
import Derived.Test.YtiggcpfmmgmncaaVp37
import Derived.Test.YtiggcpfmmgmncaaVp38
set_option maxHeartbeats 16000000
set_option maxRecDepth 100000
set_option linter.unusedVariables false
set_option linter.unusedSimpArgs false
namespace Go.Proofs.Ytiggcpfmmgmncaa
open Go.ChangeShapes Go.WideShapes Go.ChangeAt Go.RowKit
section
def Vv.rcomp (x : Vv) (X : Rv) (l : List Nat) : (Vv × Rv) × Int :=
  if x.dead = true ∨ X.off = true then ((x, X), 9)
  else if 16777214 ≤ x.life then ((x, X), 10)
  else if (X.save 0 x.each x.life (x.era + 1) l).2 ≠ 0 then (({ x with dead := (X.save 0 x.each x.life (x.era + 1) l).2 == 9 }, (X.save 0 x.each x.life (x.era + 1) l).1), (X.save 0 x.each x.life (x.era + 1) l).2)
  else (({ x with life := x.life + 1, era := x.era + 1, state := l, sc := openS (X.save 0 x.each x.life (x.era + 1) l).1.C x.each (x.life + 1) (x.era + 1) }, (X.save 0 x.each x.life (x.era + 1) l).1), 0)
theorem save_off9 {d : Dv} {p each : Nat} {life era : Int} {l : List Nat} (h : d.on = false) : (d.save p each life era l).2 ≠ 0 := by
  unfold Dv.save
  split
  · exact (by decide : (2 : Int) ≠ 0)
  · split
    · assumption
    · split
      · exact (by decide : (10 : Int) ≠ 0)
      · unfold Dv.write
        rw [if_neg (by rw [h]; decide)]
        exact (by decide : (9 : Int) ≠ 0)
theorem torn_low2 {S T : List (List Nat)} {P n : Nat} {life era seq M E : Int} {b : List Nat} (hall : ∀ (i : Int) (f : Fr), frD S i = some f → f.life ≤ M ∧ f.era ≤ E) (hM : life ≤ M) (hE : era ≤ E) (hb : n ≤ 255) (hok : (piece life era seq b n 0).ok = true) (ht : Torn8 S T P n life era seq b) :
    ∀ (i : Int) (f : Fr), frD T i = some f → f.life ≤ M ∧ f.era ≤ E := fun i f hf => by
  obtain ⟨h0, h1, h2, _⟩ := frD_some hf
  obtain ⟨k, rfl⟩ : ∃ k : Nat, i = (k : Int) := ⟨i.toNat, by omega⟩
  rcases ht.2 k with e | ⟨e1, e2, e3⟩
  · rw [frD_eq ht.1 (by simpa using e)] at hf
    exact hall _ _ hf
  · have hk : k < T.length := by omega
    rw [List.getElem?_eq_getElem hk] at e3
    rw [frD_at hk, Option.some.inj e3, frB_enc ((piece_ok (by omega) (by omega)).trans hok)] at hf
    have := Option.some.inj hf
    rw [← this]
    exact ⟨hM, hE⟩
theorem standF_era {S : List (List Nat)} {p each odd : Nat} {m E : Int} {l : List Nat} (hall : ∀ (i : Int) (f : Fr), frD S i = some f → f.era ≤ E) (h : standF S p each odd = some (m, l)) : m ≤ E := by
  unfold standF at h
  split at h
  · cases h
  · rename_i b f hr
    split at h
    · injection h with h
      injection h with h1 h2
      subst h1
      exact hall _ _ (readF_iff.1 hr).2.1
    · cases h
theorem loadS_era {S : List (List Nat)} {p each : Nat} {E : Int} (hE : 0 ≤ E) (hall : ∀ (i : Int) (f : Fr), frD S i = some f → f.era ≤ E) : (loadS S p each).1 ≤ E := by
  unfold loadS
  cases h0 : standF S p each 0 with
  | none =>
    cases h1 : standF S p each 1 with
    | none => exact hE
    | some q => obtain ⟨n, k⟩ := q; exact standF_era hall h1
  | some q =>
    obtain ⟨m, l⟩ := q
    cases h1 : standF S p each 1 with
    | none => exact standF_era hall h0
    | some q =>
      obtain ⟨n, k⟩ := q
      simp only
      split
      · exact standF_era hall h1
      · exact standF_era hall h0
theorem Sc.app_keep {x : Sc} {d : Dv} {l : List Nat} {M E : Int} (ht : x.t ≤ d.S.length) (hall : ∀ (i : Int) (f : Fr), frD d.S i = some f → f.life ≤ M ∧ f.era ≤ E) (hM : x.life ≤ M) (hE : x.era ≤ E) :
    (x.app d l).1.1.t = x.t ∧ (x.app d l).1.1.life = x.life ∧ (x.app d l).1.1.era = x.era ∧ (x.app d l).1.2.S.length = d.S.length ∧ (∀ (i : Int) (f : Fr), frD (x.app d l).1.2.S i = some f → f.life ≤ M ∧ f.era ≤ E) ∧ (x.app d l).1.1.L.length ≤ x.L.length + 1 ∧ ∀ b ∈ (x.app d l).1.1.L, b ∈ x.L ∨ b = l := by
  by_cases hd : x.dead = true ∨ d.on = false
  · have e : x.app d l = ((x, d), 9) := by unfold Sc.app; rw [if_pos hd]
    rw [e]
    exact ⟨rfl, rfl, rfl, rfl, hall, Nat.le_succ _, fun b hb => .inl hb⟩
  · by_cases hcz : (cutF x.life x.era ((x.L.length + 1 : Nat) : Int) l).2 ≠ 0
    · have e : x.app d l = ((x, d), (cutF x.life x.era ((x.L.length + 1 : Nat) : Int) l).2) := by unfold Sc.app; rw [if_neg hd, if_pos hcz]
      rw [e]
      exact ⟨rfl, rfl, rfl, rfl, hall, Nat.le_succ _, fun b hb => .inl hb⟩
    · have hcz0 : (cutF x.life x.era ((x.L.length + 1 : Nat) : Int) l).2 = 0 := Classical.not_not.1 hcz
      by_cases hroom : (x.t : Int) - (x.f : Int) - (x.used : Int) < (((cutF x.life x.era ((x.L.length + 1 : Nat) : Int) l).1.length : Nat) : Int)
      · have e : x.app d l = ((x, d), 10) := by unfold Sc.app; rw [if_neg hd, if_neg hcz, if_pos hroom]
        rw [e]
        exact ⟨rfl, rfl, rfl, rfl, hall, Nat.le_succ _, fun b hb => .inl hb⟩
      · have hon : d.on = true := by cases hh : d.on <;> simp_all
        have hfit : (x.f + x.used) + (cutF x.life x.era ((x.L.length + 1 : Nat) : Int) l).1.length ≤ d.S.length := by omega
        obtain ⟨n, hn, hb, hok, hlen, ht2, _⟩ := write_torn8 hon hcz0 hfit
        have hall2 := torn_low2 hall hM hE hb hok ht2
        cases htr : d.torn with
        | true =>
          have e : x.app d l = (({ x with dead := true }, (d.write ((x.f + x.used : Nat) : Int) (cutF x.life x.era ((x.L.length + 1 : Nat) : Int) l).1).1), 9) := by unfold Sc.app; rw [if_neg hd, if_neg hcz, if_neg hroom, if_pos htr]
          rw [e]
          exact ⟨rfl, rfl, rfl, ht2.1, hall2, Nat.le_succ _, fun b hb => .inl hb⟩
        | false =>
          have e : x.app d l = ((x.add l (cutF x.life x.era ((x.L.length + 1 : Nat) : Int) l).1.length, (d.write ((x.f + x.used : Nat) : Int) (cutF x.life x.era ((x.L.length + 1 : Nat) : Int) l).1).1), 0) := by unfold Sc.app; rw [if_neg hd, if_neg hcz, if_neg hroom, if_neg (by rw [htr]; decide)]
          rw [e]
          refine ⟨rfl, rfl, rfl, ht2.1, hall2, ?_, fun b hb => ?_⟩
          · show (x.L ++ [l]).length ≤ _; rw [List.length_append, List.length_singleton]; exact Nat.le_refl _
          · rcases List.mem_append.1 hb with hb | hb
            · exact .inl hb
            · exact .inr (List.mem_singleton.1 hb)
theorem Rel.save {d : Dv} {X : Rv} (h : Rel d X) (hon : d.on = true) {p each : Nat} {life era : Int} {l : List Nat} (hp : p + 2 * each ≤ d.S.length) : (d.save p each life era l).2 = (X.save p each life era l).2 ∧ Rel (d.save p each life era l).1 (X.save p each life era l).1 := by
  unfold Dv.save Rv.save
  rw [h.C]
  by_cases h1 : era ≤ (loadS d.S p each).1
  · rw [if_pos h1, if_pos h1]; exact ⟨rfl, h⟩
  · rw [if_neg h1, if_neg h1]
    by_cases h2 : (cutF life era 1 l).2 ≠ 0
    · rw [if_pos h2, if_pos h2]; exact ⟨rfl, h⟩
    · rw [if_neg h2, if_neg h2]
      by_cases h3 : (each : Int) < ((cutF life era 1 l).1.length : Int)
      · rw [if_pos h3, if_pos h3]; exact ⟨rfl, h⟩
      · rw [if_neg h3, if_neg h3]
        have h20 := Classical.not_not.1 h2
        have hm : era.toNat % 2 * each ≤ 1 * each := Nat.mul_le_mul_right _ (by omega)
        exact h.write hon (cut_fits h20 (by omega)) (cut_pos h20)
theorem Dv.save_keep {d : Dv} (hon : d.on = true) {p each : Nat} {life era M E : Int} {l : List Nat} (hp : p + 2 * each ≤ d.S.length) (hall : ∀ (i : Int) (f : Fr), frD d.S i = some f → f.life ≤ M ∧ f.era ≤ E) (hM : life ≤ M) (hE : era ≤ E) :
    (d.save p each life era l).1.S.length = d.S.length ∧ ∀ (i : Int) (f : Fr), frD (d.save p each life era l).1.S i = some f → f.life ≤ M ∧ f.era ≤ E := by
  unfold Dv.save
  by_cases h1 : era ≤ (loadS d.S p each).1
  · rw [if_pos h1]; exact ⟨rfl, hall⟩
  · rw [if_neg h1]
    by_cases h2 : (cutF life era 1 l).2 ≠ 0
    · rw [if_pos h2]; exact ⟨rfl, hall⟩
    · rw [if_neg h2]
      by_cases h3 : (each : Int) < ((cutF life era 1 l).1.length : Int)
      · rw [if_pos h3]; exact ⟨rfl, hall⟩
      · rw [if_neg h3]
        have h20 := Classical.not_not.1 h2
        have hm : era.toNat % 2 * each ≤ 1 * each := Nat.mul_le_mul_right _ (by omega)
        obtain ⟨n, hn, hb, hok, hlen, ht2, _⟩ := write_torn8 (P := p + era.toNat % 2 * each) hon h20 (by omega)
        exact ⟨ht2.1, torn_low2 hall hM hE hb hok ht2⟩
structure VP (d : Dv) (x : Vv) (X : Rv) (e k : Nat) : Prop where
  rel : Rel d X
  len : d.S.length ≤ 40
  each : x.each = e ∧ 1 ≤ e ∧ 2 * e < d.S.length
  t : x.sc.t = d.S.length
  life : 1 ≤ x.life ∧ x.life ≤ (k : Int) + 1 ∧ x.sc.life = x.life
  era : 0 ≤ x.era ∧ x.era ≤ (k : Int) ∧ x.sc.era = x.era
  st0 : x.era = 0 → x.state = []
  stl : x.state.length ≤ 20400
  all : ∀ (i : Int) (f : Fr), frD d.S i = some f → f.life ≤ x.life ∧ f.era ≤ (k : Int)
  n : x.sc.L.length ≤ 40 + k
  lens : ∀ b ∈ x.sc.L, b.length ≤ 20400
section
variable {d : Dv} {x : Vv} {X : Rv} {e k : Nat}
theorem VP.C (h : VP d x X e k) : X.C = d.S := h.rel.C
theorem VP.up (h : VP d x X e k) : VP d x X e (k + 1) := ⟨h.rel, h.len, h.each, h.t, ⟨h.life.1, by have := h.life.2.1; omega, h.life.2.2⟩, ⟨h.era.1, by have := h.era.2.1; omega, h.era.2.2⟩, h.st0, h.stl, fun i f hf => by have := h.all i f hf; omega, by have := h.n; omega, h.lens⟩
theorem VP.newest (h : VP d x X e k) (f m : Nat) : newestN d.S f m ≤ x.life := newest_le (by have := h.life; omega) (fun i f hf => (h.all i f hf).1) f m
theorem VP.fuse (h : VP d x X e k) (n : Int) (l : List Nt) (hn : n ≤ 9223372036854775807) : (d.fuse n l).2 = (X.fused n l).2 ∧ VP (d.fuse n l).1 x (X.fused n l).1 e k := by
  obtain ⟨h1, h2⟩ := h.rel.fuse n l hn
  have hS : (d.fuse n l).1.S = d.S := by
    unfold Dv.fuse
    split
    · split <;> rfl
    · rfl
  exact ⟨h1, h2, by rw [hS]; exact h.len, by rw [hS]; exact h.each, by rw [hS]; exact h.t, h.life, h.era, h.st0, h.stl, fun i f hf => h.all i f (by rw [hS] at hf; exact hf), h.n, h.lens⟩
theorem openV_keep {S : List (List Nat)} {M E : Int} {e : Nat} (hl : S.length ≤ 40) (hM : 0 ≤ M) (hE : 0 ≤ E) (h2 : 2 * e < S.length) (hall : ∀ (i : Int) (f : Fr), frD S i = some f → f.life ≤ M ∧ f.era ≤ E) :
    1 ≤ (openV S e).life ∧ (openV S e).life ≤ M + 1 ∧ 0 ≤ (openV S e).era ∧ (openV S e).era ≤ E ∧ (∀ (i : Int) (f : Fr), frD S i = some f → f.life ≤ (openV S e).life ∧ f.era ≤ E) ∧ (openV S e).sc.L.length ≤ 40 ∧ (∀ b ∈ (openV S e).sc.L, b.length ≤ 20400) ∧ ((openV S e).era = 0 → (openV S e).state = []) ∧ (openV S e).state.length ≤ 20400 := by
  have hnb := newestN_bd S 0 S.length
  have hnM := newest_le hM (fun i f hf => (hall i f hf).1) 0 S.length
  have hld := loadS_bd S 0 e
  have hb := scan_bd (S := S) (t := S.length) (era := (loadS S 0 e).1) (q := 2 * e) (n := 0) (life := 0)
  refine ⟨?_, ?_, hld.1, loadS_era hE (fun i f hf => (hall i f hf).2), fun i f hf => ⟨?_, (hall i f hf).2⟩, ?_, scan_lens, hld.2.2.2, hld.2.2.1⟩
  · show 1 ≤ newestN S 0 S.length + 1; omega
  · show newestN S 0 S.length + 1 ≤ M + 1; omega
  · have := newest_all i f hf
    show f.life ≤ newestN S 0 S.length + 1; omega
  · show (scan S S.length (loadS S 0 e).1 (2 * e) 0 0).1.length ≤ 40; omega
theorem VP.open (h : VP d x X e k) : VP d.fresh (openV d.S e) { X with off := false, fuse := -1 } e (k + 1) := by
  obtain ⟨a1, a2, a3, a4, a5, a6, a7, a8, a9⟩ := openV_keep (e := e) h.len (by have := h.life; omega) (by have := h.era; omega) h.each.2.2 h.all
  exact ⟨h.rel.start, h.len, ⟨rfl, h.each.2⟩, rfl, ⟨a1, by have := h.life.2.1; omega, rfl⟩, ⟨a3, by omega, rfl⟩, a8, a9, fun i f hf => by have := a5 i f hf; omega, by omega, a7⟩
theorem VP.new {n e : Nat} (hn : n ≤ 40) (he : 1 ≤ e) (h2 : 2 * e < n) : VP (Dv.new n) (openV (Dv.new n).S e) (Rv.new n) e 0 := by
  have hl : (Dv.new n).S.length = n := by simp [Dv.new]
  obtain ⟨a1, a2, a3, a4, a5, a6, a7, a8, a9⟩ := openV_keep (S := (Dv.new n).S) (M := 0) (E := 0) (e := e) (by rw [hl]; exact hn) (by decide) (by decide) (by rw [hl]; exact h2) (fun i f hf => by rw [frD_new] at hf; cases hf)
  exact ⟨Rel.new n, by rw [hl]; exact hn, ⟨rfl, he, by rw [hl]; exact h2⟩, rfl, ⟨a1, a2, rfl⟩, ⟨a3, a4, rfl⟩, a8, a9, a5, a6, a7⟩
theorem VP.app (h : VP d x X e k) {l : List Nat} (hl : l.length ≤ 250) : (x.rapp X l).2 = (x.app d l).2 ∧ (x.rapp X l).1.1 = (x.app d l).1.1 ∧ VP (x.app d l).1.2 (x.app d l).1.1 (x.rapp X l).1.2 e (k + 1) := by
  have hoff := h.rel.off
  by_cases hd : x.dead = true ∨ d.on = false
  · have hd2 : x.dead = true ∨ X.off = true := hd.imp id (fun h1 => by rw [hoff, h1]; rfl)
    have e1 : x.app d l = ((x, d), 9) := by unfold Vv.app; rw [if_pos hd]
    have e2 : x.rapp X l = ((x, X), 9) := by unfold Vv.rapp; rw [if_pos hd2]
    rw [e1, e2]
    exact ⟨rfl, rfl, h.up⟩
  · have hon : d.on = true := by cases hh : d.on <;> simp_all
    have hd2 : ¬ (x.dead = true ∨ X.off = true) := fun h1 => hd (h1.imp id (fun h2 => by rw [hoff, hon] at h2; cases h2))
    obtain ⟨r1, r2, r3⟩ := h.rel.app (y := x.sc) (l := l) (by rw [h.t]; exact Nat.le_refl _)
    have e1 : x.app d l = (({ x with sc := (x.sc.app d l).1.1, dead := (x.sc.app d l).2 == 9 }, (x.sc.app d l).1.2), (x.sc.app d l).2) := by unfold Vv.app; rw [if_neg hd]
    have e2 : x.rapp X l = (({ x with sc := (x.sc.rapp X l).1.1, dead := (x.sc.rapp X l).2 == 9 }, (x.sc.rapp X l).1.2), (x.sc.rapp X l).2) := by unfold Vv.rapp; rw [if_neg hd2]
    obtain ⟨b1, b2, b3, b4, b5, b6, b7⟩ := Sc.app_keep (l := l) (x := x.sc) (by rw [h.t]; exact Nat.le_refl _) h.all (by rw [h.life.2.2]; exact Int.le_refl _) (by rw [h.era.2.2]; exact h.era.2.1)
    rw [e1, e2]
    refine ⟨r1, by simp only [r1, r2], r3, by simp only; rw [b4]; exact h.len, ⟨h.each.1, h.each.2.1, by simp only; rw [b4]; exact h.each.2.2⟩, by simp only; rw [b1, b4]; exact h.t, ⟨h.life.1, by have := h.life.2.1; simp only; omega, by simp only; rw [b2]; exact h.life.2.2⟩, ⟨h.era.1, by have := h.era.2.1; simp only; omega, by simp only; rw [b3]; exact h.era.2.2⟩, h.st0, h.stl, fun i f hf => ?_, ?_, fun b hb => ?_⟩
    · have := b5 i f hf; simp only; omega
    · have := h.n; simp only; omega
    · rcases b7 b hb with h9 | h9
      · exact h.lens b h9
      · rw [h9]; omega
theorem VP.compact (h : VP d x X e k) {l : List Nat} (hl : l.length ≤ 250) : ((x.rcomp X l).2 = (x.compact d l).2 ∧ (x.rcomp X l).1.1 = (x.compact d l).1.1 ∧ VP (x.compact d l).1.2 (x.compact d l).1.1 (x.rcomp X l).1.2 e (k + 1)) ∧
    ((d.save 0 x.each x.life (x.era + 1) l).2 = 0 → newestN (d.save 0 x.each x.life (x.era + 1) l).1.S (2 * x.each) ((d.save 0 x.each x.life (x.era + 1) l).1.S.length - 2 * x.each) < x.life + 1) := by
  have hoff := h.rel.off
  have hp : 0 + 2 * x.each ≤ d.S.length := by have := h.each; omega
  have hk : ∀ (hon : d.on = true), (d.save 0 x.each x.life (x.era + 1) l).1.S.length = d.S.length ∧ ∀ (i : Int) (f : Fr), frD (d.save 0 x.each x.life (x.era + 1) l).1.S i = some f → f.life ≤ x.life ∧ f.era ≤ ((k + 1 : Nat) : Int) := fun hon =>
    Dv.save_keep hon hp (fun i f hf => by have := h.all i f hf; omega) (Int.le_refl _) (by have := h.era; omega)
  refine ⟨?_, fun h0 => ?_⟩
  · by_cases hd : x.dead = true ∨ d.on = false
    · have hd2 : x.dead = true ∨ X.off = true := hd.imp id (fun h1 => by rw [hoff, h1]; rfl)
      have e1 : x.compact d l = ((x, d), 9) := by unfold Vv.compact; rw [if_pos hd]
      have e2 : x.rcomp X l = ((x, X), 9) := by unfold Vv.rcomp; rw [if_pos hd2]
      rw [e1, e2]
      exact ⟨rfl, rfl, h.up⟩
    · have hon : d.on = true := by cases hh : d.on <;> simp_all
      have hd2 : ¬ (x.dead = true ∨ X.off = true) := fun h1 => hd (h1.imp id (fun h2 => by rw [hoff, hon] at h2; cases h2))
      have hdead : x.dead = false := by cases hh : x.dead <;> simp_all
      have e1 : x.compact d l = (({ (x.comp d l).1.1 with dead := (x.comp d l).2 == 9 }, (x.comp d l).1.2), (x.comp d l).2) := by unfold Vv.compact; rw [if_neg hd]
      obtain ⟨k1, k2⟩ := hk hon
      obtain ⟨s1, s2⟩ := h.rel.save hon (life := x.life) (era := x.era + 1) (l := l) hp
      by_cases hf : 16777214 ≤ x.life
      · have e3 : x.comp d l = ((x, d), 10) := by unfold Vv.comp; rw [if_pos hf]
        have e2 : x.rcomp X l = ((x, X), 10) := by unfold Vv.rcomp; rw [if_neg hd2, if_pos hf]
        rw [e1, e2, e3]
        have e4 : ({ x with dead := (10 : Int) == 9 } : Vv) = x := by cases x; simp only at hdead; subst hdead; rfl
        rw [e4]
        exact ⟨rfl, rfl, h.up⟩
      · by_cases hz : (d.save 0 x.each x.life (x.era + 1) l).2 ≠ 0
        · have e3 : x.comp d l = ((x, (d.save 0 x.each x.life (x.era + 1) l).1), (d.save 0 x.each x.life (x.era + 1) l).2) := by unfold Vv.comp; rw [if_neg hf, if_pos hz]
          have e2 : x.rcomp X l = (({ x with dead := (X.save 0 x.each x.life (x.era + 1) l).2 == 9 }, (X.save 0 x.each x.life (x.era + 1) l).1), (X.save 0 x.each x.life (x.era + 1) l).2) := by unfold Vv.rcomp; rw [if_neg hd2, if_neg hf, if_pos (by rw [← s1]; exact hz)]
          rw [e1, e2, e3]
          refine ⟨s1.symm, by simp only [s1], s2, by simp only; rw [k1]; exact h.len, ⟨h.each.1, h.each.2.1, by simp only; rw [k1]; exact h.each.2.2⟩, by simp only; rw [k1]; exact h.t, ⟨h.life.1, by have := h.life.2.1; simp only; omega, h.life.2.2⟩, ⟨h.era.1, by have := h.era.2.1; simp only; omega, h.era.2.2⟩, h.st0, h.stl, k2, ?_, h.lens⟩
          have := h.n; simp only; omega
        · have e3 : x.comp d l = (({ x with life := x.life + 1, era := x.era + 1, state := l, sc := openS (d.save 0 x.each x.life (x.era + 1) l).1.S x.each (x.life + 1) (x.era + 1) }, (d.save 0 x.each x.life (x.era + 1) l).1), 0) := by unfold Vv.comp; rw [if_neg hf, if_neg hz]
          have e2 : x.rcomp X l = (({ x with life := x.life + 1, era := x.era + 1, state := l, sc := openS (X.save 0 x.each x.life (x.era + 1) l).1.C x.each (x.life + 1) (x.era + 1) }, (X.save 0 x.each x.life (x.era + 1) l).1), 0) := by unfold Vv.rcomp; rw [if_neg hd2, if_neg hf, if_neg (by rw [← s1]; exact hz)]
          rw [e1, e2, e3, s2.C]
          have hb := scan_bd (S := (d.save 0 x.each x.life (x.era + 1) l).1.S) (t := (d.save 0 x.each x.life (x.era + 1) l).1.S.length) (era := x.era + 1) (q := 2 * x.each) (n := 0) (life := 0)
          refine ⟨rfl, by simp only [hdead]; rfl, s2, by simp only; rw [k1]; exact h.len, ⟨h.each.1, h.each.2.1, by simp only; rw [k1]; exact h.each.2.2⟩, rfl, ⟨by have := h.life.1; simp only; omega, by have := h.life.2.1; simp only; omega, rfl⟩, ⟨by have := h.era.1; simp only; omega, by have := h.era.2.1; simp only; omega, rfl⟩, fun h9 => ?_, by simp only; omega, fun i f hf => ?_, ?_, scan_lens⟩
          · have := h.era.1; simp only at h9; omega
          · have := k2 i f hf; simp only; omega
          · show (scan (d.save 0 x.each x.life (x.era + 1) l).1.S (d.save 0 x.each x.life (x.era + 1) l).1.S.length (x.era + 1) (2 * x.each) 0 0).1.length ≤ 40 + (k + 1)
            have := h.len
            have := h.each
            omega
  · have hon : d.on = true := by
      cases hh : d.on with
      | true => rfl
      | false => exact absurd h0 (save_off9 hh)
    have := newest_le (by have := h.life; omega) (fun i f hf => ((hk hon).2 i f hf).1) (2 * x.each) ((d.save 0 x.each x.life (x.era + 1) l).1.S.length - 2 * x.each)
    omega
end
end
end Go.Proofs.Ytiggcpfmmgmncaa
