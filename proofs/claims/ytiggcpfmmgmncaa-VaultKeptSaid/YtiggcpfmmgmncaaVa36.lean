import Derived.Test.YtiggcpfmmgmncaaVa34
section
namespace Go.Proofs.Ytiggcpfmmgmncaa
open Go.ChangeShapes Go.WideShapes Go.ChangeAt Go.RowKit
set_option linter.unusedVariables false
set_option linter.unusedSimpArgs false

theorem Sc.app_ways {x : Sc} {d : Dv} {X : List (List Nat)} (hon : d.on = true) (hdead : x.dead = false) (hL : x.L = X) (ht : x.t ≤ d.S.length) {b : List Nat} (hb : b.length ≤ 250) (hl1 : 1 ≤ x.life) (hl2 : x.life ≤ 100000) (he1 : 0 ≤ x.era) (he2 : x.era ≤ 100000) (hw : X.length ≤ 100000) :
    x.app d b = ((x, d), 10) ∨ ∃ (n : Nat) (D : Dv), partsN b.length = n ∧ n ≤ 255 ∧ (piece x.life x.era ((X.length + 1 : Nat) : Int) b n 0).ok = true ∧ x.f + x.used + n ≤ x.t ∧ Torn8 d.S D.S (x.f + x.used) n x.life x.era ((X.length + 1 : Nat) : Int) b ∧
      ((x.app d b = (({ x with dead := true }, D), 9) ∧ D.on = false) ∨ (x.app d b = ((x.add b n, D), 0) ∧ D.on = true ∧ ∀ j, j < n → D.S[x.f + x.used + j]? = some (sealed (piece x.life x.era ((X.length + 1 : Nat) : Int) b n j).body))) := by
  have hp : partsN b.length ≤ 4 := by unfold partsN; omega
  have hp0 := partsN_pos b.length
  have hok : (piece x.life x.era ((x.L.length + 1 : Nat) : Int) b (partsN b.length) 0).ok = true := by
    rw [Fr.ok_iff, hL]
    have := seg_le b (80 * 0) 80
    refine ⟨?_, ?_, ?_, ?_, ?_, ?_, ?_, ?_, ?_, ?_, this⟩ <;> simp only [piece] <;> omega
  have hc : cutF x.life x.era ((x.L.length + 1 : Nat) : Int) b = (cellsF x.life x.era ((x.L.length + 1 : Nat) : Int) b (partsN b.length) (partsN b.length), 0) := by
    unfold cutF
    rw [if_neg (by omega), if_pos hok]
  have hcz : (cutF x.life x.era ((x.L.length + 1 : Nat) : Int) b).2 = 0 := by rw [hc]
  have e0 : ¬ (x.dead = true ∨ d.on = false) := by rw [hdead, hon]; decide
  have hcn : ¬ (cutF x.life x.era ((x.L.length + 1 : Nat) : Int) b).2 ≠ 0 := fun h => h hcz
  by_cases hroom : (x.t : Int) - (x.f : Int) - (x.used : Int) < (((cutF x.life x.era ((x.L.length + 1 : Nat) : Int) b).1.length : Nat) : Int)
  · left
    unfold Sc.app
    rw [if_neg e0, if_neg hcn, if_pos hroom]
  · right
    obtain ⟨n, hn, hn5, hok2, hcl, htorn, hwhole⟩ := write_torn8 (P := x.f + x.used) hon hcz (by omega)
    have hdw := Dv.write_fit hon (cut_fits (m := d.S.length) (p := x.f + x.used) hcz (by omega)) (cut_pos hcz)
    refine ⟨n, (d.write ((x.f + x.used : Nat) : Int) (cutF x.life x.era ((x.L.length + 1 : Nat) : Int) b).1).1, hn, hn5, by rw [← hL]; exact hok2, by omega, by rw [← hL]; exact htorn, ?_⟩
    cases htr : d.torn with
    | true =>
      left
      refine ⟨?_, ?_⟩
      · unfold Sc.app
        rw [if_neg e0, if_neg hcn, if_neg hroom, if_pos htr]
      · rw [hdw]
        unfold Dv.torn at htr
        rw [Bool.and_eq_true, decide_eq_true_eq] at htr
        show d.burnt.on = false
        unfold Dv.burnt
        rw [if_pos htr.1, if_neg (by omega)]
    | false =>
      right
      refine ⟨?_, ?_, ?_⟩
      · unfold Sc.app
        rw [if_neg e0, if_neg hcn, if_neg hroom, if_neg (by rw [htr]; decide), hcl]
      · rw [hdw]
        show d.burnt.on = true
        unfold Dv.torn at htr
        unfold Dv.burnt
        split
        · rename_i h1
          rw [h1, Bool.true_and, decide_eq_false_iff_not] at htr
          rw [if_pos (by omega)]; exact hon
        · exact hon
      · rw [← hL]; exact hwhole htr
def InvS (S : List (List Nat)) (p each era : Nat) (st : List Nat) : Prop :=
  (era = 0 → st = [] ∧ standF S p each 0 = none ∧ standF S p each 1 = none) ∧
  (0 < era → standF S p each (era % 2) = some ((era : Int), st) ∧ (standF S p each ((era + 1) % 2) = none ∨ ∃ m l, standF S p each ((era + 1) % 2) = some (m, l) ∧ m < (era : Int)))
theorem InvS.load {S : List (List Nat)} {p each era : Nat} {st : List Nat} (h : InvS S p each era st) : (loadS S p each).1 = (era : Int) ∧ (loadS S p each).2.1 = st := by
  unfold loadS
  by_cases h0 : era = 0
  · obtain ⟨e, e0, e1⟩ := h.1 h0
    rw [e0, e1]
    subst h0
    exact ⟨rfl, e.symm⟩
  · obtain ⟨e0, e1⟩ := h.2 (by omega)
    rcases (by omega : era % 2 = 0 ∧ (era + 1) % 2 = 1 ∨ era % 2 = 1 ∧ (era + 1) % 2 = 0) with ⟨m0, m1⟩ | ⟨m0, m1⟩
    · rw [m0] at e0
      rw [m1] at e1
      rw [e0]
      rcases e1 with e1 | ⟨m, l, e1, hm⟩
      · rw [e1]; exact ⟨rfl, rfl⟩
      · rw [e1]; simp only; rw [if_neg (by omega)]; exact ⟨rfl, rfl⟩
    · rw [m0] at e0
      rw [m1] at e1
      rw [e0]
      rcases e1 with e1 | ⟨m, l, e1, hm⟩
      · rw [e1]; exact ⟨rfl, rfl⟩
      · rw [e1]; simp only; rw [if_pos hm]; exact ⟨rfl, rfl⟩
theorem InvS.local {S T : List (List Nat)} (hl : S.length = T.length) {p each era : Nat} {st : List Nat} (h : InvS S p each era st) (hst : ∀ i, p ≤ i → i < p + 2 * each → S[i]? = T[i]?) : InvS T p each era st := by
  have h0 : standF S p each 0 = standF T p each 0 := standF_local hl (fun i h1 h2 => hst i (by omega) (by omega))
  have h1 : standF S p each 1 = standF T p each 1 := standF_local hl (fun i h1 h2 => hst i (by omega) (by omega))
  have hk : ∀ k, k = 0 ∨ k = 1 → standF S p each k = standF T p each k := fun k hk => by rcases hk with rfl | rfl <;> assumption
  refine ⟨fun e => ?_, fun e => ?_⟩
  · obtain ⟨a, b, c⟩ := h.1 e
    exact ⟨a, h0 ▸ b, h1 ▸ c⟩
  · obtain ⟨a, b⟩ := h.2 e
    rw [hk (era % 2) (by omega), hk ((era + 1) % 2) (by omega)] at *
    exact ⟨a, b⟩
theorem InvS.step {S T : List (List Nat)} {p each era : Nat} {st b : List Nat} {life : Int} (h : InvS S p each era st) (hp2 : p + 2 * each ≤ S.length) (hlow : ∀ (i : Nat) (f : Fr), p ≤ i → i < p + 2 * each → frD S i = some f → f.life < life) {n : Nat} (hn : partsN b.length = n) (hne : n ≤ each) (hb : n ≤ 255) (hok : (piece life ((era + 1 : Nat) : Int) 1 b n 0).ok = true)
    (ht : Torn8 S T (p + (era + 1) % 2 * each) n life ((era + 1 : Nat) : Int) 1 b) : InvS T p each (era + 1) b ∨ InvS T p each era st := by
  obtain ⟨hl, hi⟩ := ht
  have hpn := partsN_pos b.length
  obtain ⟨P, hP⟩ : ∃ P, p + (era + 1) % 2 * each = P := ⟨_, rfl⟩
  rw [hP] at hi
  have hm : (era + 1) % 2 = 0 ∧ era % 2 = 1 ∨ (era + 1) % 2 = 1 ∧ era % 2 = 0 := by omega
  have hP2 : (era + 1) % 2 = 0 ∧ era % 2 = 1 ∧ P = p ∨ (era + 1) % 2 = 1 ∧ era % 2 = 0 ∧ P = p + each := by
    rcases hm with ⟨m0, m1⟩ | ⟨m0, m1⟩
    · left; rw [m0] at hP; exact ⟨m0, m1, by omega⟩
    · right; rw [m0] at hP; exact ⟨m0, m1, by omega⟩
  have hoth : standF T p each (era % 2) = standF S p each (era % 2) := standF_local hl (fun i h1 h2 => by
    rcases hi i with e | ⟨e1, e2, e3⟩
    · exact e
    · exfalso
      rcases hP2 with ⟨m0, m1, hP2⟩ | ⟨m0, m1, hP2⟩ <;> rw [m1] at h1 h2 <;> omega)
  have hPb : P + each ≤ p + 2 * each ∧ p ≤ P := by rcases hP2 with ⟨_, _, hP2⟩ | ⟨_, _, hP2⟩ <;> omega
  have hrd := readF_torn (tt := ((P + each : Nat) : Int)) hl hn hb hok (by omega) (by omega) hi (fun i f h1 h2 hf => hlow i f (by omega) (by omega) hf)
  have hst : standF T p each ((era + 1) % 2) = some (((era + 1 : Nat) : Int), b) ∨ standF T p each ((era + 1) % 2) = none ∨ standF T p each ((era + 1) % 2) = standF S p each ((era + 1) % 2) := by
    unfold standF
    rw [hP]
    rcases hrd with e | e | e
    · left
      rw [e]
      simp only
      have e1 : (piece life ((era + 1 : Nat) : Int) 1 b n 0).seq = 1 ∧ (piece life ((era + 1 : Nat) : Int) 1 b n 0).era ≠ 0 ∧ (piece life ((era + 1 : Nat) : Int) 1 b n 0).era % 2 = (((era + 1) % 2 : Nat) : Int) := ⟨rfl, by show ((era + 1 : Nat) : Int) ≠ 0; omega, by show ((era + 1 : Nat) : Int) % 2 = _; omega⟩
      rw [if_pos e1]; rfl
    · right; left; rw [e]
    · right; right; rw [e]
  have hm2 : (era + 1 + 1) % 2 = era % 2 := by omega
  rcases hst with e | e | e
  · left
    refine ⟨fun h0 => absurd h0 (by omega), fun _ => ⟨e, ?_⟩⟩
    rw [hm2, hoth]
    by_cases h0 : era = 0
    · obtain ⟨_, e0, e1⟩ := h.1 h0
      left; subst h0; exact e0
    · right
      exact ⟨_, _, (h.2 (by omega)).1, by omega⟩
  · right
    refine ⟨fun h0 => ?_, fun h0 => ?_⟩
    · obtain ⟨c0, e0, e1⟩ := h.1 h0
      subst h0
      exact ⟨c0, by rw [show (0 : Nat) = 0 % 2 from rfl, hoth]; exact e0, e⟩
    · obtain ⟨e0, e1⟩ := h.2 h0
      exact ⟨by rw [hoth]; exact e0, .inl e⟩
  · right
    refine ⟨fun h0 => ?_, fun h0 => ?_⟩
    · obtain ⟨c0, e0, e1⟩ := h.1 h0
      subst h0
      exact ⟨c0, by rw [show (0 : Nat) = 0 % 2 from rfl, hoth]; exact e0, by rw [show (1 : Nat) = (0 + 1) % 2 from rfl, e]; exact e1⟩
    · obtain ⟨e0, e1⟩ := h.2 h0
      exact ⟨by rw [hoth]; exact e0, by rw [e]; exact e1⟩
theorem InvS.whole {S T : List (List Nat)} {p each era : Nat} {st b : List Nat} {life : Int} (h : InvS S p each era st) (hp2 : p + 2 * each ≤ S.length) (hlow : ∀ (i : Nat) (f : Fr), p ≤ i → i < p + 2 * each → frD S i = some f → f.life < life) {n : Nat} (hn : partsN b.length = n) (hne : n ≤ each) (hb : n ≤ 255) (hok : (piece life ((era + 1 : Nat) : Int) 1 b n 0).ok = true)
    (ht : Torn8 S T (p + (era + 1) % 2 * each) n life ((era + 1 : Nat) : Int) 1 b) (hw : ∀ j, j < n → T[p + (era + 1) % 2 * each + j]? = some (sealed (piece life ((era + 1 : Nat) : Int) 1 b n j).body)) : InvS T p each (era + 1) b := by
  have htl := ht.1
  have hmb : (era + 1) % 2 * each ≤ each := by
    rcases (by omega : (era + 1) % 2 = 0 ∨ (era + 1) % 2 = 1) with m | m <;> rw [m] <;> omega
  have hr := readF_new (S := T) (P := p + (era + 1) % 2 * each) (tt := ((p + (era + 1) % 2 * each + each : Nat) : Int)) hn hb hok (by omega) (by omega) hw
  have hst : standF T p each ((era + 1) % 2) = some (((era + 1 : Nat) : Int), b) := by
    unfold standF
    rw [hr]
    simp only
    have e1 : (piece life ((era + 1 : Nat) : Int) 1 b n 0).seq = 1 ∧ (piece life ((era + 1 : Nat) : Int) 1 b n 0).era ≠ 0 ∧ (piece life ((era + 1 : Nat) : Int) 1 b n 0).era % 2 = (((era + 1) % 2 : Nat) : Int) := ⟨rfl, by show ((era + 1 : Nat) : Int) ≠ 0; omega, by show ((era + 1 : Nat) : Int) % 2 = _; omega⟩
    rw [if_pos e1]; rfl
  rcases h.step hp2 hlow hn hne hb hok ht with h1 | h1
  · exact h1
  · exfalso
    by_cases h0 : era = 0
    · obtain ⟨_, e0, e1⟩ := h1.1 h0
      subst h0
      rw [show (0 + 1) % 2 = 1 from rfl, e1] at hst
      cases hst
    · rcases (h1.2 (by omega)).2 with e | ⟨m, l, e, hm⟩
      · rw [e] at hst; cases hst
      · rw [e] at hst
        have := Option.some.inj hst
        injection this with h2 h3
        omega
theorem invS_new (n p each : Nat) : InvS (Dv.new n).S p each 0 [] := ⟨fun _ => ⟨rfl, by unfold standF; rw [readF_no (frD_new n _)], by unfold standF; rw [readF_no (frD_new n _)]⟩, fun h => absurd h (by decide)⟩
theorem save_ways {d : Dv} {p each era : Nat} {st b : List Nat} {life : Int} (hon : d.on = true) (h : InvS d.S p each era st) (hp2 : p + 2 * each ≤ d.S.length) (hb : b.length ≤ 250) (he4 : 4 ≤ each) (hl1 : 1 ≤ life) (hl2 : life ≤ 100000) (he2 : era ≤ 100000) :
    ∃ (n : Nat) (D : Dv), partsN b.length = n ∧ n ≤ 4 ∧ (piece life ((era + 1 : Nat) : Int) 1 b n 0).ok = true ∧ Torn8 d.S D.S (p + (era + 1) % 2 * each) n life ((era + 1 : Nat) : Int) 1 b ∧
      ((d.save p each life ((era : Int) + 1) b = (D, 9) ∧ D.on = false) ∨ (d.save p each life ((era : Int) + 1) b = (D, 0) ∧ D.on = true ∧ ∀ j, j < n → D.S[p + (era + 1) % 2 * each + j]? = some (sealed (piece life ((era + 1 : Nat) : Int) 1 b n j).body))) := by
  have hp : partsN b.length ≤ 4 := by unfold partsN; omega
  have hp0 := partsN_pos b.length
  have hera : ((era : Int) + 1) = ((era + 1 : Nat) : Int) := by omega
  have hok : (piece life ((era + 1 : Nat) : Int) 1 b (partsN b.length) 0).ok = true := by
    rw [Fr.ok_iff]
    have := seg_le b (80 * 0) 80
    refine ⟨?_, ?_, ?_, ?_, ?_, ?_, ?_, ?_, ?_, ?_, this⟩ <;> simp only [piece] <;> omega
  have hc : cutF life ((era + 1 : Nat) : Int) 1 b = (cellsF life ((era + 1 : Nat) : Int) 1 b (partsN b.length) (partsN b.length), 0) := by
    unfold cutF
    rw [if_neg (by omega), if_pos hok]
  have hcz : (cutF life ((era + 1 : Nat) : Int) 1 b).2 = 0 := by rw [hc]
  have hcl : (cutF life ((era + 1 : Nat) : Int) 1 b).1.length = partsN b.length := by rw [hc]; exact cells_len _ _ _ _ _
  have hlast : ¬ ((era + 1 : Nat) : Int) ≤ (loadS d.S p each).1 := by rw [h.load.1]; omega
  have hmb : (era + 1) % 2 * each ≤ each := by
    rcases (by omega : (era + 1) % 2 = 0 ∨ (era + 1) % 2 = 1) with m | m <;> rw [m] <;> omega
  have hsv : d.save p each life ((era : Int) + 1) b = d.write ((p + (era + 1) % 2 * each : Nat) : Int) (cutF life ((era + 1 : Nat) : Int) 1 b).1 := by
    unfold Dv.save
    rw [hera, if_neg hlast, if_neg (fun hh => hh hcz), if_neg (by rw [hcl]; omega), Int.toNat_natCast]
  obtain ⟨n, hn, hn5, hok2, hcl2, htorn, hwhole⟩ := write_torn8 (P := p + (era + 1) % 2 * each) hon hcz (by rw [hcl]; omega)
  have hdw := Dv.write_fit hon (cut_fits (m := d.S.length) (p := p + (era + 1) % 2 * each) hcz (by rw [hcl]; omega)) (cut_pos hcz)
  refine ⟨n, (d.write ((p + (era + 1) % 2 * each : Nat) : Int) (cutF life ((era + 1 : Nat) : Int) 1 b).1).1, hn, by omega, hok2, htorn, ?_⟩
  rw [hsv]
  cases htr : d.torn with
  | true =>
    left
    rw [hdw, htr]
    refine ⟨rfl, ?_⟩
    unfold Dv.torn at htr
    rw [Bool.and_eq_true, decide_eq_true_eq] at htr
    show d.burnt.on = false
    unfold Dv.burnt
    rw [if_pos htr.1, if_neg (by omega)]
  | false =>
    right
    refine ⟨?_, ?_, hwhole htr⟩
    · rw [hdw, htr]; rfl
    · rw [hdw]
      show d.burnt.on = true
      unfold Dv.torn at htr
      unfold Dv.burnt
      split
      · rename_i h1
        rw [h1, Bool.true_and, decide_eq_false_iff_not] at htr
        rw [if_pos (by omega)]; exact hon
      · exact hon
structure D10 (S : List (List Nat)) (life : Int) (era : Nat) (st : List Nat) (X : List (List Nat)) : Prop where
  len : S.length = 40
  still : InvS S 0 5 era st
  scroll : ∃ q ml, J8 S 10 40 (era : Int) life X q ml
  low : ∀ (i : Nat) (f : Fr), 10 ≤ i → frD S i = some f → f.era ≤ (era : Int)
structure A10 (d : Dv) (x : Vv) (st : List Nat) (X : List (List Nat)) (era : Nat) : Prop where
  dur : D10 d.S x.life era st X
  each : x.each = 5
  er : x.era = (era : Int)
  state : x.state = st
  dead : x.dead = false
  sc : ∃ q ml, x.sc = ⟨10, 40, x.life, (era : Int), X, q - 10, false⟩ ∧ J8 d.S 10 40 (era : Int) x.life X q ml ∧ Low8 d.S x.life q
  slow : ∀ (i : Nat) (f : Fr), i < 10 → frD d.S i = some f → f.life < x.life
theorem j8_local {S T : List (List Nat)} (hl : S.length = T.length) {f0 t : Nat} {era life : Int} {X : List (List Nat)} {q : Nat} {ml : Int} (h : J8 S f0 t era life X q ml) (hst : ∀ i, f0 ≤ i → i < t → S[i]? = T[i]?) (hall : ∀ (i : Int) (f : Fr), frD T i = some f → f.life ≤ life) : J8 T f0 t era life X q ml := by
  have hbd := h.bd
  have hlen := h.len
  refine ⟨by omega, h.ft, h.pos, hall, h.chain.same hl (fun i h1 h2 => hst i h1 (by omega)), fun b f hr => ?_⟩
  rw [← readF_local hl (fun i h1 h2 => hst i (by omega) h2)] at hr
  exact h.stop b f hr
theorem frD_of {S T : List (List Nat)} (hl : S.length = T.length) {i : Nat} (h : S[i]? = T[i]?) : frD S (i : Int) = frD T (i : Int) := frD_eq hl (by rw [Int.toNat_natCast]; exact h)
theorem D10.open {d : Dv} {life : Int} {era : Nat} {st : List Nat} {X : List (List Nat)} (h : D10 d.S life era st X) : A10 d (openV d.S 5) st X era ∧ (openV d.S 5).life ≤ life + 1 ∧ 1 ≤ (openV d.S 5).life := by
  obtain ⟨q, ml, hJ⟩ := h.scroll
  have hbd := newestN_bd d.S 0 d.S.length
  have hN : (openV d.S 5).life = newestN d.S 0 d.S.length + 1 := rfl
  have hall : ∀ (i : Int) (f : Fr), frD d.S i = some f → f.life < (openV d.S 5).life := fun i f hf => by have := newest_all i f hf; omega
  have hJ2 : J8 d.S 10 40 (era : Int) (openV d.S 5).life X q ml := ⟨hJ.len, hJ.ft, by omega, fun i f hf => by have := hall i f hf; omega, hJ.chain, hJ.stop⟩
  have hle : newestN d.S 0 d.S.length ≤ life := newest_le hJ.pos hJ.all 0 d.S.length
  obtain ⟨l1, l2⟩ := h.still.load
  refine ⟨⟨⟨h.len, h.still, ⟨q, ml, hJ2⟩, h.low⟩, rfl, l1, l2, rfl, ⟨q, ml, ?_, hJ2, fun i f _ hf => hall i f hf⟩, fun i f _ hf => hall i f hf⟩, by omega, by omega⟩
  show openS d.S 5 (newestN d.S 0 d.S.length + 1) (loadS d.S 0 5).1 = _
  unfold openS
  rw [l1, h.len, show 2 * 5 = 10 from rfl, hJ.scan]
  show _ = (⟨10, 40, newestN d.S 0 d.S.length + 1, (era : Int), X, q - 10, false⟩ : Sc)
  rw [h.len]
theorem A10.app {d : Dv} {x : Vv} {st : List Nat} {X : List (List Nat)} {era : Nat} (h : A10 d x st X era) (hon : d.on = true) {b : List Nat} (hb : b.length ≤ 250) (hl1 : 1 ≤ x.life) (hl2 : x.life ≤ 100000) (he2 : era ≤ 100000) (hw : X.length ≤ 100000) :
    (x.app d b = ((x, d), 10)) ∨ (∃ x' D, x.app d b = ((x', D), 9) ∧ D.on = false ∧ x'.life = x.life ∧ x'.sc.L = X ∧ (D10 D.S x.life era st X ∨ D10 D.S x.life era st (X ++ [b]))) ∨ (∃ x' D, x.app d b = ((x', D), 0) ∧ D.on = true ∧ x'.life = x.life ∧ A10 D x' st (X ++ [b]) era) := by
  obtain ⟨q, ml, hsc, hJ, hlow⟩ := h.sc
  have hbd := hJ.bd
  have e0 : ¬ (x.dead = true ∨ d.on = false) := by rw [h.dead, hon]; decide
  have hlen := h.dur.len
  have hfu : x.sc.f + x.sc.used = q := by rw [hsc]; show 10 + (q - 10) = q; omega
  have hsl : x.sc.life = x.life := by rw [hsc]
  have hse : x.sc.era = (era : Int) := by rw [hsc]
  have hst : x.sc.t = 40 := by rw [hsc]
  have hsd : x.sc.dead = false := by rw [hsc]
  have hsL : x.sc.L = X := by rw [hsc]
  have hw2 := x.sc.app_ways (d := d) (X := X) (b := b) hon hsd hsL (by rw [hst, hlen]; exact Nat.le_refl _) hb (by omega) (by omega) (by omega) (by omega) hw
  rw [hfu, hsl, hse, hst] at hw2
  rcases hw2 with hw2 | ⟨n, D, hn, hn5, hok, hroom, htorn, hw2⟩
  · left
    unfold Vv.app
    rw [if_neg e0, hw2]
    have : (({ x with sc := x.sc, dead := (10 : Int) == 9 } : Vv)) = x := by
      have hd := h.dead
      cases x
      simp only at hd
      subst hd
      rfl
    show ((({ x with sc := x.sc, dead := (10 : Int) == 9 } : Vv), d), (10 : Int)) = _
    rw [this]
  · have hDl : D.S.length = 40 := htorn.1.trans hlen
    have hstill : InvS D.S 0 5 era st := h.dur.still.local htorn.1.symm (fun i _ h2 => by
      rcases htorn.2 i with e | ⟨e1, _, _⟩
      · exact e.symm
      · omega)
    have hlowe : ∀ (i : Nat) (f : Fr), 10 ≤ i → frD D.S i = some f → f.era ≤ (era : Int) := fun i f hi hf => by
      rcases htorn.2 i with e | ⟨e1, e2, e3⟩
      · rw [frD_of htorn.1 e] at hf
        exact h.dur.low i f hi hf
      · have hk : i < D.S.length := by omega
        rw [List.getElem?_eq_getElem hk] at e3
        rw [frD_at hk, Option.some.inj e3, frB_enc ((piece_ok (by omega) (by omega)).trans hok)] at hf
        rw [← Option.some.inj hf]
        exact Int.le_refl _
    right
    rcases hw2 with ⟨e1, e2⟩ | ⟨e1, e2, e3⟩
    · left
      refine ⟨{ x with sc := (x.sc.app d b).1.1, dead := true }, D, ?_, e2, rfl, by rw [e1]; exact hsL, ?_⟩
      · unfold Vv.app
        rw [if_neg e0, e1]; rfl
      · rcases hJ.step hlow hn hn5 hok hroom htorn with j | j
        · exact .inr ⟨hDl, hstill, ⟨_, _, j⟩, hlowe⟩
        · exact .inl ⟨hDl, hstill, ⟨_, _, j⟩, hlowe⟩
    · right
      obtain ⟨j1, j2⟩ := hJ.whole hlow hn hn5 hok hroom htorn e3
      refine ⟨{ x with sc := x.sc.add b n, dead := false }, D, ?_, e2, rfl, ⟨⟨hDl, hstill, ⟨_, _, j1⟩, hlowe⟩, h.each, h.er, h.state, rfl, ⟨q + n, x.life, ?_, j1, j2⟩, ?_⟩⟩
      · unfold Vv.app
        rw [if_neg e0, e1]; rfl
      · show x.sc.add b n = _
        rw [hsc]
        show (⟨10, 40, x.life, (era : Int), X ++ [b], q - 10 + n, false⟩ : Sc) = ⟨10, 40, x.life, (era : Int), X ++ [b], q + n - 10, false⟩
        rw [show q - 10 + n = q + n - 10 by omega]
      · intro i f hi hf
        rcases htorn.2 i with e | ⟨e4, _, _⟩
        · rw [frD_of htorn.1 e] at hf
          exact h.slow i f hi hf
        · omega
theorem A10.compact {d : Dv} {x : Vv} {st : List Nat} {X : List (List Nat)} {era : Nat} (h : A10 d x st X era) (hon : d.on = true) {b : List Nat} (hb : b.length ≤ 250) (hl1 : 1 ≤ x.life) (hl2 : x.life ≤ 100000) (he2 : era ≤ 100000) :
    ((d.save 0 x.each x.life (x.era + 1) b).2 = 0 → newestN (d.save 0 x.each x.life (x.era + 1) b).1.S (2 * x.each) ((d.save 0 x.each x.life (x.era + 1) b).1.S.length - 2 * x.each) < x.life + 1) ∧
    ((∃ x' D, x.compact d b = ((x', D), 9) ∧ D.on = false ∧ x'.life = x.life ∧ x'.sc.L = X ∧ (D10 D.S x.life era st X ∨ D10 D.S x.life (era + 1) b [])) ∨ (∃ x' D, x.compact d b = ((x', D), 0) ∧ D.on = true ∧ x'.life = x.life + 1 ∧ A10 D x' b [] (era + 1))) := by
  obtain ⟨q, ml, hsc, hJ, hlow⟩ := h.sc
  have hbd := hJ.bd
  have e0 : ¬ (x.dead = true ∨ d.on = false) := by rw [h.dead, hon]; decide
  have hlen := h.dur.len
  have hslow : ∀ (i : Nat) (f : Fr), 0 ≤ i → i < 0 + 2 * 5 → frD d.S i = some f → f.life < x.life := fun i f _ hi hf => h.slow i f (by omega) hf
  obtain ⟨n, D, hn, hn4, hok, htorn, hw2⟩ := save_ways (p := 0) (each := 5) (b := b) (life := x.life) hon h.dur.still (by omega) hb (by decide) hl1 hl2 he2
  have hsv : d.save 0 x.each x.life (x.era + 1) b = d.save 0 5 x.life ((era : Int) + 1) b := by rw [h.each, h.er]
  rw [hsv, h.each]
  have hDl : D.S.length = 40 := htorn.1.trans hlen
  have hmb : (era + 1) % 2 * 5 ≤ 5 := by omega
  have hall : ∀ (i : Int) (f : Fr), frD D.S i = some f → f.life ≤ x.life := fun i f hf => by
    obtain ⟨h0, h1, h2, _⟩ := frD_some hf
    obtain ⟨k, rfl⟩ : ∃ k : Nat, i = (k : Int) := ⟨i.toNat, by omega⟩
    rcases htorn.2 k with e | ⟨e1, e2, e3⟩
    · rw [frD_of htorn.1 e] at hf
      exact hJ.all _ _ hf
    · have hk : k < D.S.length := by omega
      rw [List.getElem?_eq_getElem hk] at e3
      rw [frD_at hk, Option.some.inj e3, frB_enc ((piece_ok (by omega) (by omega)).trans hok)] at hf
      have := Option.some.inj hf
      rw [← this]
      exact Int.le_refl _
  have hsame : ∀ i, 10 ≤ i → d.S[i]? = D.S[i]? := fun i hi => by
    rcases htorn.2 i with e | ⟨e1, e2, _⟩
    · exact e.symm
    · omega
  have hlowe : ∀ (i : Nat) (f : Fr), 10 ≤ i → frD D.S i = some f → f.era ≤ (era : Int) := fun i f hi hf => by
    rw [← frD_of htorn.1.symm (hsame i hi)] at hf
    exact h.dur.low i f hi hf
  have hnewJ : ∀ life2, x.life ≤ life2 → J8 D.S 10 40 ((era + 1 : Nat) : Int) life2 [] 10 0 := fun life2 hl => ⟨by omega, by decide, by omega, fun i f hf => by have := hall i f hf; omega, ⟨rfl, rfl⟩, fun b2 f hr ⟨h3, _, _⟩ => by
    have := hlowe 10 f (Nat.le_refl _) (readF_iff.1 hr).2.1
    omega⟩
  have hcomp : ¬ (16777214 : Int) ≤ x.life := by omega
  refine ⟨fun _ => ?_, ?_⟩
  · have hnl : ∀ E : Dv × Int, (E = (D, 9) ∨ E = (D, 0)) → newestN E.1.S (2 * 5) (E.1.S.length - 2 * 5) < x.life + 1 := fun E hE => by
      have : E.1 = D := by rcases hE with rfl | rfl <;> rfl
      rw [this]
      have := newest_le (M := x.life) (by omega) hall (2 * 5) (D.S.length - 2 * 5)
      omega
    exact hnl _ (by rcases hw2 with ⟨e1, _⟩ | ⟨e1, _⟩ <;> rw [e1] <;> simp)
  · rcases hw2 with ⟨e1, e2⟩ | ⟨e1, e2, e3⟩
    · left
      refine ⟨{ x with dead := true }, D, ?_, e2, rfl, by rw [hsc], ?_⟩
      · unfold Vv.compact Vv.comp
        rw [if_neg e0, hsv, if_neg hcomp, e1]
        rfl
      · rcases h.dur.still.step (by omega) hslow hn (by omega) (by omega) hok htorn with j | j
        · exact .inr ⟨hDl, j, ⟨10, 0, hnewJ _ (Int.le_refl _)⟩, fun i f hi hf => by have := hlowe i f hi hf; omega⟩
        · exact .inl ⟨hDl, j, ⟨q, ml, j8_local htorn.1.symm hJ (fun i h1 _ => hsame i h1) hall⟩, hlowe⟩
    · right
      have j := h.dur.still.whole (by omega) hslow hn (by omega) (by omega) hok htorn e3
      have hJ2 := hnewJ (x.life + 1) (by omega)
      refine ⟨{ x with life := x.life + 1, era := x.era + 1, state := b, sc := openS D.S x.each (x.life + 1) (x.era + 1), dead := false }, D, ?_, e2, rfl, ⟨⟨hDl, j, ⟨10, 0, hJ2⟩, fun i f hi hf => by have := hlowe i f hi hf; omega⟩, h.each, by show x.era + 1 = _; rw [h.er]; omega, rfl, rfl, ⟨10, 0, ?_, hJ2, fun i f hi hf => by have := hall i f hf; show f.life < x.life + 1; omega⟩, fun i f _ hf => by have := hall i f hf; show f.life < x.life + 1; omega⟩⟩
      · unfold Vv.compact Vv.comp
        rw [if_neg e0, hsv, if_neg hcomp, e1]
        rfl
      · show openS D.S x.each (x.life + 1) (x.era + 1) = (⟨10, 40, x.life + 1, ((era + 1 : Nat) : Int), [], 10 - 10, false⟩ : Sc)
        unfold openS
        rw [h.each, h.er, hDl, show 2 * 5 = 10 from rfl, show (era : Int) + 1 = ((era + 1 : Nat) : Int) by omega, hJ2.scan]
theorem a10_fuse {d : Dv} {x : Vv} {st : List Nat} {X : List (List Nat)} {era : Nat} (h : A10 d x st X era) (n : Int) (l : List Nt) : A10 (d.fuse n l).1 x st X era := by
  have e : (d.fuse n l).1.S = d.S := by
    unfold Dv.fuse
    split
    · split <;> rfl
    · rfl
  obtain ⟨h1, h2, h3, h4, h5, h6, h7⟩ := h
  exact ⟨by rw [e]; exact h1, h2, h3, h4, h5, by rw [e]; exact h6, by rw [e]; exact h7⟩
theorem d10_new : D10 (Dv.new 40).S 0 0 [] [] := ⟨by simp [Dv.new], invS_new 40 0 5, ⟨10, 0, j8_new (by decide) (by decide) (by decide)⟩, fun i f _ h => (by rw [frD_new] at h; cases h)⟩
structure K10 (d : Dv) (x : Vv) (M : Int) (state : List Nat) (was : List (List Nat)) (stateM : List Nat) (maybe : List (List Nat)) : Prop where
  on : d.on = true → ∃ era : Nat, (era : Int) ≤ M ∧ A10 d x state was era
  off : d.on = false → ∃ (era : Nat) (st : List Nat) (X : List (List Nat)), (era : Int) ≤ M ∧ D10 d.S x.life era st X ∧ (st = state ∧ X = was ∨ st = stateM ∧ X = maybe)
  life : 1 ≤ x.life ∧ x.life ≤ M
theorem K10.dur {d : Dv} {x : Vv} {M : Int} {state stateM : List Nat} {was maybe : List (List Nat)} (h : K10 d x M state was stateM maybe) : ∃ (era : Nat) (st : List Nat) (X : List (List Nat)), (era : Int) ≤ M ∧ D10 d.S x.life era st X ∧ (st = state ∧ X = was ∨ st = stateM ∧ X = maybe) := by
  cases ho : d.on with
  | true =>
    obtain ⟨era, h1, h2⟩ := h.on ho
    exact ⟨era, _, _, h1, h2.dur, .inl ⟨rfl, rfl⟩⟩
  | false => exact h.off ho
end Go.Proofs.Ytiggcpfmmgmncaa
end
