/-
  Layer 12: tables of assets, first part: place, Find, Put, Priced (laid by gen_at.py out of layer 14's texts).
-/
import Derived.Test.YtjhdccnkfnaapaaAxV
import Derived.Test.YtjhdccnkfnaapaaRowM
import Derived.Test.YtjhdccnkfnaapaaAsset
namespace Go.Proofs.Ytjhdccnkfnaapaa
open Go.ChangeShapes Go.WideShapes Go.ChangeAt Go.RowKit
set_option linter.unusedVariables false
set_option linter.unusedSimpArgs false

abbrev okM (v : Ax) : Prop := okA ⟨v.id, v.price, v.hc⟩
theorem check_any (v : Ax) (w : World) :
    Calls Try.prog 4 #[v.val] w fun e w' => e = .returned (.int .i64 (if okM v then 0 else 2)) ∧ Below w.heap.size w w' := acheck_any ⟨v.id, v.price, v.hc⟩ w
theorem mis_any (v : Ax) (w : World) :
    Calls Try.prog 5 #[v.val] w fun e w' => e = .returned (.bool (decide (okM v))) ∧ Below w.heap.size w w' := arIs_any ⟨v.id, v.price, v.hc⟩ w
def ahM (x y : Ax) : Bool := decide (x.id < y.id)
def idM (id : Int) (x : Ax) : Bool := x.id == id
def findM (l : List Ax) (id : Int) : Ax := pickL (idM id) Ax.zero l
def hasM (l : List Ax) (id : Int) : Bool := (l.find? (idM id)).isSome
theorem mfind_cases (l : List Ax) (id : Int) : (hasM l id = false ∧ atL (idM id) l = -1 ∧ findM l id = Ax.zero ∧ l.find? (idM id) = none) ∨ ∃ k : Nat, ∃ hk : k < l.length, hasM l id = true ∧ atL (idM id) l = k ∧ findM l id = l[k] ∧ idM id l[k] = true ∧ ∀ j, (hj : j < k) → idM id (l[j]'(by omega)) = false := by
  rcases atL_cases (idM id) l with ⟨h0, hno⟩ | ⟨k, hk, h0, hpk, hno⟩
  · have hf := find_none hno
    exact .inl ⟨by rw [hasM, hf]; rfl, h0, by rw [findM, pickL, hf]; rfl, hf⟩
  · have hf := find_some hk hno hpk
    exact .inr ⟨k, hk, by rw [hasM, hf]; rfl, h0, by rw [findM, pickL, hf]; rfl, hpk, hno⟩
def putMR (l : List Ax) (v : Ax) : Int × List Ax := if ¬ okM v then (2, []) else if hasM l v.id = true then (12, []) else (0, putR ahM l v)

set_option maxHeartbeats 1000000 in
theorem mahead_any (x y : Ax) (w : World) :
    Calls Try.prog 17 #[x.val, y.val] w fun e w' => e = .returned (.bool (ahM x y)) ∧ Below w.heap.size w w' := by
  have hB := since_alloc (since_alloc (Below.refl _ w) (.cells x.cells.toArray 24)) (.cells y.cells.toArray 24)
  unfold Ax.val
  go_enter Try.func17, Try.ntmps17
  go_wp2_with fail
  go_ret
  exact ⟨rfl, hB⟩
theorem ent_mahead : Ent Try.prog 17 := Ent.of (by kernel_rfl)
theorem tells_mahead (B : Nat) (w : World) : Ax.Tells2 17 #[] ahM B w := fun a b W _ => mahead_any a b W
set_option maxHeartbeats 1000000 in
theorem mplace1_any (x : Ax) (id : Int) (b : Nat) (w : World) (h0 : w.cell? ⟨b, 0, none⟩ = some (.int .i64 id)) :
    Calls Try.prog 27 #[x.val, .pointer (some ⟨b, 0, none⟩)] w fun e w' => e = .returned (.bool (idM id x)) ∧ Below w.heap.size w w' := by
  have hB := since_alloc (Below.refl _ w) (.cells x.cells.toArray 24)
  have hlt := World.block_lt_of_cell? _ _ h0
  unfold Ax.val
  go_enter Try.func27, Try.ntmps27
  go_wp2_with fail
  go_ret
  exact ⟨rfl, hB⟩
theorem ent_mplace1 : Ent Try.prog 27 := Ent.of (by kernel_rfl)
theorem tells_mplace1 (id : Int) (b : Nat) (w : World) (h : w.cell? ⟨b, 0, none⟩ = some (.int .i64 id)) : Ax.Tells 27 #[.pointer (some ⟨b, 0, none⟩)] (idM id) w.heap.size w :=
  fun x W hW => mplace1_any x id b W ((hW.cell (p := ⟨b, 0, none⟩) (World.block_lt_of_cell? _ _ h)).trans h)
set_option maxHeartbeats 1000000 in
theorem mplace_any (A : Option Addr) (cap : Nat) (l : List Ax) (id : Int) (w : World) (hl : l.length ≤ 1000000) (hs : Sl w A (rc Ax.cells l)) :
    Calls Try.prog 18 #[.slice A l.length cap, .int .i64 id] w fun e w' => e = .returned (.int .i64 (atL (idM id) l)) ∧ Below w.heap.size w w' := by
  go_enter Try.func18, Try.ntmps18
  go_wp2_with fail
  refine (index_ax A cap l 27 #[.pointer (some ⟨w.heap.size, 0, none⟩)] (idM id) _ hl (hs.alloc _) ent_mplace1 (tells_mplace1 id w.heap.size _ (by simp))).mono ?_
  rintro e w1 ⟨rfl, hb1⟩
  have hB1 := since_step (since_alloc (Below.refl _ _) _) hb1
  clear hb1
  go_wp2_with fail
  go_ret
  exact ⟨rfl, hB1⟩

/-- a row, and an error's number -/
def MRes (B : Nat) (w' : World) (e : Ending) (R : Int × List Ax) : Prop :=
  ∃ A' c', e = .returned (.tuple #[.slice A' R.2.length c', .int .i64 R.1]) ∧ w'.ownsRow B 24 3 (.slice A' R.2.length c') R.2.length (rc Ax.cells R.2)
theorem MRes.nil (B : Nat) (w' : World) (n : Int) : MRes B w' (.returned (.tuple #[.slice none 0 0, .int .i64 n])) (n, []) := ⟨none, 0, rfl, own_nil _ _ _⟩
theorem boolM_ext {a b : Bool} (h : a = true ↔ b = true) : a = b := by cases a <;> cases b <;> simp_all
theorem ordM : Ord ahM where
  tr := fun a b c h1 h2 => by simp only [ahM, decide_eq_true_eq] at *; omega
  asy := fun a b h => by simp only [ahM, decide_eq_true_eq, decide_eq_false_iff_not] at *; omega
  cong := fun a x b h1 h2 => boolM_ext (by simp only [ahM, decide_eq_true_eq, decide_eq_false_iff_not] at *; omega)
  cong2 := fun a x b h1 h2 => boolM_ext (by simp only [ahM, decide_eq_true_eq, decide_eq_false_iff_not] at *; omega)
theorem idM_iff (id : Int) (x : Ax) : idM id x = true ↔ x.id = id := by simp [idM]
abbrev Sorted (l : List Ax) : Prop := l.Pairwise (fun a b => ahM a b = true)
theorem set_putM {l : List Ax} (h : Sorted l) {k : Nat} (hk : k < l.length) (v : Ax) (ho : idM v.id l[k] = true) : l.set k v = putR ahM l v := by
  rw [idM_iff] at ho
  refine set_putR ordM v l k hk h ?_ ?_
  · simp only [ahM, decide_eq_false_iff_not]; omega
  · simp only [ahM, decide_eq_false_iff_not]; omega
theorem findM_same (x : Ax) : ∀ l : List Ax, (putR ahM l x).find? (idM x.id) = some x
  | [] => by simp [putR, idM]
  | r :: t => by
    have ih := findM_same x t
    unfold putR
    cases h1 : ahM r x with
    | true =>
      have hne : idM x.id r = false := by
        cases h2 : idM x.id r with
        | false => rfl
        | true =>
          rw [idM_iff] at h2
          simp only [ahM, decide_eq_true_eq] at h1
          omega
      simp [hne, ih]
    | false => cases h2 : ahM x r <;> simp [idM]
theorem findM_other (x : Ax) (a : Int) (h : ¬ x.id = a) : ∀ l : List Ax, (putR ahM l x).find? (idM a) = l.find? (idM a)
  | [] => by
    have hx : idM a x = false := by
      cases h2 : idM a x with
      | false => rfl
      | true => exact absurd ((idM_iff _ _).1 h2) h
    simp [putR, hx]
  | r :: t => by
    have ih := findM_other x a h t
    have hx : idM a x = false := by
      cases h2 : idM a x with
      | false => rfl
      | true => exact absurd ((idM_iff _ _).1 h2) h
    unfold putR
    cases h1 : ahM r x with
    | true => simp [List.find?_cons, ih]
    | false =>
      cases h2 : ahM x r with
      | true => simp [List.find?_cons, hx]
      | false =>
        have hr : idM a r = false := by
          cases h3 : idM a r with
          | false => rfl
          | true =>
            rw [idM_iff] at h3
            simp only [ahM, decide_eq_false_iff_not] at h1 h2
            exact absurd (show x.id = a by omega) h
        simp [List.find?_cons, hx, hr]
theorem insM {l : List Ax} (h : Sorted l) (v : Ax) (hn : l.find? (idM v.id) = none) :
    l.take (l.findIdx fun y => !ahM y v) ++ v :: l.drop (l.findIdx fun y => !ahM y v) = putR ahM l v := by
  rw [← refPut_eq ordM v l h]
  have e : (l.filter fun y => !eqv ahM v y) = l := by
    rw [List.filter_eq_self]
    intro y hy
    rw [List.find?_eq_none] at hn
    have := hn y hy
    rw [idM_iff] at this
    simp only [eqv, ahM, Bool.not_eq_true', Bool.and_eq_false_iff, decide_eq_false_iff_not, decide_eq_true_eq, Bool.not_eq_false']
    omega
  unfold refPut
  rw [e]
theorem mapM {l : List Ax} (h : Sorted l) (v : Ax) {k : Nat} (hk : k < l.length) (ho : idM v.id l[k] = true) : l.map (fun y => if idM v.id y = true then v else y) = l.set k v := by
  refine List.ext_getElem (by simp) fun j h1 h2 => ?_
  have hj : j < l.length := by simpa using h1
  rw [List.getElem_map, List.getElem_set]
  by_cases e : k = j
  · subst e
    rw [if_pos ho, if_pos rfl]
  · rw [if_neg e, if_neg]
    intro hc
    rw [idM_iff] at ho hc
    rcases Nat.lt_or_gt_of_ne e with e | e
    · have := List.pairwise_iff_getElem.1 h k j hk hj e
      simp only [ahM, decide_eq_true_eq] at this
      omega
    · have := List.pairwise_iff_getElem.1 h j k hj hk e
      simp only [ahM, decide_eq_true_eq] at this
      omega

set_option maxHeartbeats 1000000 in
set_option maxRecDepth 100000 in
theorem mfind_any (A : Option Addr) (cap : Nat) (l : List Ax) (id : Int) (w : World) (hl : l.length ≤ 1000000) (hs : Sl w A (rc Ax.cells l)) :
    Calls Try.prog 11 #[.slice A l.length cap, .int .i64 id] w fun e w' => e = .returned (.tuple #[(findM l id).val, .bool (hasM l id)]) ∧ Below w.heap.size w w' := by
  have hB0 := since_alloc (Below.refl w.heap.size w) (.cells #[.int .i64 0, .int .i64 0, .int .i64 0] 24)
  have hidx := mplace_any A cap l id (w.alloc (.cells #[.int .i64 0, .int .i64 0, .int .i64 0] 24)) hl (hs.alloc _)
  have Bz := Bk.new w #[.int .i64 0, .int .i64 0, .int .i64 0] 24
  rcases mfind_cases l id with ⟨hh, h0, hf, _⟩ | ⟨k, hk, hh, h0, hf, hpk, _⟩
  · rw [h0] at hidx
    have HH := Lib.hid hh
    have HF := Lib.hid hf
    clear hh h0 hf
    go_enter Try.func11, Try.ntmps11
    go_wp2_with fail
    refine hidx.mono ?_
    rintro e w1 ⟨rfl, hb1⟩
    have hB1 := since_step hB0 hb1
    have Bz := Bz.below hb1
    obtain ⟨lb, cb⟩ := _root_.id Bz
    have q0 := cb 0
    have q1 := cb 1
    have q2 := cb 2
    simp at q0 q1 q2
    clear cb
    have hfz : ∀ i, w1.frozen? ⟨w.heap.size, i, none⟩ = false := fun i => by rw [(hb1.frozen (p := ⟨w.heap.size, i, none⟩) (by simp))]; simp
    have hcs := @cell_set
    clear hb1 Bz hidx
    go_wp2_with fail
    refine bodyPost_ret (v := .tuple #[Ax.zero.val, .bool false]) ?_ rfl ⟨?_, ?_⟩
    · simp [results, Try.results11, go_sem, q0, q1, q2, hfz, Ax.zero, Ax.val]
    · rw [HF.out, HH.out]
    · repeat' (first | with_reducible exact hB1 | with_reducible refine Below.setCell ?_ ?_ _ | with_reducible refine Below.alloc ?_ ?_ _)
      all_goals first | (simp; done) | (simp; omega)
  · rw [h0] at hidx
    have HH := Lib.hid hh
    have HF := Lib.hid hf
    clear hh h0 hf hpk
    go_enter Try.func11, Try.ntmps11
    go_wp2_with fail
    refine hidx.mono ?_
    rintro e w1 ⟨rfl, hb1⟩
    have hB1 := since_step hB0 hb1
    have Bz := Bz.below hb1
    obtain ⟨lb, cb⟩ := _root_.id Bz
    have q0 := cb 0
    have q1 := cb 1
    have q2 := cb 2
    simp at q0 q1 q2
    clear cb
    have hfz : ∀ i, w1.frozen? ⟨w.heap.size, i, none⟩ = false := fun i => by rw [(hb1.frozen (p := ⟨w.heap.size, i, none⟩) (by simp))]; simp
    have hcs := @cell_set
    obtain ⟨b, o, rfl, hbw, hgat⟩ := ((hs.alloc (.cells #[.int .i64 0, .int .i64 0, .int .i64 0] 24)).below hb1).ax hk
    clear hb1 Bz hidx hs
    generalize l[k] = g at *
    obtain ⟨g0, g1, g2⟩ := hgat
    go_wp2_with fail
    refine bodyPost_ret (v := .tuple #[g.val, .bool true]) ?_ rfl ⟨?_, ?_⟩
    · simp [results, Try.results11, go_sem, q0, q1, q2, hfz, Ax.val]
    · rw [HF.out, HH.out]
    · repeat' (first | with_reducible exact hB1 | with_reducible refine Below.setCell ?_ ?_ _ | with_reducible refine Below.alloc ?_ ?_ _)
      all_goals first | (simp; done) | (simp; omega)

def okP (p : Int) : Prop := 0 ≤ p ∧ p ≤ 2147483647
instance (p : Int) : Decidable (okP p) := by unfold okP; infer_instance
def priceR (l : List Ax) (id p : Int) : Int × List Ax := if hasM l id = false then (11, []) else if ¬ okP p then (2, []) else (0, l.set (atL (idM id) l).toNat ⟨(findM l id).id, p, (findM l id).hc⟩)

set_option maxHeartbeats 4000000 in
theorem mput_any (A : Option Addr) (cap : Nat) (l : List Ax) (v : Ax) (w : World) (hl : l.length ≤ 900000) (hs : Sl w A (rc Ax.cells l)) :
    Calls Try.prog 7 #[.slice A l.length cap, v.val] w fun e w' => MRes w.heap.size w' e (putMR l v) ∧ Below w.heap.size w w' := by
  have hB0 := since_alloc (Below.refl _ w) (.cells v.cells.toArray 24)
  have hV0 := Ax.Bx.new w v
  have hs0 := hs.alloc (.cells v.cells.toArray 24)
  have HCK := Lib.hid (fun W => check_any v W)
  have HPL := Lib.hid (fun W h => mfind_any A cap l v.id W (by omega) h)
  clear hs
  by_cases hok : okM v
  · have HI : Hid ((if okM v then (0 : Int) else 2) = 0) := Lib.hid (if_pos hok)
    obtain ⟨q, hq⟩ : ∃ q, hasM l v.id = q := ⟨_, rfl⟩
    have HQ := Lib.hid hq
    have hR : putMR l v = if q = true then (12, []) else (0, putR ahM l v) := by rw [putMR, if_neg (by simpa using hok), hq]
    have HR := Lib.hid hR
    clear hok hq hR
    unfold Ax.val at HCK HPL ⊢
    cases q
    · go_enter Try.func7, Try.ntmps7
      go_wp2_with fail
      refine (HCK.out _).mono ?_
      rintro e w1 ⟨rfl, hb1⟩
      have hB1 := since_step hB0 hb1
      have hs1 := hs0.below hb1
      have hV1 := hV0.below hb1
      obtain ⟨g0, g1, g2⟩ := hV1.got
      have lv := hV1.lt
      clear hb1
      rw [HI.out]
      go_wp2_with fail
      refine (HPL.out _ hs1).mono ?_
      rw [HQ.out]
      rintro e w2 ⟨rfl, hb2⟩
      have hB2 := since_step hB1 hb2
      have hs2 := hs1.below hb2
      have hV2 := hV1.below hb2
      clear g0 g1 g2 lv hb2
      obtain ⟨g0, g1, g2⟩ := hV2.got
      have lv := hV2.lt
      generalize findM l v.id = fm
      go_wp2_with fail
      have hB2 := since_alloc hB2 (.cells fm.cells.toArray 24)
      have hs2 := hs2.alloc (.cells fm.cells.toArray 24)
      refine (put_ax A cap l v 17 #[] ahM _ (by omega) hs2 ent_mahead (tells_mahead _ _)).mono ?_
      rw [putL_eq]
      rintro e w3 ⟨⟨A3, c3, rfl, hown⟩, hb3⟩
      have hB3 := since_step hB2 hb3
      have hown2 := own_base hown hB2.size
      go_wp2_with fail
      go_ret2
      rw [HR.out]
      exact ⟨⟨A3, c3, rfl, hown2⟩, hB3⟩
    · go_enter Try.func7, Try.ntmps7
      go_wp2_with fail
      refine (HCK.out _).mono ?_
      rintro e w1 ⟨rfl, hb1⟩
      have hB1 := since_step hB0 hb1
      have hs1 := hs0.below hb1
      have hV1 := hV0.below hb1
      obtain ⟨g0, g1, g2⟩ := hV1.got
      have lv := hV1.lt
      clear hb1
      rw [HI.out]
      go_wp2_with fail
      refine (HPL.out _ hs1).mono ?_
      rw [HQ.out]
      rintro e w2 ⟨rfl, hb2⟩
      have hB2 := since_step hB1 hb2
      have hs2 := hs1.below hb2
      have hV2 := hV1.below hb2
      clear g0 g1 g2 lv hb2
      obtain ⟨g0, g1, g2⟩ := hV2.got
      have lv := hV2.lt
      generalize findM l v.id = fm
      go_wp2_with fail
      have hB2 := since_alloc hB2 (.cells fm.cells.toArray 24)
      have hs2 := hs2.alloc (.cells fm.cells.toArray 24)
      go_ret2
      rw [HR.out]
      exact ⟨MRes.nil _ _ _, hB2⟩
  · have HI : Hid ((if okM v then (0 : Int) else 2) = 2) := Lib.hid (if_neg hok)
    have HR : Hid (putMR l v = (2, [])) := Lib.hid (by rw [putMR, if_pos hok])
    clear hok
    unfold Ax.val at HCK ⊢
    go_enter Try.func7, Try.ntmps7
    go_wp2_with fail
    refine (HCK.out _).mono ?_
    rintro e w1 ⟨rfl, hb1⟩
    have hB1 := since_step hB0 hb1
    rw [HI.out]
    go_wp2_with fail
    go_ret2
    rw [HR.out]
    exact ⟨MRes.nil _ _ _, hB1⟩

set_option maxHeartbeats 4000000 in
theorem mpriced_any (A : Option Addr) (cap : Nat) (l : List Ax) (id p : Int) (w : World) (hl : l.length ≤ 900000) (hs : Sl w A (rc Ax.cells l)) :
    Calls Try.prog 9 #[.slice A l.length cap, .int .i64 id, .int .i64 p] w fun e w' => MRes w.heap.size w' e (priceR l id p) ∧ Below w.heap.size w w' := by
  have HPL := Lib.hid (fun W h => mplace_any A cap l id W (by omega) h)
  have HPP := Lib.hid (fun W => apriced_any p W)
  rcases mfind_cases l id with ⟨hh, hat, _⟩ | ⟨k, hk, hh, hat, hf, _⟩
  · have HR : Hid (priceR l id p = (11, [])) := Lib.hid (by rw [priceR, if_pos hh])
    have HAT := Lib.hid hat
    clear hh hat
    go_enter Try.func9, Try.ntmps9
    go_wp2_with fail
    refine (HPL.out _ hs).mono ?_
    rintro e w1 ⟨rfl, hb1⟩
    rw [HAT.out]
    go_wp2_with fail
    go_ret2
    rw [HR.out]
    exact ⟨MRes.nil _ _ _, hb1⟩
  · have HAT := Lib.hid hat
    have hk0 : ¬ ((k : Int) < 0) := by omega
    have hlk : (k : Int) < (l.length : Int) := by omega
    by_cases hp : okP p
    · have HP : Hid (apB p = true) := Lib.hid (by unfold apB; unfold okP at hp; simp [hp])
      have HR : Hid (priceR l id p = (0, l.set k ⟨l[k].id, p, l[k].hc⟩)) := Lib.hid (by rw [priceR, if_neg (by rw [hh]; decide), if_neg (by simpa using hp), hat, hf]; rfl)
      clear hh hat hf hp
      go_enter Try.func9, Try.ntmps9
      go_wp2_with fail
      refine (HPL.out _ hs).mono ?_
      rintro e w1 ⟨rfl, hb1⟩
      have hs1 := hs.below hb1
      rw [HAT.out]
      go_wp2_with fail
      refine (HPP.out _).mono ?_
      rintro e w2 ⟨rfl, rfl⟩
      rw [HP.out]
      obtain ⟨b, o, rfl, hbw, hg⟩ := hs1.ax hk
      obtain ⟨v, hv⟩ : ∃ v, l[k] = v := ⟨_, rfl⟩
      rw [hv] at HR hg
      clear hv
      obtain ⟨g0, g1, g2⟩ := hg
      have hcs := @cell_set
      go_wp2_with fail
      refine (set_ax (some ⟨b, o, none⟩) cap l k ⟨v.id, p, v.hc⟩ _ (by omega) hk (hs1.alloc _)).mono ?_
      rintro e w3 ⟨⟨A3, c3, rfl, hown⟩, hb3⟩
      have hB2 := since_alloc hb1 (.cells #[.int .i64 v.id, .int .i64 p, .int .i64 v.hc] 24)
      have hB3 := since_step hB2 hb3
      have hown2 := own_base hown hB2.size
      go_wp2_with fail
      go_ret2
      rw [HR.out]
      refine ⟨⟨A3, c3, ?_, ?_⟩, hB3⟩
      · simp only [List.length_set]; rfl
      · simp only [List.length_set]; exact hown2
    · have HP : Hid (apB p = false) := Lib.hid (by unfold apB; unfold okP at hp; simp only [Bool.and_eq_false_iff, decide_eq_false_iff_not]; omega)
      have HR : Hid (priceR l id p = (2, [])) := Lib.hid (by rw [priceR, if_neg (by rw [hh]; decide), if_pos hp])
      clear hh hat hf hp
      go_enter Try.func9, Try.ntmps9
      go_wp2_with fail
      refine (HPL.out _ hs).mono ?_
      rintro e w1 ⟨rfl, hb1⟩
      rw [HAT.out]
      go_wp2_with fail
      refine (HPP.out _).mono ?_
      rintro e w2 ⟨rfl, rfl⟩
      rw [HP.out]
      go_wp2_with fail
      go_ret2
      rw [HR.out]
      exact ⟨MRes.nil _ _ _, hb1⟩
end Go.Proofs.Ytjhdccnkfnaapaa
