import Derived.Test.YtmjndpkfhdoljaaGreatCm02
import Derived.Test.YtmjndpkfhdoljaaGreatCm31
set_option maxHeartbeats 16000000
set_option maxRecDepth 100000
set_option linter.unusedVariables false
set_option linter.unusedSimpArgs false
namespace Go.Proofs.YtmjndpkfhdoljaaGreat
open Go.ChangeShapes Go.WideShapes Go.ChangeAt Go.RowKit
section
abbrev okM (v : Ax) : Prop := okA ⟨v.id, v.price, v.hc⟩
theorem mis_any (v : Ax) (w : World) :
    Calls Tryz.prog 82 #[v.val] w fun e w' => e = .returned (.bool (decide (okM v))) ∧ Below w.heap.size w w' := arIs_any ⟨v.id, v.price, v.hc⟩ w
def ahM (x y : Ax) : Bool := decide (x.id < y.id)
def idM (id : Int) (x : Ax) : Bool := x.id == id
def findM (l : List Ax) (id : Int) : Ax := pickL (idM id) Ax.zero l
def hasM (l : List Ax) (id : Int) : Bool := (l.find? (idM id)).isSome
theorem mfind_cases (l : List Ax) (id : Int) : (hasM l id = false ∧ atL (idM id) l = -1 ∧ findM l id = Ax.zero ∧ l.find? (idM id) = none) ∨ ∃ k : Nat, ∃ hk : k < l.length, hasM l id = true ∧ atL (idM id) l = k ∧ findM l id = l[k] ∧ idM id l[k] = true ∧ ∀ j, (hj : j < k) → idM id (l[j]'(by omega)) = false := by
  rcases atL_cases (idM id) l with ⟨h0, hno⟩ | ⟨k, hk, h0, hpk, hno⟩
  · have hf := find_none hno
    exact .inl ⟨by rw [hasM, hf]; rfl, h0, by rw [findM, pickL, hf]; rfl, hf⟩
  · have hf := find_some hk hno hpk
    exact .inr ⟨k, hk, by rw [hasM, hf]; rfl, h0, by rw [findM, pickL, hf]; rfl, hpk, hno⟩
def putMR (l : List Ax) (v : Ax) : Int × List Ax := if ¬ okM v then (2, []) else if hasM l v.id = true then (12, []) else (0, putR ahM l v)
theorem mplace1_any (x : Ax) (id : Int) (b : Nat) (w : World) (h0 : w.cell? ⟨b, 0, none⟩ = some (.int .i64 id)) :
    Calls Tryz.prog 120 #[x.val, .pointer (some ⟨b, 0, none⟩)] w fun e w' => e = .returned (.bool (idM id x)) ∧ Below w.heap.size w w' := by
  have hB := since_alloc (Below.refl _ w) (.cells x.cells.toArray 63)
  have hlt := World.block_lt_of_cell? _ _ h0
  unfold Ax.val
  go_enter Tryz.func120, Tryz.ntmps120
  go_wp2_with fail
  go_ret
  exact ⟨rfl, hB⟩
theorem ent_mplace1 : Ent Tryz.prog 120 := Ent.of (by kernel_rfl)
theorem tells_mplace1 (id : Int) (b : Nat) (w : World) (h : w.cell? ⟨b, 0, none⟩ = some (.int .i64 id)) : Ax.Tells 120 #[.pointer (some ⟨b, 0, none⟩)] (idM id) w.heap.size w :=
  fun x W hW => mplace1_any x id b W ((hW.cell (p := ⟨b, 0, none⟩) (World.block_lt_of_cell? _ _ h)).trans h)
theorem mplace_any (A : Option Addr) (cap : Nat) (l : List Ax) (id : Int) (w : World) (hl : l.length ≤ 1000000) (hs : Sl w A (rc Ax.cells l)) :
    Calls Tryz.prog 108 #[.slice A l.length cap, .int .i64 id] w fun e w' => e = .returned (.int .i64 (atL (idM id) l)) ∧ Below w.heap.size w w' := by
  go_enter Tryz.func108, Tryz.ntmps108
  go_wp2_with fail
  refine (index_ax A cap l 120 #[.pointer (some ⟨w.heap.size, 0, none⟩)] (idM id) _ hl (hs.alloc _) ent_mplace1 (tells_mplace1 id w.heap.size _ (by simp))).mono ?_
  rintro e w1 ⟨rfl, hb1⟩
  have hB1 := since_step (since_alloc (Below.refl _ _) _) hb1
  clear hb1
  go_wp2_with fail
  go_ret
  exact ⟨rfl, hB1⟩
def MRes (B : Nat) (w' : World) (e : Ending) (R : Int × List Ax) : Prop :=
  ∃ A' c', e = .returned (.tuple #[.slice A' R.2.length c', .int .i64 R.1]) ∧ w'.ownsRow B 63 3 (.slice A' R.2.length c') R.2.length (rc Ax.cells R.2)
theorem MRes.nil (B : Nat) (w' : World) (n : Int) : MRes B w' (.returned (.tuple #[.slice none 0 0, .int .i64 n])) (n, []) := ⟨none, 0, rfl, own_nil _ _ _⟩
theorem boolM_ext {a b : Bool} (h : a = true ↔ b = true) : a = b := by cases a <;> cases b <;> simp_all
theorem ordM : Ord ahM where
  tr := fun a b c h1 h2 => by simp only [ahM, decide_eq_true_eq] at *; omega
  asy := fun a b h => by simp only [ahM, decide_eq_true_eq, decide_eq_false_iff_not] at *; omega
  cong := fun a x b h1 h2 => boolM_ext (by simp only [ahM, decide_eq_true_eq, decide_eq_false_iff_not] at *; omega)
  cong2 := fun a x b h1 h2 => boolM_ext (by simp only [ahM, decide_eq_true_eq, decide_eq_false_iff_not] at *; omega)
theorem idM_iff (id : Int) (x : Ax) : idM id x = true ↔ x.id = id := by simp [idM]
abbrev Sorted (l : List Ax) : Prop := l.Pairwise (fun a b => ahM a b = true)
theorem insM {l : List Ax} (h : Sorted l) (v : Ax) (hn : l.find? (idM v.id) = none) :
    l.take (l.findIdx fun y => !ahM y v) ++ v :: l.drop (l.findIdx fun y => !ahM y v) = putR ahM l v := by
  rw [← refPut_eq ordM v l h]
  have e : (l.filter fun y => !eqv ahM v y) = l := by
    rw [List.filter_eq_self]
    intro y hy
    rw [List.find?_eq_none] at hn
    have := hn y hy
    rw [idM_iff] at this
    simp only [eqv, ahM, Bool.not_eq_true', Bool.and_eq_false_iff, decide_eq_false_iff_not, decide_eq_true_eq, Bool.not_eq_false']
    omega
  unfold refPut
  rw [e]
theorem mfind_any (A : Option Addr) (cap : Nat) (l : List Ax) (id : Int) (w : World) (hl : l.length ≤ 1000000) (hs : Sl w A (rc Ax.cells l)) :
    Calls Tryz.prog 85 #[.slice A l.length cap, .int .i64 id] w fun e w' => e = .returned (.tuple #[(findM l id).val, .bool (hasM l id)]) ∧ Below w.heap.size w w' := by
  have hB0 := since_alloc (Below.refl w.heap.size w) (.cells #[.int .i64 0, .int .i64 0, .int .i64 0] 63)
  have hidx := mplace_any A cap l id (w.alloc (.cells #[.int .i64 0, .int .i64 0, .int .i64 0] 63)) hl (hs.alloc _)
  have Bz := Bk.new w #[.int .i64 0, .int .i64 0, .int .i64 0] 63
  rcases mfind_cases l id with ⟨hh, h0, hf, _⟩ | ⟨k, hk, hh, h0, hf, hpk, _⟩
  · rw [h0] at hidx
    have HH := Lib.hid hh
    have HF := Lib.hid hf
    clear hh h0 hf
    go_enter Tryz.func85, Tryz.ntmps85
    go_wp2_with fail
    refine hidx.mono ?_
    rintro e w1 ⟨rfl, hb1⟩
    have hB1 := since_step hB0 hb1
    have Bz := Bz.below hb1
    obtain ⟨lb, cb⟩ := _root_.id Bz
    have q0 := cb 0
    have q1 := cb 1
    have q2 := cb 2
    simp at q0 q1 q2
    clear cb
    have hfz : ∀ i, w1.frozen? ⟨w.heap.size, i, none⟩ = false := fun i => by rw [(hb1.frozen (p := ⟨w.heap.size, i, none⟩) (by simp))]; simp
    have hcs := @cell_set
    clear hb1 Bz hidx
    go_wp2_with fail
    refine bodyPost_ret (v := .tuple #[Ax.zero.val, .bool false]) ?_ rfl ⟨?_, ?_⟩
    · simp [results, Tryz.results85, go_sem, q0, q1, q2, hfz, Ax.zero, Ax.val]
    · rw [HF.out, HH.out]
    · repeat' (first | with_reducible exact hB1 | with_reducible refine Below.setCell ?_ ?_ _ | with_reducible refine Below.alloc ?_ ?_ _)
      all_goals first | (simp; done) | (simp; omega)
  · rw [h0] at hidx
    have HH := Lib.hid hh
    have HF := Lib.hid hf
    clear hh h0 hf hpk
    go_enter Tryz.func85, Tryz.ntmps85
    go_wp2_with fail
    refine hidx.mono ?_
    rintro e w1 ⟨rfl, hb1⟩
    have hB1 := since_step hB0 hb1
    have Bz := Bz.below hb1
    obtain ⟨lb, cb⟩ := _root_.id Bz
    have q0 := cb 0
    have q1 := cb 1
    have q2 := cb 2
    simp at q0 q1 q2
    clear cb
    have hfz : ∀ i, w1.frozen? ⟨w.heap.size, i, none⟩ = false := fun i => by rw [(hb1.frozen (p := ⟨w.heap.size, i, none⟩) (by simp))]; simp
    have hcs := @cell_set
    obtain ⟨b, o, rfl, hbw, hgat⟩ := ((hs.alloc (.cells #[.int .i64 0, .int .i64 0, .int .i64 0] 63)).below hb1).ax hk
    clear hb1 Bz hidx hs
    generalize l[k] = g at *
    obtain ⟨g0, g1, g2⟩ := hgat
    go_wp2_with fail
    refine bodyPost_ret (v := .tuple #[g.val, .bool true]) ?_ rfl ⟨?_, ?_⟩
    · simp [results, Tryz.results85, go_sem, q0, q1, q2, hfz, Ax.val]
    · rw [HF.out, HH.out]
    · repeat' (first | with_reducible exact hB1 | with_reducible refine Below.setCell ?_ ?_ _ | with_reducible refine Below.alloc ?_ ?_ _)
      all_goals first | (simp; done) | (simp; omega)
def okP (p : Int) : Prop := 0 ≤ p ∧ p ≤ 2147483647
instance (p : Int) : Decidable (okP p) := by unfold okP; infer_instance
end
section
def FindMRel (l : List Ax) (id : Int) (W0 : World) (i : Value) (wr : World) : Prop :=
  ∃ k : Nat, k ≤ l.length ∧ i = .int .i64 k ∧ (∀ j, (hj : j < l.length) → j < k → idM id l[j] = false) ∧ Below W0.heap.size W0 wr
theorem rfindm_any (A : Option Addr) (cap : Nat) (l : List Ax) (id : Int) (w : World) (hl : l.length ≤ 1000000) (hs : Sl w A (rc Ax.cells l)) :
    Calls Tryz.prog 83 #[.slice A l.length cap, .int .i64 id] w fun e w' => e = .returned (.tuple #[(findM l id).val, .bool (hasM l id)]) ∧ Below w.heap.size w w' := by
  have hB0 := since_alloc (Below.refl w.heap.size w) (.cells #[.int .i64 0, .int .i64 0, .int .i64 0] 63)
  have Bz0 := Bk.new w #[.int .i64 0, .int .i64 0, .int .i64 0] 63
  have hfz0 : ∀ i, (w.alloc (.cells #[.int .i64 0, .int .i64 0, .int .i64 0] 63)).frozen? ⟨w.heap.size, i, none⟩ = false := fun i => by simp
  have hs0 := hs.alloc (.cells #[.int .i64 0, .int .i64 0, .int .i64 0] 63)
  go_enter Tryz.func83, Tryz.ntmps83
  go_upto_region 1 with fail
  generalize hWW : w.alloc (.cells #[.int .i64 0, .int .i64 0, .int .i64 0] 63) = W0 at *
  clear hWW hs
  have hz1 : w.heap.size < W0.heap.size := Bz0.1
  have HZ : Hid (∀ V, Below W0.heap.size W0 V → Bk V w.heap.size #[.int .i64 0, .int .i64 0, .int .i64 0] ∧ ∀ i, V.frozen? ⟨w.heap.size, i, none⟩ = false) := Lib.hid fun V hV =>
    ⟨Bz0.below hV, fun i => by rw [(hV.frozen (p := ⟨w.heap.size, i, none⟩) hz1)]; exact hfz0 i⟩
  clear Bz0 hfz0
  go_wp2_with fail
  go_loopw [6] (fun i wr => FindMRel l id W0 i wr) (fun i _ => l.length - (intOf i).toNat)
  case atStart => exact ⟨0, by omega, rfl, fun j hj h => absurd h (by omega), Below.refl _ _⟩
  case round =>
    obtain ⟨k, hk, rfl, hno, hB⟩ := hrel
    have hB3 := hB0.trans (hB.mono (Nat.le_of_lt hz1))
    obtain ⟨⟨lb, cb⟩, hfz⟩ := HZ.out wr hB
    have q0 := cb 0
    have q1 := cb 1
    have q2 := cb 2
    simp at q0 q1 q2
    have hcs := @cell_set
    clear cb
    by_cases hlt2 : k < l.length
    · obtain ⟨b, o, rfl, hbw, hg⟩ := hs0.ax hlt2
      have hg1 : l[k].at wr b (o + k * 3) := Ax.at_keep (w := W0) hg fun i => hB.cell (p := ⟨b, i, none⟩) hbw
      have HX : Hid (∀ q : Bool, idM id l[k] = q → if q then findM l id = l[k] ∧ hasM l id = true else ∀ j, (hj : j < l.length) → j < k + 1 → idM id l[j] = false) := Lib.hid fun q hq => by
        cases q with
        | true =>
          have := find_some hlt2 (fun j hj => hno j (by omega) hj) hq
          exact ⟨by rw [findM, pickL, this]; rfl, by rw [hasM, this]; rfl⟩
        | false =>
          intro j hj hjk
          rcases Nat.lt_or_ge j k with h | h
          · exact hno j hj h
          · obtain rfl : j = k := by omega
            exact hq
      have hlk : (k : Int) < (l.length : Int) := by omega
      clear hg hs0 hbw hno
      generalize l[k] = v at hg1 HX
      obtain ⟨vid, room, phase⟩ := v
      obtain ⟨g0, g1, g2⟩ := hg1
      simp only at g0 g1 g2
      by_cases h1 : vid = id
      · subst h1
        have HF := Lib.hid (show findM l vid = _ ∧ hasM l vid = true by simpa using HX.out true (by simp [idM]))
        clear HX
        go_wp2_with fail
        refine bodyPost_ret (v := .tuple #[(⟨vid, room, phase⟩ : Ax).val, .bool true]) ?_ rfl ⟨?_, ?_⟩
        · simp [results, Tryz.results83, go_sem, q0, q1, q2, hfz, Ax.val]
        · rw [HF.out.1, HF.out.2]
        · repeat' (first | with_reducible exact hB3 | with_reducible refine Below.drew ?_ | with_reducible refine Below.setCell ?_ ?_ _ | with_reducible refine Below.alloc ?_ ?_ _)
          all_goals exact Nat.le_refl _
      · have HN := Lib.hid (show ∀ j, (hj : j < l.length) → j < k + 1 → idM id l[j] = false by simpa using HX.out false (by simp [idM, h1]))
        have h1b : (vid == id) = false := by simpa using h1
        clear HX h1
        go_wp2_with fail
        go_roundw
        case rel => exact ⟨k + 1, by omega, by go_num, HN.out, hB⟩
        case measure => simp [intOf]; omega
    · have hfn := find_none (p := idM id) fun j hj => hno j hj (by omega)
      have HF := Lib.hid (show findM l id = Ax.zero ∧ hasM l id = false from ⟨by rw [findM, pickL, hfn]; rfl, by rw [hasM, hfn]; rfl⟩)
      clear hno hfn HZ
      go_wp2_with fail
      refine bodyPost_ret (v := .tuple #[Ax.zero.val, .bool false]) ?_ rfl ⟨?_, ?_⟩
      · simp [results, Tryz.results83, go_sem, q0, q1, q2, hfz, Ax.val, Ax.zero]
      · rw [HF.out.1, HF.out.2]
      · repeat' (first | with_reducible exact hB3 | with_reducible refine Below.setCell ?_ ?_ _ | with_reducible refine Below.alloc ?_ ?_ _)
        all_goals exact Nat.le_refl _
end
end Go.Proofs.YtmjndpkfhdoljaaGreat
