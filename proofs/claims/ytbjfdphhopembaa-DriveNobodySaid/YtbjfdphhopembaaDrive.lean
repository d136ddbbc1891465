/-
  Layer 6, first part: a drive in memory; its small functions.
-/
import Derived.Test.YtbjfdphhopembaaAcct
import Derived.Test.YtbjfdphhopembaaRowS
import Derived.Test.YtbjfdphhopembaaApart
import Derived.Test.YtbjfdphhopembaaCrcWalk2
namespace Go.Proofs.Ytbjfdphhopembaa
open Go.ChangeShapes Go.WideShapes Go.ChangeAt Go.RowKit
set_option linter.unusedVariables false
set_option linter.unusedSimpArgs false

/-- memory changes at most in two blocks -/
structure Chg2 (b g : Nat) (w w' : World) : Prop where
  os : w'.os = w.os
  tape : w'.tape = w.tape
  output : w'.output = w.output
  size : w.heap.size ≤ w'.heap.size
  block : ∀ k, k < w.heap.size → k ≠ b → k ≠ g → w'.heap[k]? = w.heap[k]?
section
variable {b g : Nat} {w w1 w2 : World}
theorem Chg2.refl (b g : Nat) (w : World) : Chg2 b g w w := ⟨rfl, rfl, rfl, Nat.le_refl _, fun _ _ _ _ => rfl⟩
theorem Chg2.of_below (h : Below w.heap.size w w1) : Chg2 b g w w1 := ⟨h.os, h.tape, h.output, h.size, fun k hk _ _ => h.block k hk⟩
theorem Chg2.trans (h : Chg2 b g w w1) (k : Chg2 b g w1 w2) : Chg2 b g w w2 :=
  ⟨k.os.trans h.os, k.tape.trans h.tape, k.output.trans h.output, Nat.le_trans h.size k.size, fun j hj h1 h2 => (k.block j (Nat.lt_of_lt_of_le hj h.size) h1 h2).trans (h.block j hj h1 h2)⟩
theorem Chg2.step (h : Chg2 b g w w1) (k : Below w1.heap.size w1 w2) : Chg2 b g w w2 := h.trans (Chg2.of_below k)
theorem Chg2.set_b (i : Nat) (v : Value) : Chg2 b g w (w.setCell ⟨b, i, none⟩ v) := ⟨rfl, rfl, rfl, by simp, fun k _ hk _ => Below.heap_setCell _ _ _ _ hk⟩
theorem Chg2.below (h : Chg2 b g w w1) {B : Nat} (hB : B ≤ w.heap.size) (hb : B ≤ b) (hg : B ≤ g) : Below B w w1 :=
  ⟨h.os, h.tape, h.output, h.size, fun k hk => h.block k (by omega) (by omega) (by omega)⟩
theorem Chg2.own (h : Chg2 b g w w1) {base e size n : Nat} {v : Value} {xs : List Value} (ho : w.ownsRow base e size v n xs) (hb : v.ownBlock ≠ some b) (hg : v.ownBlock ≠ some g) : w1.ownsRow base e size v n xs := by
  obtain ⟨h1, h2⟩ := ho
  refine ⟨h1, ?_⟩
  rcases h2 with h2 | ⟨k, cap, cur, hv, hk, hh, hr⟩
  · exact .inl h2
  · refine .inr ⟨k, cap, cur, hv, hk, ?_, hr⟩
    subst hv
    rw [h.block k (Array.getElem?_eq_some_iff.1 hh).1 (fun e => hb (by rw [e]; rfl)) (fun e => hg (by rw [e]; rfl))]
    exact hh
theorem Chg2.cell (h : Chg2 b g w w1) {k o : Nat} (hk : k < w.heap.size) (hb : k ≠ b) (hg : k ≠ g) : w1.cell? ⟨k, o, none⟩ = w.cell? ⟨k, o, none⟩ := by
  have := h.block k hk hb hg
  unfold World.cell?
  simp only [this]
end
/-- a slice that lies off two blocks -/
def SlF (w : World) (b g : Nat) (A : Option Addr) (xs : List Value) : Prop := Sl w A xs ∧ (xs ≠ [] → ∀ p, A = some p → p.block ≠ b ∧ p.block ≠ g)
theorem SlF.chg {w w1 : World} {b g : Nat} {A : Option Addr} {xs : List Value} (h : SlF w b g A xs) (hc : Chg2 b g w w1) : SlF w1 b g A xs := by
  refine ⟨fun hne => ?_, h.2⟩
  obtain ⟨k, o, hA, hcs⟩ := h.1 hne
  obtain ⟨h1, h2⟩ := h.2 hne _ hA
  refine ⟨k, o, hA, fun j u hu => ?_⟩
  have := hcs j u hu
  rw [hc.cell (World.block_lt_of_cell? w _ this) h1 h2]
  exact this
theorem SlF.below {w w1 : World} {b g : Nat} {A : Option Addr} {xs : List Value} (h : SlF w b g A xs) (hb : Below w.heap.size w w1) : SlF w1 b g A xs := ⟨h.1.below hb, h.2⟩
theorem SlF.of_own {w : World} {b g base e size n c : Nat} {A : Option Addr} {xs : List Value} (ho : w.ownsRow base e size (.slice A n c) n xs) (hb : (Value.slice A n c).ownBlock ≠ some b) (hg : (Value.slice A n c).ownBlock ≠ some g) : SlF w b g A xs := by
  refine ⟨Sl.of_own ho, fun hne p hA => ?_⟩
  rcases ho.2 with ⟨hv, hn⟩ | ⟨k, cap, cur, hv, _⟩
  · injection hv with h1; rw [h1] at hA; cases hA
  · injection hv with h1
    subst h1
    injection hA with hA
    subst hA
    exact ⟨fun e => hb (by rw [← e]; rfl), fun e => hg (by rw [← e]; rfl)⟩
theorem SlF.of_old {w : World} {b g : Nat} {A : Option Addr} {xs : List Value} {W : Nat} (h : Sl w A xs) (hl : ∀ k o, A = some ⟨k, o, none⟩ → xs ≠ [] → k < W) (hb : W ≤ b) (hg : W ≤ g) : SlF w b g A xs := by
  refine ⟨h, fun hne p hA => ?_⟩
  obtain ⟨k, o, hA2, _⟩ := h hne
  rw [hA] at hA2
  injection hA2 with e
  subst e
  have := hl k o hA hne
  exact ⟨by show k ≠ b; omega, by show k ≠ g; omega⟩

/-- a drive, plainly -/
structure Dv where
  on : Bool
  fused : Bool
  spare : Int
  keep : List Nt
  S : List (List Nat)
  writes : Int
def Dv.cells (d : Dv) (g : Nat) (K : Option Addr) (kc : Nat) : Array Value := #[.bool d.on, .bool d.fused, .int .i64 d.spare, .slice K d.keep.length kc, .slice (some ⟨g, 0, none⟩) d.S.length d.S.length, .int .i64 d.writes]
def Dv.new (n : Nat) : Dv := ⟨true, false, 0, [], List.replicate n (List.replicate 96 0), 0⟩
structure DrA (B : Nat) (w : World) (b g : Nat) (K : Option Addr) (kc : Nat) (d : Dv) : Prop where
  blk : w.heap[b]? = some (.cells (d.cells g K kc) 45 (0, 0))
  row : w.heap[g]? = some (.cells (by8 d.S.flatten).toArray 81 (0, 0))
  kp : w.ownsRow B 3 1 (.slice K d.keep.length kc) d.keep.length (rc Nt.cells d.keep)
  ge : B ≤ b ∧ B ≤ g
  s96 : ∀ s ∈ d.S, s.length = 96
  oct : ∀ s ∈ d.S, Oct s
  len : 1 ≤ d.S.length ∧ d.S.length ≤ 2048
  sp : 0 ≤ d.spare ∧ d.spare ≤ 9223372036854775807
  kl : d.keep.length ≤ 1000000
def DrW (B : Nat) (w : World) (b g : Nat) (d : Dv) : Prop := ∃ K kc, DrA B w b g K kc d
section
variable {B b g kc : Nat} {w w' : World} {K : Option Addr} {d : Dv}
theorem DrA.lt (h : DrA B w b g K kc d) : b < w.heap.size ∧ g < w.heap.size := ⟨(Array.getElem?_eq_some_iff.1 h.blk).1, (Array.getElem?_eq_some_iff.1 h.row).1⟩
theorem DrA.ne (h : DrA B w b g K kc d) : b ≠ g := fun e => by
  have h1 := h.blk
  rw [e, h.row] at h1
  injection h1 with h1
  injection h1 with _ h2
  exact absurd h2 (by decide)
theorem DrA.kb (h : DrA B w b g K kc d) : (Value.slice K d.keep.length kc).ownBlock ≠ some b := own_type h.kp h.blk (by decide)
theorem DrA.kg (h : DrA B w b g K kc d) : (Value.slice K d.keep.length kc).ownBlock ≠ some g := own_type h.kp h.row (by decide)
theorem DrA.below (h : DrA B w b g K kc d) (hb : Below w.heap.size w w') : DrA B w' b g K kc d :=
  ⟨by rw [hb.block b h.lt.1]; exact h.blk, by rw [hb.block g h.lt.2]; exact h.row, own_below h.kp hb, h.ge, h.s96, h.oct, h.len, h.sp, h.kl⟩
theorem DrW.below (h : DrW B w b g d) (hb : Below w.heap.size w w') : DrW B w' b g d := by
  obtain ⟨K, kc, h⟩ := h
  exact ⟨K, kc, h.below hb⟩
/-- a row of other things lies off a drive -/
theorem DrA.off (h : DrA B w b g K kc d) {base e size n : Nat} {v : Value} {xs : List Value} (ho : w.ownsRow base e size v n xs) (h1 : e ≠ 45) (h2 : e ≠ 81) : v.ownBlock ≠ some b ∧ v.ownBlock ≠ some g :=
  ⟨own_type ho h.blk h1, own_type ho h.row h2⟩
theorem DrA.got (h : DrA B w b g K kc d) : w.cell? ⟨b, 0, none⟩ = some (.bool d.on) ∧ w.cell? ⟨b, 1, none⟩ = some (.bool d.fused) ∧ w.cell? ⟨b, 2, none⟩ = some (.int .i64 d.spare) ∧ w.cell? ⟨b, 3, none⟩ = some (.slice K d.keep.length kc) ∧
    w.cell? ⟨b, 4, none⟩ = some (.slice (some ⟨g, 0, none⟩) d.S.length d.S.length) ∧ w.cell? ⟨b, 5, none⟩ = some (.int .i64 d.writes) := by
  refine ⟨?_, ?_, ?_, ?_, ?_, ?_⟩ <;> (rw [cell_of_row w b _ _ _ (0, 0) h.blk]; rfl)
theorem DrA.fz (h : DrA B w b g K kc d) (i : Nat) : w.frozen? ⟨b, i, none⟩ = false := by simp [World.frozen?, h.blk]
/-- a block behind a store -/
theorem set_blk {w : World} {b i : Nat} {cur : Array Value} {t : TypeId} (v : Value) (h : w.heap[b]? = some (.cells cur t (0, 0))) : (w.setCell ⟨b, i, none⟩ v).heap[b]? = some (.cells (cur.setIfInBounds i v) t (0, 0)) := by
  rw [setCell_eq_setRow w b i _ t (0, 0) _ h]
  exact setRow_heap w b _ _ t (0, 0) h
theorem set_far {w : World} {p : Addr} (v : Value) {k : Nat} (h : k ≠ p.block) : (w.setCell p v).heap[k]? = w.heap[k]? := Below.heap_setCell _ _ _ _ h
end
/-- another box's cells; the sectors stay -/
theorem DrA.turn {B b g kc kc' : Nat} {w w' : World} {K K' : Option Addr} {d d' : Dv} (h : DrA B w b g K kc d) (hs : d'.S = d.S) (hb : w'.heap[b]? = some (.cells (d'.cells g K' kc') 45 (0, 0))) (hg : w'.heap[g]? = w.heap[g]?)
    (hk : w'.ownsRow B 3 1 (.slice K' d'.keep.length kc') d'.keep.length (rc Nt.cells d'.keep)) (sp : 0 ≤ d'.spare ∧ d'.spare ≤ 9223372036854775807) (kl : d'.keep.length ≤ 1000000) : DrA B w' b g K' kc' d' :=
  ⟨hb, by rw [hg, hs]; exact h.row, hk, h.ge, by rw [hs]; exact h.s96, by rw [hs]; exact h.oct, by rw [hs]; exact h.len, sp, kl⟩

set_option maxHeartbeats 1000000 in
set_option maxRecDepth 100000 in
theorem dsize_any {B b g kc : Nat} {K : Option Addr} {d : Dv} (w : World) (h : DrA B w b g K kc d) :
    Calls Try.prog 21 #[.pointer (some ⟨b, 0, none⟩)] w fun e w' => e = .returned (.int .i64 d.S.length) ∧ Below w.heap.size w w' := by
  obtain ⟨k0, k1, k2, k3, k4, k5⟩ := h.got
  have hlt := h.lt.1
  generalize d.S.length = n at *
  clear h
  go_enter Try.func21, Try.ntmps21
  go_wp2_with fail
  go_ret
  exact ⟨rfl, Below.refl _ _⟩
set_option maxHeartbeats 1000000 in
set_option maxRecDepth 100000 in
theorem dlive_any {B b g kc : Nat} {K : Option Addr} {d : Dv} (w : World) (h : DrA B w b g K kc d) :
    Calls Try.prog 15 #[.pointer (some ⟨b, 0, none⟩)] w fun e w' => e = .returned (.bool d.on) ∧ Below w.heap.size w w' := by
  obtain ⟨k0, k1, k2, k3, k4, k5⟩ := h.got
  have hlt := h.lt.1
  generalize d.on = n at *
  clear h
  go_enter Try.func15, Try.ntmps15
  go_wp2_with fail
  go_ret
  exact ⟨rfl, Below.refl _ _⟩
set_option maxHeartbeats 1000000 in
set_option maxRecDepth 100000 in
theorem dready_any {B b g kc : Nat} {K : Option Addr} {d : Dv} (w : World) (h : DrA B w b g K kc d) :
    Calls Try.prog 41 #[.pointer (some ⟨b, 0, none⟩)] w fun e w' => e = .returned (.int .i64 (if d.on = true then 0 else 9)) ∧ Below w.heap.size w w' := by
  have HS := Lib.hid (dsize_any w h)
  have hlt := h.lt.1
  have HG := Lib.hid (fun V (hV : Below w.heap.size w V) => (h.below hV).got.1)
  have hn : (((d.S.length : Nat) : Int) == 0) = false := by have := h.len.1; simpa using (by omega : ((d.S.length : Nat) : Int) ≠ 0)
  generalize d.S.length = n at *
  obtain ⟨m, hm⟩ : ∃ m, d.on = m := ⟨_, rfl⟩
  rw [hm] at HG ⊢
  clear h hm
  go_enter Try.func41, Try.ntmps41
  go_wp2_with fail
  refine HS.out.mono ?_
  rintro e w1 ⟨rfl, hb⟩
  have k0 := HG.out _ hb
  have hlt1 : b < w1.heap.size := Nat.lt_of_lt_of_le hlt hb.size
  cases m with
  | true =>
    go_wp2_with fail
    go_ret
    exact ⟨rfl, hb⟩
  | false =>
    go_wp2_with fail
    go_ret
    exact ⟨rfl, hb⟩
set_option maxHeartbeats 1000000 in
set_option maxRecDepth 100000 in
theorem dwrites_any {B b g kc : Nat} {K : Option Addr} {d : Dv} (w : World) (h : DrA B w b g K kc d) :
    Calls Try.prog 22 #[.pointer (some ⟨b, 0, none⟩)] w fun e w' => e = .returned (.int .i64 d.writes) ∧ Below w.heap.size w w' := by
  obtain ⟨k0, k1, k2, k3, k4, k5⟩ := h.got
  have hlt := h.lt.1
  generalize d.writes = n at *
  clear h
  go_enter Try.func22, Try.ntmps22
  go_wp2_with fail
  go_ret
  exact ⟨rfl, Below.refl _ _⟩
end Go.Proofs.Ytbjfdphhopembaa
