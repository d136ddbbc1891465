import Derived.Test.YtiggcpfmmgmncaaSp02
import Derived.Test.YtiggcpfmmgmncaaSp05
import Derived.Test.YtiggcpfmmgmncaaSp14
import Derived.Test.YtiggcpfmmgmncaaSp17
section
namespace Go.Proofs.Ytiggcpfmmgmncaa
open Go.ChangeShapes Go.WideShapes Go.ChangeAt Go.RowKit
set_option linter.unusedVariables false
set_option linter.unusedSimpArgs false

structure Chg2 (b g : Nat) (w w' : World) : Prop where
  os : w'.os = w.os
  tape : w'.tape = w.tape
  output : w'.output = w.output
  size : w.heap.size ≤ w'.heap.size
  block : ∀ k, k < w.heap.size → k ≠ b → k ≠ g → w'.heap[k]? = w.heap[k]?
section
variable {b g : Nat} {w w1 w2 : World}
theorem Chg2.refl (b g : Nat) (w : World) : Chg2 b g w w := ⟨rfl, rfl, rfl, Nat.le_refl _, fun _ _ _ _ => rfl⟩
theorem Chg2.of_below (h : Below w.heap.size w w1) : Chg2 b g w w1 := ⟨h.os, h.tape, h.output, h.size, fun k hk _ _ => h.block k hk⟩
theorem Chg2.trans (h : Chg2 b g w w1) (k : Chg2 b g w1 w2) : Chg2 b g w w2 :=
  ⟨k.os.trans h.os, k.tape.trans h.tape, k.output.trans h.output, Nat.le_trans h.size k.size, fun j hj h1 h2 => (k.block j (Nat.lt_of_lt_of_le hj h.size) h1 h2).trans (h.block j hj h1 h2)⟩
theorem Chg2.step (h : Chg2 b g w w1) (k : Below w1.heap.size w1 w2) : Chg2 b g w w2 := h.trans (Chg2.of_below k)
theorem Chg2.set_b (i : Nat) (v : Value) : Chg2 b g w (w.setCell ⟨b, i, none⟩ v) := ⟨rfl, rfl, rfl, by simp, fun k _ hk _ => Below.heap_setCell _ _ _ _ hk⟩
theorem Chg2.below (h : Chg2 b g w w1) {B : Nat} (hB : B ≤ w.heap.size) (hb : B ≤ b) (hg : B ≤ g) : Below B w w1 :=
  ⟨h.os, h.tape, h.output, h.size, fun k hk => h.block k (by omega) (by omega) (by omega)⟩
theorem Chg2.own (h : Chg2 b g w w1) {base e size n : Nat} {v : Value} {xs : List Value} (ho : w.ownsRow base e size v n xs) (hb : v.ownBlock ≠ some b) (hg : v.ownBlock ≠ some g) : w1.ownsRow base e size v n xs := by
  obtain ⟨h1, h2⟩ := ho
  refine ⟨h1, ?_⟩
  rcases h2 with h2 | ⟨k, cap, cur, hv, hk, hh, hr⟩
  · exact .inl h2
  · refine .inr ⟨k, cap, cur, hv, hk, ?_, hr⟩
    subst hv
    rw [h.block k (Array.getElem?_eq_some_iff.1 hh).1 (fun e => hb (by rw [e]; rfl)) (fun e => hg (by rw [e]; rfl))]
    exact hh
theorem Chg2.cell (h : Chg2 b g w w1) {k o : Nat} (hk : k < w.heap.size) (hb : k ≠ b) (hg : k ≠ g) : w1.cell? ⟨k, o, none⟩ = w.cell? ⟨k, o, none⟩ := by
  have := h.block k hk hb hg
  unfold World.cell?
  simp only [this]
end
def SlF (w : World) (b g : Nat) (A : Option Addr) (xs : List Value) : Prop := Sl w A xs ∧ (xs ≠ [] → ∀ p, A = some p → p.block ≠ b ∧ p.block ≠ g)
theorem SlF.chg {w w1 : World} {b g : Nat} {A : Option Addr} {xs : List Value} (h : SlF w b g A xs) (hc : Chg2 b g w w1) : SlF w1 b g A xs := by
  refine ⟨fun hne => ?_, h.2⟩
  obtain ⟨k, o, hA, hcs⟩ := h.1 hne
  obtain ⟨h1, h2⟩ := h.2 hne _ hA
  refine ⟨k, o, hA, fun j u hu => ?_⟩
  have := hcs j u hu
  rw [hc.cell (World.block_lt_of_cell? w _ this) h1 h2]
  exact this
theorem SlF.below {w w1 : World} {b g : Nat} {A : Option Addr} {xs : List Value} (h : SlF w b g A xs) (hb : Below w.heap.size w w1) : SlF w1 b g A xs := ⟨h.1.below hb, h.2⟩
theorem SlF.of_own {w : World} {b g base e size n c : Nat} {A : Option Addr} {xs : List Value} (ho : w.ownsRow base e size (.slice A n c) n xs) (hb : (Value.slice A n c).ownBlock ≠ some b) (hg : (Value.slice A n c).ownBlock ≠ some g) : SlF w b g A xs := by
  refine ⟨Sl.of_own ho, fun hne p hA => ?_⟩
  rcases ho.2 with ⟨hv, hn⟩ | ⟨k, cap, cur, hv, _⟩
  · injection hv with h1; rw [h1] at hA; cases hA
  · injection hv with h1
    subst h1
    injection hA with hA
    subst hA
    exact ⟨fun e => hb (by rw [← e]; rfl), fun e => hg (by rw [← e]; rfl)⟩
theorem SlF.of_old {w : World} {b g : Nat} {A : Option Addr} {xs : List Value} {W : Nat} (h : Sl w A xs) (hl : ∀ k o, A = some ⟨k, o, none⟩ → xs ≠ [] → k < W) (hb : W ≤ b) (hg : W ≤ g) : SlF w b g A xs := by
  refine ⟨h, fun hne p hA => ?_⟩
  obtain ⟨k, o, hA2, _⟩ := h hne
  rw [hA] at hA2
  injection hA2 with e
  subst e
  have := hl k o hA hne
  exact ⟨by show k ≠ b; omega, by show k ≠ g; omega⟩
structure Dv where
  on : Bool
  fused : Bool
  spare : Int
  keep : List Nt
  S : List (List Nat)
  writes : Int
def Dv.cells (d : Dv) (g : Nat) (K : Option Addr) (kc : Nat) : Array Value := #[.bool d.on, .bool d.fused, .int .i64 d.spare, .slice K d.keep.length kc, .slice (some ⟨g, 0, none⟩) d.S.length d.S.length, .int .i64 d.writes]
def Dv.new (n : Nat) : Dv := ⟨true, false, 0, [], List.replicate n (List.replicate 96 0), 0⟩
structure DrA (B : Nat) (w : World) (b g : Nat) (K : Option Addr) (kc : Nat) (d : Dv) : Prop where
  blk : w.heap[b]? = some (.cells (d.cells g K kc) 71 (0, 0))
  row : w.heap[g]? = some (.cells (by8 d.S.flatten).toArray 142 (0, 0))
  kp : w.ownsRow B 3 1 (.slice K d.keep.length kc) d.keep.length (rc Nt.cells d.keep)
  ge : B ≤ b ∧ B ≤ g
  s96 : ∀ s ∈ d.S, s.length = 96
  oct : ∀ s ∈ d.S, Oct s
  len : 1 ≤ d.S.length ∧ d.S.length ≤ 2048
  sp : 0 ≤ d.spare ∧ d.spare ≤ 9223372036854775807
  kl : d.keep.length ≤ 1000000
def DrW (B : Nat) (w : World) (b g : Nat) (d : Dv) : Prop := ∃ K kc, DrA B w b g K kc d
section
variable {B b g kc : Nat} {w w' : World} {K : Option Addr} {d : Dv}
theorem DrA.lt (h : DrA B w b g K kc d) : b < w.heap.size ∧ g < w.heap.size := ⟨(Array.getElem?_eq_some_iff.1 h.blk).1, (Array.getElem?_eq_some_iff.1 h.row).1⟩
theorem DrA.ne (h : DrA B w b g K kc d) : b ≠ g := fun e => by
  have h1 := h.blk
  rw [e, h.row] at h1
  injection h1 with h1
  injection h1 with _ h2
  exact absurd h2 (by decide)
theorem DrA.kb (h : DrA B w b g K kc d) : (Value.slice K d.keep.length kc).ownBlock ≠ some b := own_type h.kp h.blk (by decide)
theorem DrA.kg (h : DrA B w b g K kc d) : (Value.slice K d.keep.length kc).ownBlock ≠ some g := own_type h.kp h.row (by decide)
theorem DrA.below (h : DrA B w b g K kc d) (hb : Below w.heap.size w w') : DrA B w' b g K kc d :=
  ⟨by rw [hb.block b h.lt.1]; exact h.blk, by rw [hb.block g h.lt.2]; exact h.row, own_below h.kp hb, h.ge, h.s96, h.oct, h.len, h.sp, h.kl⟩
theorem DrW.below (h : DrW B w b g d) (hb : Below w.heap.size w w') : DrW B w' b g d := by
  obtain ⟨K, kc, h⟩ := h
  exact ⟨K, kc, h.below hb⟩
theorem DrA.off (h : DrA B w b g K kc d) {base e size n : Nat} {v : Value} {xs : List Value} (ho : w.ownsRow base e size v n xs) (h1 : e ≠ 71) (h2 : e ≠ 142) : v.ownBlock ≠ some b ∧ v.ownBlock ≠ some g :=
  ⟨own_type ho h.blk h1, own_type ho h.row h2⟩
theorem DrA.got (h : DrA B w b g K kc d) : w.cell? ⟨b, 0, none⟩ = some (.bool d.on) ∧ w.cell? ⟨b, 1, none⟩ = some (.bool d.fused) ∧ w.cell? ⟨b, 2, none⟩ = some (.int .i64 d.spare) ∧ w.cell? ⟨b, 3, none⟩ = some (.slice K d.keep.length kc) ∧
    w.cell? ⟨b, 4, none⟩ = some (.slice (some ⟨g, 0, none⟩) d.S.length d.S.length) ∧ w.cell? ⟨b, 5, none⟩ = some (.int .i64 d.writes) := by
  refine ⟨?_, ?_, ?_, ?_, ?_, ?_⟩ <;> (rw [cell_of_row w b _ _ _ (0, 0) h.blk]; rfl)
theorem DrA.fz (h : DrA B w b g K kc d) (i : Nat) : w.frozen? ⟨b, i, none⟩ = false := by simp [World.frozen?, h.blk]
theorem set_blk {w : World} {b i : Nat} {cur : Array Value} {t : TypeId} (v : Value) (h : w.heap[b]? = some (.cells cur t (0, 0))) : (w.setCell ⟨b, i, none⟩ v).heap[b]? = some (.cells (cur.setIfInBounds i v) t (0, 0)) := by
  rw [setCell_eq_setRow w b i _ t (0, 0) _ h]
  exact setRow_heap w b _ _ t (0, 0) h
theorem set_far {w : World} {p : Addr} (v : Value) {k : Nat} (h : k ≠ p.block) : (w.setCell p v).heap[k]? = w.heap[k]? := Below.heap_setCell _ _ _ _ h
end
theorem DrA.turn {B b g kc kc' : Nat} {w w' : World} {K K' : Option Addr} {d d' : Dv} (h : DrA B w b g K kc d) (hs : d'.S = d.S) (hb : w'.heap[b]? = some (.cells (d'.cells g K' kc') 71 (0, 0))) (hg : w'.heap[g]? = w.heap[g]?)
    (hk : w'.ownsRow B 3 1 (.slice K' d'.keep.length kc') d'.keep.length (rc Nt.cells d'.keep)) (sp : 0 ≤ d'.spare ∧ d'.spare ≤ 9223372036854775807) (kl : d'.keep.length ≤ 1000000) : DrA B w' b g K' kc' d' :=
  ⟨hb, by rw [hg, hs]; exact h.row, hk, h.ge, by rw [hs]; exact h.s96, by rw [hs]; exact h.oct, by rw [hs]; exact h.len, sp, kl⟩
set_option maxHeartbeats 1000000 in
set_option maxRecDepth 100000 in
theorem dsize_any {B b g kc : Nat} {K : Option Addr} {d : Dv} (w : World) (h : DrA B w b g K kc d) :
    Calls Try.prog 49 #[.pointer (some ⟨b, 0, none⟩)] w fun e w' => e = .returned (.int .i64 d.S.length) ∧ Below w.heap.size w w' := by
  obtain ⟨k0, k1, k2, k3, k4, k5⟩ := h.got
  have hlt := h.lt.1
  generalize d.S.length = n at *
  clear h
  go_enter Try.func49, Try.ntmps49
  go_wp2_with fail
  go_ret
  exact ⟨rfl, Below.refl _ _⟩
set_option maxHeartbeats 1000000 in
set_option maxRecDepth 100000 in
theorem dready_any {B b g kc : Nat} {K : Option Addr} {d : Dv} (w : World) (h : DrA B w b g K kc d) :
    Calls Try.prog 61 #[.pointer (some ⟨b, 0, none⟩)] w fun e w' => e = .returned (.int .i64 (if d.on = true then 0 else 9)) ∧ Below w.heap.size w w' := by
  have HS := Lib.hid (dsize_any w h)
  have hlt := h.lt.1
  have HG := Lib.hid (fun V (hV : Below w.heap.size w V) => (h.below hV).got.1)
  have hn : (((d.S.length : Nat) : Int) == 0) = false := by have := h.len.1; simpa using (by omega : ((d.S.length : Nat) : Int) ≠ 0)
  generalize d.S.length = n at *
  obtain ⟨m, hm⟩ : ∃ m, d.on = m := ⟨_, rfl⟩
  rw [hm] at HG ⊢
  clear h hm
  go_enter Try.func61, Try.ntmps61
  go_wp2_with fail
  refine HS.out.mono ?_
  rintro e w1 ⟨rfl, hb⟩
  have k0 := HG.out _ hb
  have hlt1 : b < w1.heap.size := Nat.lt_of_lt_of_le hlt hb.size
  cases m with
  | true =>
    go_wp2_with fail
    go_ret
    exact ⟨rfl, hb⟩
  | false =>
    go_wp2_with fail
    go_ret
    exact ⟨rfl, hb⟩
end Go.Proofs.Ytiggcpfmmgmncaa
end
section
namespace Go.Proofs.Ytiggcpfmmgmncaa
open Go.ChangeShapes Go.WideShapes Go.ChangeAt Go.RowKit
set_option linter.unusedVariables false
set_option linter.unusedSimpArgs false

def Dv.fresh (d : Dv) : Dv := { d with on := true, fused := false, spare := 0, keep := [] }
theorem flat_len {S : List (List Nat)} (h : ∀ s ∈ S, s.length = 96) : S.flatten.length = S.length * 96 := by
  induction S with
  | nil => rfl
  | cons s S ih =>
    rw [List.flatten_cons, List.length_append, h s (by simp), ih (fun x hx => h x (by simp [hx])), List.length_cons]; omega
set_option maxHeartbeats 1000000 in
set_option maxRecDepth 100000 in
theorem drenew_any {B b g kc : Nat} {K : Option Addr} {d : Dv} (w : World) (h : DrA B w b g K kc d) :
    Calls Try.prog 48 #[.pointer (some ⟨b, 0, none⟩)] w fun e w' => e = .returned (.tuple #[]) ∧ Chg2 b g w w' ∧ DrW B w' b g d.fresh := by
  obtain ⟨k0, k1, k2, k3, k4, k5⟩ := h.got
  have f0 := h.fz 0
  have f1 := h.fz 1
  have f2 := h.fz 2
  have f3 := h.fz 3
  have hlt := h.lt.1
  have H := Lib.hid h
  clear h
  go_enter Try.func48, Try.ntmps48
  go_wp2_with fail
  go_end0
  have h := H.out
  have hne := h.ne
  refine ⟨rfl, ((Chg2.set_b 0 _).trans ((Chg2.set_b 1 _).trans ((Chg2.set_b 2 _).trans (Chg2.set_b 3 _)))), none, 0, h.turn rfl ?_ ?_ (own_nil _ _ _) ⟨Int.le_refl 0, by show (0 : Int) ≤ 9223372036854775807; decide⟩ (Nat.zero_le _)⟩
  · have e := set_blk (i := 3) (.slice none 0 0) (set_blk (i := 2) (.int .i64 0) (set_blk (i := 1) (.bool false) (set_blk (i := 0) (.bool true) h.blk)))
    simpa [Dv.cells, Dv.fresh] using e
  · rw [set_far _ (fun e => hne e.symm), set_far _ (fun e => hne e.symm), set_far _ (fun e => hne e.symm), set_far _ (fun e => hne e.symm)]
def Dv.burnt (d : Dv) : Dv := if d.fused = true then (if 0 < d.spare then { d with spare := d.spare - 1 } else { d with on := false, fused := false }) else d
def Dv.torn (d : Dv) : Bool := d.fused && decide (d.spare ≤ 0)
set_option maxHeartbeats 1000000 in
set_option maxRecDepth 100000 in
theorem dburn_any {B b g kc : Nat} {K : Option Addr} {d : Dv} (w : World) (h : DrA B w b g K kc d) :
    Calls Try.prog 82 #[.pointer (some ⟨b, 0, none⟩)] w fun e w' => e = .returned (.bool d.torn) ∧ Chg2 b g w w' ∧ DrA B w' b g K kc d.burnt := by
  obtain ⟨k0, k1, k2, k3, k4, k5⟩ := h.got
  have f0 := h.fz 0
  have f1 := h.fz 1
  have f2 := h.fz 2
  have hlt := h.lt.1
  have hne := h.ne
  have hsp := h.sp
  obtain ⟨on, fused, spare, keep, S, writes⟩ := d
  have H := Lib.hid h
  simp only at hsp k0 k1 k2 k3 k4 k5
  clear h
  cases fused with
  | false =>
    go_enter Try.func82, Try.ntmps82
    go_wp2_with fail
    go_ret
    exact ⟨rfl, Chg2.refl _ _ _, H.out⟩
  | true =>
    by_cases hs : 0 < spare
    · have hw : IntKind.i64.wrap (spare - 1) = spare - 1 := by rw [IntKind.wrap_i64]; omega
      have HT : Hid (Dv.torn ⟨on, true, spare, keep, S, writes⟩ = false) := Lib.hid (by simp [Dv.torn]; omega)
      have HB : Hid (Dv.burnt ⟨on, true, spare, keep, S, writes⟩ = ⟨on, true, spare - 1, keep, S, writes⟩) := Lib.hid (by simp [Dv.burnt]; omega)
      go_enter Try.func82, Try.ntmps82
      go_wp2_with fail
      go_ret
      have h := H.out
      refine ⟨by rw [HT.out]; rfl, Chg2.set_b 2 _, ?_⟩
      rw [HB.out]
      refine h.turn (d' := ⟨on, true, spare - 1, keep, S, writes⟩) rfl ?_ (set_far _ (fun e => hne e.symm)) (own_far1 h.kp h.kb _) ⟨by simp only; omega, by simp only; omega⟩ h.kl
      have e := set_blk (i := 2) (.int .i64 (spare - 1)) h.blk
      simpa [Dv.cells] using e
    · have HT : Hid (Dv.torn ⟨on, true, spare, keep, S, writes⟩ = true) := Lib.hid (by simp [Dv.torn]; omega)
      have HB : Hid (Dv.burnt ⟨on, true, spare, keep, S, writes⟩ = ⟨false, false, spare, keep, S, writes⟩) := Lib.hid (by simp [Dv.burnt]; omega)
      go_enter Try.func82, Try.ntmps82
      go_wp2_with fail
      go_ret
      have h := H.out
      refine ⟨by rw [HT.out]; rfl, (Chg2.set_b 0 _).trans (Chg2.set_b 1 _), ?_⟩
      rw [HB.out]
      refine h.turn (d' := ⟨false, false, spare, keep, S, writes⟩) rfl ?_ (by rw [set_far _ (fun e => hne e.symm), set_far _ (fun e => hne e.symm)]) (own_far1 (own_far1 h.kp h.kb _) h.kb _) hsp h.kl
      have e := set_blk (i := 1) (.bool false) (set_blk (i := 0) (.bool false) h.blk)
      simpa [Dv.cells] using e
set_option maxHeartbeats 1000000 in
set_option maxRecDepth 100000 in
theorem dstart_any {B b g kc : Nat} {K : Option Addr} {d : Dv} (w : World) (h : DrA B w b g K kc d) :
    Calls Try.prog 23 #[.pointer (some ⟨b, 0, none⟩)] w fun e w' => e = .returned (.int .i64 0) ∧ Chg2 b g w w' ∧ DrW B w' b g d.fresh := by
  have HS := Lib.hid (dsize_any w h)
  have hlt := h.lt.1
  have HR := Lib.hid (fun V (hV : Below w.heap.size w V) => drenew_any V (h.below hV))
  have hn : (((d.S.length : Nat) : Int) == 0) = false := by have := h.len.1; simpa using (by omega : ((d.S.length : Nat) : Int) ≠ 0)
  generalize d.S.length = n at *
  clear h
  go_enter Try.func23, Try.ntmps23
  go_wp2_with fail
  refine HS.out.mono ?_
  rintro e w1 ⟨rfl, hb⟩
  go_wp2_with fail
  refine (HR.out _ hb).mono ?_
  rintro e w2 ⟨rfl, hc, hd⟩
  go_wp2_with fail
  go_ret
  exact ⟨rfl, (Chg2.of_below hb).trans hc, hd⟩
def Dv.fuse (d : Dv) (n : Int) (keep : List Nt) : Dv × Int := if d.on = true then (if 0 ≤ n then { d with on := true, fused := true, spare := n, keep := keep } else d.fresh, 0) else (d, 9)
set_option maxHeartbeats 2000000 in
set_option maxRecDepth 100000 in
theorem dfuse_any {B b g kc : Nat} {K : Option Addr} {d : Dv} (n : Int) (A : Option Addr) (c : Nat) (l : List Nt) (w : World) (h : DrA B w b g K kc d) (hB : B ≤ w.heap.size) (hl : l.length ≤ 1000000) (hn : n ≤ 9223372036854775807) (hs : SlF w b g A (rc Nt.cells l)) :
    Calls Try.prog 20 #[.pointer (some ⟨b, 0, none⟩), .int .i64 n, .slice A l.length c] w fun e w' => e = .returned (.int .i64 (d.fuse n l).2) ∧ Chg2 b g w w' ∧ DrW B w' b g (d.fuse n l).1 := by
  have HRD := Lib.hid (dready_any w h)
  have HR := Lib.hid (fun V (hV : Below w.heap.size w V) => drenew_any V (h.below hV))
  have HW := Lib.hid (fun V (hV : Below w.heap.size w V) => h.below hV)
  have HSL := Lib.hid (fun V (hV : Chg2 b g w V) => (hs.chg hV).1)
  have HC := Lib.hid (fun V (hV : Sl V A (rc Nt.cells l)) => clone_nt A c l V hl hV)
  have HL := Lib.hid hl
  clear h hs hl
  by_cases ho : d.on = true
  · rw [if_pos ho] at HRD
    by_cases h0 : 0 ≤ n
    · have HE : Hid (d.fuse n l = ({ d with on := true, fused := true, spare := n, keep := l }, 0)) := Lib.hid (by rw [Dv.fuse, if_pos ho, if_pos h0])
      clear ho
      generalize hLN : l.length = LN at HC ⊢
      have HLN2 := Lib.hid hLN
      have HLN : Hid (l.length ≤ 1000000) := HL
      clear hLN
      go_enter Try.func20, Try.ntmps20
      go_wp2_with fail
      refine HRD.out.mono ?_
      rintro e w1 ⟨rfl, hb⟩
      go_wp2_with fail
      refine (HR.out _ hb).mono ?_
      rintro e w2 ⟨rfl, hc, K2, kc2, hd2⟩
      have hC2 := (Chg2.of_below hb).trans hc
      obtain ⟨k0, k1, k2, k3, k4, k5⟩ := hd2.got
      have f1 := hd2.fz 1
      have f2 := hd2.fz 2
      have f3 := hd2.fz 3
      have hlt := hd2.lt.1
      go_wp2_with fail
      refine (HC.out _ (HSL.out _ hC2)).mono ?_
      rintro e w3 ⟨⟨A3, c3, rfl, own3⟩, hb3⟩
      have hd3 := hd2.below hb3
      have hC3 := hC2.step hb3
      obtain ⟨k0, k1, k2, k3, k4, k5⟩ := hd3.got
      have f1 := hd3.fz 1
      have f2 := hd3.fz 2
      have f3 := hd3.fz 3
      have hlt := hd3.lt.1
      go_wp2_with fail
      go_ret
      have hne := hd3.ne
      have hxb := own_type own3 hd3.blk (by decide)
      rw [HE.out]
      refine ⟨rfl, ((hC3.trans (Chg2.set_b 1 _)).trans (Chg2.set_b 2 _)).trans (Chg2.set_b 3 _), A3, c3, hd3.turn (K' := A3) (kc' := c3) rfl ?_ ?_ ?_ ⟨h0, hn⟩ HLN.out⟩
      · have e := set_blk (i := 3) (.slice A3 LN c3) (set_blk (i := 2) (.int .i64 n) (set_blk (i := 1) (.bool true) hd3.blk))
        simpa [Dv.cells, Dv.fresh, HLN2.out] using e
      · rw [set_far _ (fun e => hne e.symm), set_far _ (fun e => hne e.symm), set_far _ (fun e => hne e.symm)]
      · have := own_far1 (own_far1 (own_far1 (own_base own3 (Nat.le_trans hB hC2.size)) (p := ⟨b, 1, none⟩) hxb (.bool true)) (p := ⟨b, 2, none⟩) hxb (.int .i64 n)) (p := ⟨b, 3, none⟩) hxb (.slice A3 LN c3)
        rw [show (l.length) = LN from HLN2.out]
        exact this
    · have HE : Hid (d.fuse n l = (d.fresh, 0)) := Lib.hid (by rw [Dv.fuse, if_pos ho, if_neg h0])
      clear ho
      generalize l.length = LN at *
      go_enter Try.func20, Try.ntmps20
      go_wp2_with fail
      refine HRD.out.mono ?_
      rintro e w1 ⟨rfl, hb⟩
      go_wp2_with fail
      refine (HR.out _ hb).mono ?_
      rintro e w2 ⟨rfl, hc, hd2⟩
      go_wp2_with fail
      go_ret
      rw [HE.out]
      exact ⟨rfl, (Chg2.of_below hb).trans hc, hd2⟩
  · have HE : Hid (d.fuse n l = (d, 9)) := Lib.hid (by rw [Dv.fuse, if_neg ho])
    rw [if_neg ho] at HRD
    clear ho
    generalize l.length = LN at *
    go_enter Try.func20, Try.ntmps20
    go_wp2_with fail
    refine HRD.out.mono ?_
    rintro e w1 ⟨rfl, hb⟩
    go_wp2_with fail
    go_ret
    rw [HE.out]
    exact ⟨rfl, Chg2.of_below hb, K, kc, HW.out _ hb⟩
end Go.Proofs.Ytiggcpfmmgmncaa
end
