import Derived.Test.YtiggcpfmmgmncaaSp00
import Derived.Test.YtiggcpfmmgmncaaSp01
import Derived.Test.YtiggcpfmmgmncaaSp02
import Derived.Test.YtiggcpfmmgmncaaSp03
import Derived.Test.YtiggcpfmmgmncaaSp04
import Derived.Test.YtiggcpfmmgmncaaSp05
import Derived.Test.YtiggcpfmmgmncaaSp06
import Derived.Test.YtiggcpfmmgmncaaSp07
import Derived.Test.YtiggcpfmmgmncaaSp08
import Derived.Test.YtiggcpfmmgmncaaSp09
import Derived.Test.YtiggcpfmmgmncaaSp10
import Derived.Test.YtiggcpfmmgmncaaSp11
import Derived.Test.YtiggcpfmmgmncaaSp12
import Derived.Test.YtiggcpfmmgmncaaSp13
import Derived.Test.YtiggcpfmmgmncaaSp14
import Derived.Test.YtiggcpfmmgmncaaSp15
import Derived.Test.YtiggcpfmmgmncaaSp16
import Derived.Test.YtiggcpfmmgmncaaSp17
import Derived.Test.YtiggcpfmmgmncaaSp18
import Derived.Test.YtiggcpfmmgmncaaSp19
import Derived.Test.YtiggcpfmmgmncaaSp20
import Derived.Test.YtiggcpfmmgmncaaSp21
import Derived.Test.YtiggcpfmmgmncaaSp22
import Derived.Test.YtiggcpfmmgmncaaSp23
import Derived.Test.YtiggcpfmmgmncaaSp24
import Derived.Test.YtiggcpfmmgmncaaSp25
import Derived.Test.YtiggcpfmmgmncaaSp26
import Derived.Test.YtiggcpfmmgmncaaSp27
import Derived.Test.YtiggcpfmmgmncaaSp28
import Derived.Test.YtiggcpfmmgmncaaSp29
import Derived.Test.YtiggcpfmmgmncaaSp30
import Derived.Test.YtiggcpfmmgmncaaSp31
import Derived.Test.YtiggcpfmmgmncaaSp32
import Derived.Test.YtiggcpfmmgmncaaSp33
import Derived.Test.YtiggcpfmmgmncaaSp34
import Derived.Test.YtiggcpfmmgmncaaSp35
import Derived.Test.YtiggcpfmmgmncaaSp36
import Derived.Test.YtiggcpfmmgmncaaSp37
import Derived.Test.YtiggcpfmmgmncaaSp38
import Derived.Test.YtiggcpfmmgmncaaSp39
import Derived.Test.YtiggcpfmmgmncaaSp40
import Derived.Test.YtiggcpfmmgmncaaSp41
import Derived.Test.YtiggcpfmmgmncaaSr01
import Derived.Below
import Derived.BigQuiet
import Derived.ChangeOld
import Derived.Deep.CutBlock
import Derived.Deep.CutRange
import Derived.Deep.DeepCutAuto
import Derived.Deep.DeepFit
import Derived.Deep.QuietTactic
import Derived.Deep.RegionHeld3
import Derived.Deep.RegionLaw
import Derived.Deep.Slices
import Derived.IntWalk
import Derived.Laws.AppendOwnNone
import Derived.Laws.Bits64
import Derived.Laws.BitsAllLaws
import Derived.Laws.CopyOwn
import Derived.Laws.NewBlocks
import Derived.Lib.AppendZerosOnto
import Derived.Lib.Hide
import Derived.Lib.Overlaps
import Derived.Lib.SlBytesConst
import Derived.Maps.AppendAt
import Derived.OpenShut
import Derived.Outline
import Derived.ProofKit
import Derived.ShutString
import Derived.Test.YtiggcpfmmgmncaaRows
import Derived.WalkKit
import Derived.WalkLawsBesides
import Derived.WalkSpells
import Derived.Test.YtiggcpfmmgmncaaSr00
section
namespace Go.Proofs.Ytiggcpfmmgmncaa
open Go.ChangeShapes Go.WideShapes Go.ChangeAt Go.RowKit
set_option linter.unusedVariables false
set_option linter.unusedSimpArgs false

def OpensP (S : List (List Nat)) (f t life era : Int) : Prop := 0 ≤ f ∧ f ≤ t ∧ t ≤ (S.length : Int) ∧ 1 ≤ life ∧ life ≤ 16777215 ∧ newestN S f.toNat (t.toNat - f.toNat) < life ∧ 0 ≤ era ∧ era ≤ 16777215
section
variable {B b g b2 : Nat} {w w' : World} {d : Dv} {X : Rv}
theorem Two0.below (h : Two0 B w b g b2 d X) (hb : Below w.heap.size w w') : Two0 B w' b g b2 d X := by
  obtain ⟨K, kc, A2, c2, R2, KA, kc2, h1, h2, h6⟩ := h
  exact ⟨K, kc, A2, c2, R2, KA, kc2, h1.below hb, h2.below hb, h6⟩
theorem Two0.pbad (h : Two0 B w b g b2 d X) (hB : B ≤ w.heap.size) (f t life era : Int) (hbad : ¬ OpensP d.S f t life era) :
    Calls Try.prog 15 #[.pointer (some ⟨b, 0, none⟩), .int .i64 f, .int .i64 t, .int .i64 life, .int .i64 era] w fun e w' => e = .returned (.tuple #[.pointer none, .int .i64 2]) ∧ Below w.heap.size w w' := by
  obtain ⟨K, kc, A2, c2, R2, KA, kc2, h1, h2, h6⟩ := h
  by_cases hf : fitP d.S.length f t = true
  · have hf2 := hf
    unfold fitP at hf2
    simp only [Bool.and_eq_true, decide_eq_true_eq] at hf2
    obtain ⟨e1, e2, e3⟩ := hf2
    obtain ⟨f', rfl⟩ : ∃ n : Nat, f = (n : Int) := ⟨f.toNat, by omega⟩
    obtain ⟨t', rfl⟩ : ∃ n : Nat, t = (n : Int) := ⟨t.toNat, by omega⟩
    refine sopen_arg f' t' life era w h1 hB (by omega) (by omega) (fun hg => hbad ?_)
    unfold OpensP
    rw [Int.toNat_natCast, Int.toNat_natCast]
    exact ⟨e1, e2, e3, hg.1, hg.2.1, hg.2.2.1, hg.2.2.2.1, hg.2.2.2.2⟩
  · exact sopen_unfit f t life era w h1 (by simpa using hf)
theorem Two0.rbad (h : Two0 B w b g b2 d X) (f t life era : Int) (hbad : ¬ OpensP X.C f t life era) :
    Calls Try.prog 16 #[.pointer (some ⟨b2, 0, none⟩), .int .i64 f, .int .i64 t, .int .i64 life, .int .i64 era] w fun e w' => e = .returned (.tuple #[.pointer none, .int .i64 2]) ∧ Below w.heap.size w w' := by
  obtain ⟨K, kc, A2, c2, R2, KA, kc2, h1, h2, h6⟩ := h
  by_cases e0 : f < 0
  · exact ropen8_bad_0 f t life era w h2 e0
  by_cases e1 : t < f
  · exact ropen8_bad_1 f t life era w h2 ⟨e1, e0⟩
  by_cases e2 : (X.C.length : Int) < t
  · exact ropen8_bad_2 f t life era w h2 ⟨e2, e0, e1⟩
  by_cases e3 : life < 1
  · exact ropen8_bad_3 f t life era w h2 ⟨e3, e0, e1, e2⟩
  by_cases e4 : 16777215 < life
  · exact ropen8_bad_4 f t life era w h2 ⟨e4, e0, e1, e2, e3⟩
  by_cases e5 : era < 0
  · exact ropen8_bad_5 f t life era w h2 ⟨e5, e0, e1, e2, e3, e4⟩
  by_cases e6 : 16777215 < era
  · exact ropen8_bad_6 f t life era w h2 ⟨e6, e0, e1, e2, e3, e4, e5⟩
  obtain ⟨f', rfl⟩ : ∃ n : Nat, f = (n : Int) := ⟨f.toNat, by omega⟩
  obtain ⟨t', rfl⟩ : ∃ n : Nat, t = (n : Int) := ⟨t.toNat, by omega⟩
  refine ropen8_bad_7 f' t' life era w h2 (by omega) (by omega) (by omega) (by omega) (by omega) (by omega) ?_
  by_cases e7 : newestN X.C f' (t' - f') < life
  · refine absurd ?_ hbad
    unfold OpensP
    rw [Int.toNat_natCast, Int.toNat_natCast]
    exact ⟨by omega, by omega, by omega, by omega, by omega, e7, by omega, by omega⟩
  · omega
theorem Two0.pwrite {B0 bc i : Nat} {BA : Option Addr} {l : List Nat} (h : Two0 B w b g b2 d X) (hB : B ≤ w.heap.size) (ho : w.ownsRow B0 5 1 (.slice BA l.length bc) l.length (by8 l)) (hoc : Oct l) :
    Calls Try.prog 56 #[.pointer (some ⟨b, 0, none⟩), .int .i64 i, .slice (some ⟨w.heap.size, 0, none⟩) 1 1] (w.alloc (.cells #[.slice BA l.length bc] 36)) fun e w' => e = .returned (.int .i64 (d.write i [l]).2) ∧ Two0 B w' b g b2 (d.write i [l]).1 X ∧ w'.ownsRow B0 5 1 (.slice BA l.length bc) l.length (by8 l) ∧ Below B w w' := by
  obtain ⟨K, kc, A2, c2, R2, KA, kc2, h1, h2, h6⟩ := h
  have hb0 : Below w.heap.size w (w.alloc (.cells #[.slice BA l.length bc] 36)) := since_alloc (Below.refl _ _) _
  have hd := h1.below hb0
  have hv := h2.below hb0
  have ho1 := ho.alloc (.cells #[.slice BA l.length bc] 36)
  obtain ⟨x1, x2⟩ := hd.off ho1 (by decide) (by decide)
  have hlt := h1.lt
  have hW := dwrite_ok (i : Int) (some ⟨w.heap.size, 0, none⟩) 1 [(⟨BA, bc, l⟩ : RowS Nat)] (w.alloc (.cells #[.slice BA l.length bc] 36)) hd (show 1 ≤ 1000000 by decide)
    ⟨Sl.new_ w [.slice BA l.length bc] 36, fun _ p hp => by
      injection hp with hp
      subst hp
      exact ⟨by show w.heap.size ≠ b; omega, by show w.heap.size ≠ g; omega⟩⟩
    (fun r hr => by
      rw [List.mem_singleton] at hr
      subst hr
      exact ⟨SlF.of_own ho1 x1 x2, hoc⟩)
  refine hW.mono ?_
  rintro e w' ⟨rfl, hc, hd'⟩
  have hcl : ChgL [b, g] (w.alloc (.cells #[.slice BA l.length bc] 36)) w' := ChgL.of2 hc (by simp) (by simp)
  have ht : ∀ y ∈ [b, g], ∃ cs z T, (w.alloc (.cells #[.slice BA l.length bc] 36)).heap[y]? = some (.cells cs T z) ∧ (T = 71 ∨ T = 142) := fun y hy => by
    simp only [List.mem_cons, List.not_mem_nil, or_false] at hy
    rcases hy with e | e
    · exact ⟨_, _, _, by rw [e]; exact hd.blk, .inl rfl⟩
    · exact ⟨_, _, _, by rw [e]; exact hd.row, .inr rfl⟩
  refine ⟨rfl, ⟨K, kc, A2, c2, R2, KA, kc2, hd', hv.far hcl (not_mem_type ht hv.blk (by decide)) (fun y hy he => h6 y hy (by unfold blkR; exact List.mem_cons_of_mem _ (Option.mem_toList.2 (Option.mem_def.2 he)))) (fun z hz => by obtain ⟨cs, q, T, a, e⟩ := ht z hz; exact ⟨cs, q, T, a, by rcases e with e | e <;> rw [e] <;> decide, by rcases e with e | e <;> rw [e] <;> decide⟩), h6⟩, hc.own ho1 x1 x2, (hb0.mono hB).trans (hc.below (Nat.le_trans hB hb0.size) h1.ge.1 h1.ge.2)⟩
theorem Two0.rwrite {B0 bc i : Nat} {BA : Option Addr} {l : List Nat} (h : Two0 B w b g b2 d X) (hB : B ≤ w.heap.size) (ho : w.ownsRow B0 5 1 (.slice BA l.length bc) l.length (by8 l)) (hoc : Oct l) (h96 : l.length = 96) (hoff : X.off = false) (hi : i < X.C.length) (hbd : -1 ≤ X.fuse ∧ X.fuse ≤ 9223372036854775807) :
    Calls Try.prog 60 #[.pointer (some ⟨b2, 0, none⟩), .int .i64 i, .slice (some ⟨w.heap.size, 0, none⟩) 1 1] (w.alloc (.cells #[.slice BA l.length bc] 36)) fun e w' => e = .returned (.int .i64 (X.write i [l]).2) ∧ Two0 B w' b g b2 d (X.write i [l]).1 ∧ Below B w w' := by
  obtain ⟨K, kc, A2, c2, R2, KA, kc2, h1, h2, h6⟩ := h
  have hb0 : Below w.heap.size w (w.alloc (.cells #[.slice BA l.length bc] 36)) := since_alloc (Below.refl _ _) _
  have hd := h1.below hb0
  have hv := h2.below hb0
  have ho1 := ho.alloc (.cells #[.slice BA l.length bc] 36)
  have hlt := blk_lt_of h2.row_blk
  have hrow : RowsX (blkR b2 A2 X.C.length c2) (w.alloc (.cells #[.slice BA l.length bc] 36)) (some ⟨w.heap.size, 0, none⟩) [(⟨BA, bc, l⟩ : RowS Nat)] := by
    refine ⟨⟨Sl.new_ w [.slice BA l.length bc] 36, fun p hp _ => ?_⟩, fun r hr => ?_⟩
    · injection hp with hp
      subst hp
      exact ⟨by simp, fun hm => by have := hlt _ hm; exact absurd this (Nat.lt_irrefl _)⟩
    · rw [List.mem_singleton] at hr
      subst hr
      exact SlX.typed ho1 hv.row_blk (by decide)
  have hW := rwrite_ok i 1 [(⟨BA, bc, l⟩ : RowS Nat)] (w.alloc (.cells #[.slice BA l.length bc] 36)) hv (Nat.le_trans hB hb0.size) hrow (fun r hr => by rw [List.mem_singleton] at hr; subst hr; exact ⟨h96, hoc⟩) hoff (by show i + 1 ≤ _; omega) (Nat.succ_pos 0) hbd.2 (by omega)
  refine hW.mono ?_
  rintro e w' ⟨rfl, R', hv', hc⟩
  have hlen : (X.write i [l]).1.C.length = X.C.length := by
    unfold Rv.write
    split
    · rfl
    · exact putK_len _
  have ht := hv.row_blk
  refine ⟨rfl, ⟨K, kc, A2, c2, R', KA, kc2, hd.far hc ht (by decide) (by decide) (by decide), hv', ?_⟩, (hb0.mono hB).trans (hc.below (Nat.le_trans hB hb0.size) (fun z hz => blkR_ge hv z hz))⟩
  intro z hz
  have e : (([(⟨BA, bc, l⟩ : RowS Nat)]).map RowS.l) = [l] := rfl
  rw [hlen]
  exact h6 z hz
end
structure LayP (d : Dv) (X : Rv) : Prop where
  rel : Rel d X
  len : d.S.length = 20
  on : d.on = true
  nf : d.fused = false
theorem LayP.new : LayP (Dv.new 20) (Rv.new 20) := ⟨Rel.new 20, by simp [Dv.new], rfl, rfl⟩
theorem LayP.step {d : Dv} {X : Rv} (h : LayP d X) {i : Nat} (hi : i < 20) {l : List Nat} (h96 : l.length = 96) : LayP (d.write i [l]).1 (X.write i [l]).1 := by
  have hfit : fitsF d.S.length (i : Int) [l] = true := by
    unfold fitsF
    rw [Bool.and_eq_true, Bool.and_eq_true, List.all_eq_true]
    exact ⟨fun c hc => by rw [List.mem_singleton] at hc; rw [hc]; simpa using h96, decide_eq_true (by omega), decide_eq_true (by rw [h.len]; show (i : Int) ≤ _; simp; omega)⟩
  obtain ⟨h1, h2⟩ := h.rel.write h.on hfit (Nat.succ_pos 0)
  have hw := Dv.write_fit h.on hfit (Nat.succ_pos 0)
  have hb : d.burnt = d := by unfold Dv.burnt; rw [if_neg (by rw [h.nf]; decide)]
  refine ⟨h2, ?_, ?_, ?_⟩
  · rw [hw, hb]; exact (putK_len _).trans h.len
  · rw [hw, hb]; exact h.on
  · rw [hw, hb]; exact h.nf
structure Raw8 where
  BA : Option Addr
  bc : Nat
  B : List Nat
  life : Int
  era : Int
  seq : Int
  part : Int
  parts : Int
  DA : Option Addr
  dc : Nat
  D : List Nat
def Raw8.cells (x : Raw8) : List Value := [.slice x.BA x.B.length x.bc, .int .i64 x.life, .int .i64 x.era, .int .i64 x.seq, .int .i64 x.part, .int .i64 x.parts, .slice x.DA x.D.length x.dc]
theorem Raw8.len (x : Raw8) : x.cells.length = 7 := rfl
structure Raw8.Ok (w : World) (x : Raw8) : Prop where
  blc : x.B.length ≤ x.bc
  bcm : x.bc ≤ maxLen
  bs : Sl w x.BA (by8 x.B)
  bo : Oct x.B
  dlc : x.D.length ≤ x.dc
  dcm : x.dc ≤ maxLen
  ds : Sl w x.DA (by8 x.D)
  do_ : Oct x.D
theorem rd_raw8 {w : World} {r : List Value} (h : Rd w (.cat (.sl (.int .u8)) (.cat (.cat (.int .i64) (.cat (.int .i64) (.cat (.int .i64) (.cat (.int .i64) (.cat (.int .i64) (.cat (.sl (.int .u8)) .nil)))))) .nil)) r) : ∃ x : Raw8, r = x.cells ∧ x.Ok w := by
  obtain ⟨r1, r2, e, hb, h⟩ := h
  subst e
  obtain ⟨r3, r4, e, hd, h0⟩ := h
  subst e
  have h0 : r4 = [] := h0
  subst h0
  obtain ⟨A, n, c, e⟩ : ∃ A n c, r1 = [.slice A n c] := by
    obtain ⟨A, n, c, rows, e, _⟩ := hb
    exact ⟨A, n, c, e⟩
  subst e
  obtain ⟨B, rfl, b1, b2, b3, b4⟩ := rd_octs hb
  obtain ⟨_, q0, rfl, ⟨z0, rfl, _⟩, ⟨_, q1, rfl, ⟨z1, rfl, _⟩, ⟨_, q2, rfl, ⟨z2, rfl, _⟩, ⟨_, q3, rfl, ⟨z3, rfl, _⟩, ⟨_, q4, rfl, ⟨z4, rfl, _⟩, ⟨r, q5, rfl, hr, h5⟩⟩⟩⟩⟩⟩ := hd
  have h5 : q5 = [] := h5
  subst h5
  obtain ⟨A2, n2, c2, rfl⟩ : ∃ A' n' c', r = [.slice A' n' c'] := by
    obtain ⟨A', n', c', rows, e, _⟩ := hr
    exact ⟨A', n', c', e⟩
  obtain ⟨D, rfl, d1, d2, d3, d4⟩ := rd_octs hr
  exact ⟨⟨A, c, B, z0, z1, z2, z3, z4, A2, c2, D⟩, rfl, b1, b2, b3, b4, d1, d2, d3, d4⟩
end Go.Proofs.Ytiggcpfmmgmncaa
end
section
namespace Go.Proofs.Ytiggcpfmmgmncaa
open Go.ChangeShapes Go.WideShapes Go.ChangeAt Go.RowKit
set_option linter.unusedVariables false
set_option linter.unusedSimpArgs false

theorem three_oct8 (m : Nat) (h : m < 16777216) : Oct (three m) := by
  intro x hx
  simp [three] at hx
  omega
theorem sealed_oct8 {x : List Nat} (h : Oct x) : Oct (sealed x) := h.app (three_oct8 _ (CrcM.more_lt _ _ (by omega) h))
theorem Two0.len {B b g b2 : Nat} {w : World} {d : Dv} {X : Rv} (h : Two0 B w b g b2 d X) : ∃ A c, w.cell? ⟨b2, 0, none⟩ = some (.slice A X.C.length c) ∧ b2 < w.heap.size := by
  obtain ⟨K, kc, A2, c2, R2, KA, kc2, h1, h2, h6⟩ := h
  obtain ⟨p0, _, _, _, _, ps⟩ := h2.got
  exact ⟨A2, c2, p0, ps⟩
set_option maxHeartbeats 16000000 in
set_option maxRecDepth 100000 in
theorem lay8_any {b g b2 : Nat} {d : Dv} {X : Rv} (w0 : World) (A : Option Addr) (c : Nat) (L : List Raw8) (w : World) (hT : Two0 w0.heap.size w b g b2 d X) (hP : LayP d X) (hw : Below w0.heap.size w0 w) (hs : Sl w0 A (rc Raw8.cells L)) (hok : ∀ x ∈ L, x.Ok w0) :
    Calls Try.prog 31 #[.pointer (some ⟨b, 0, none⟩), .pointer (some ⟨b2, 0, none⟩), .slice A L.length c] w fun e w' => e = .returned (.tuple #[]) ∧ ∃ d' X', Two0 w0.heap.size w' b g b2 d' X' ∧ LayP d' X' ∧ Below w0.heap.size w w' := by
  have HAT := Lib.hid (fun k (hk : k < L.length) => Sl.elem (m := 7) Raw8.len (by decide) hs hk)
  have HPP := Lib.hid (fun k (hk : k < L.length) => hok L[k] (List.getElem_mem hk))
  have HT0 := Lib.hid hT
  have HP0 := Lib.hid hP
  have HW0 := Lib.hid hw
  clear hT hP hw hs hok
  go_enter Try.func31, Try.ntmps31
  go_wp2_with fail
  go_loopw [6] (fun iv wr => ∃ (k : Nat) (d : Dv) (X : Rv), k ≤ L.length ∧ k ≤ 20 ∧ iv = .int .i64 k ∧ Hid (Two0 w0.heap.size wr b g b2 d X) ∧ Hid (LayP d X) ∧ Hid (Below w0.heap.size w wr)) (fun iv _ => 20 - (intOf iv).toNat)
  case atStart => exact ⟨0, d, X, Nat.zero_le _, Nat.zero_le _, rfl, HT0, HP0, Lib.hid (Below.refl _ _)⟩
  case round =>
    clear HT0 HP0
    obtain ⟨k, d, X, hk, hk20, rfl, HT, HP, HB⟩ := hrel
    obtain ⟨YA, yc, hy0, hys⟩ := HT.out.len
    rw [show X.C.length = 20 by rw [HP.out.rel.C]; exact HP.out.len] at hy0
    by_cases hlt : k < L.length
    · have hlk1 : (k : Int) < (L.length : Int) := by omega
      by_cases h20 : k < 20
      · have hlk2 : (k : Int) < 20 := by omega
        have hlk3 : (k : Int) < ((20 : Nat) : Int) := by omega
        have hgk : (0 : Int) ≤ (k : Int) := by omega
        have HBW := Lib.hid (HW0.out.trans HB.out)
        obtain ⟨bb, oo, hA, hbw, hcells⟩ := HAT.out k hlt
        have hOk := HPP.out k hlt
        obtain ⟨xx, hx⟩ : ∃ x, L[k] = x := ⟨_, rfl⟩
        rw [hx] at hcells hOk
        clear hx
        obtain ⟨BA, bc, BB, life, era, seq, part, parts, DA, dc, D⟩ := xx
        obtain ⟨o0, o1, o2, o3, o4, o5, o6, o7⟩ := hOk
        simp only at o0 o1 o2 o3 o4 o5 o6 o7
        have hc : ∀ j u, (Raw8.cells ⟨BA, bc, BB, life, era, seq, part, parts, DA, dc, D⟩)[j]? = some u → wr.cell? ⟨bb, oo + k * 7 + j, none⟩ = some u := fun j u hj => (HBW.out.cell (p := ⟨bb, oo + k * 7 + j, none⟩) hbw).trans (hcells j u hj)
        have hc0 : wr.cell? ⟨bb, oo + k * 7, none⟩ = some (.slice BA BB.length bc) := hc 0 _ rfl
        have hc1 : wr.cell? ⟨bb, oo + k * 7 + 1, none⟩ = some (.int .i64 life) := hc 1 _ rfl
        have hc2 : wr.cell? ⟨bb, oo + k * 7 + 2, none⟩ = some (.int .i64 era) := hc 2 _ rfl
        have hc3 : wr.cell? ⟨bb, oo + k * 7 + 3, none⟩ = some (.int .i64 seq) := hc 3 _ rfl
        have hc4 : wr.cell? ⟨bb, oo + k * 7 + 4, none⟩ = some (.int .i64 part) := hc 4 _ rfl
        have hc5 : wr.cell? ⟨bb, oo + k * 7 + 5, none⟩ = some (.int .i64 parts) := hc 5 _ rfl
        have hc6 : wr.cell? ⟨bb, oo + k * 7 + 6, none⟩ = some (.slice DA D.length dc) := hc 6 _ rfl
        have hbwr : bb < wr.heap.size := Nat.lt_of_lt_of_le hbw HBW.out.size
        have HC0 : Hid (w0.cell? ⟨bb, oo + k * 7, none⟩ = some (.slice BA BB.length bc) ∧ bb < w0.heap.size) := Lib.hid ⟨hcells 0 _ rfl, hbw⟩
        subst hA
        clear hcells hc hbw
        obtain ⟨DL, hDL⟩ : ∃ DL, D.take 80 = DL := ⟨_, rfl⟩
        obtain ⟨m, hm⟩ : ∃ m, min D.length 80 = m := ⟨_, rfl⟩
        have HDM : Hid (DL.length = m ∧ m ≤ 80) := Lib.hid ⟨by rw [← hDL, ← hm, List.length_take, Nat.min_comm], by rw [← hm]; omega⟩
        have hslD : Sl w0 DA (by8 DL) := by rw [← hDL, by8_take]; exact o6.take 80
        have HDS := Lib.hid (fun V (hV : Below w0.heap.size w0 V) => hslD.below hV)
        have HDO : Hid (Oct DL) := Lib.hid (by rw [← hDL]; exact o7.take 80)
        have HCUT := Lib.hid (fun V => cut_any DA D.length dc 80 V (by unfold maxLen at o5; omega) (by omega) o4 (by unfold maxLen at o5; omega))
        rw [hm] at HCUT
        obtain ⟨BL, hBL⟩ : ∃ BL, BB.take 96 = BL := ⟨_, rfl⟩
        obtain ⟨n, hn⟩ : ∃ n, min BB.length 96 = n := ⟨_, rfl⟩
        have HBM : Hid (BL.length = n ∧ n ≤ 96) := Lib.hid ⟨by rw [← hBL, ← hn, List.length_take, Nat.min_comm], by rw [← hn]; omega⟩
        have hslB : Sl w0 BA (by8 BL) := by rw [← hBL, by8_take]; exact o2.take 96
        have HBS := Lib.hid (fun V (hV : Below w0.heap.size w0 V) => hslB.below hV)
        have HBO : Hid (Oct BL) := Lib.hid (by rw [← hBL]; exact o3.take 96)
        have HCUB := Lib.hid (fun V => cut_any BA BB.length bc 96 V (by unfold maxLen at o1; omega) (by omega) o0 (by unfold maxLen at o1; omega))
        rw [hn] at HCUB
        clear o0 o1 o2 o3 o4 o5 o6 o7 hDL hm hslD hBL hn hslB
        go_wp2_with fail
        refine (HCUT.out _).mono ?_
        rintro e x1 ⟨rfl, rfl⟩
        go_wp2_with fail
        have hb0 : Below wr.heap.size wr (wr.alloc (.cells #[.int .i64 life, .int .i64 era, .int .i64 seq, .int .i64 part, .int .i64 parts, .slice DA m dc] 111)) := since_alloc (Below.refl _ _) _
        have HT2 := Lib.hid (HT.out.below hb0)
        have HB2 := Lib.hid (HB.out.trans (hb0.mono HBW.out.size))
        have HBW2 := Lib.hid (HBW.out.trans (hb0.mono HBW.out.size))
        clear hc0 hc1 hc2 hc3 hc4 hc5 hc6 hbwr hy0 hys hb0 HT HB HBW
        generalize wr.alloc (.cells #[.int .i64 life, .int .i64 era, .int .i64 seq, .int .i64 part, .int .i64 parts, .slice DA m dc] 111) = v2 at *
        obtain ⟨hE, hEo⟩ : (∀ F : Fr, encF F = if F.ok = true then (sealed F.body, 0) else ([], 2)) ∧ True := ⟨fun F => rfl, trivial⟩
        have hEN := renc7_any ⟨life, era, seq, part, parts, DL⟩ DA dc v2 (by show DL.length ≤ 100000; have := HDM.out; omega) (HDS.out _ HBW2.out) HDO.out
        have hEN2 : Calls Try.prog 64 #[.agg #[.int .i64 life, .int .i64 era, .int .i64 seq, .int .i64 part, .int .i64 parts, .slice DA m dc]] v2 fun e w' => ERes v2.heap.size w' e (encF ⟨life, era, seq, part, parts, DL⟩) ∧ Below v2.heap.size v2 w' := by
          rw [← HDM.out.1]; exact hEN
        have HEN := Lib.hid hEN2
        have HHE := Lib.hid (hE ⟨life, era, seq, part, parts, DL⟩)
        clear hEN hEN2 hE hEo
        refine HEN.out.mono ?_
        rintro e v3 ⟨⟨A3, c3, rfl, own3⟩, hb3⟩
        have HT3 := Lib.hid (HT2.out.below hb3)
        have HB3 := Lib.hid (HB2.out.trans (hb3.mono HBW2.out.size))
        have HBW3 := Lib.hid (HBW2.out.trans (hb3.mono HBW2.out.size))
        have HO3 := Lib.hid own3
        clear own3 hb3 HEN
        by_cases hfo : (⟨life, era, seq, part, parts, DL⟩ : Fr).ok = true
        · have he : encF ⟨life, era, seq, part, parts, DL⟩ = (sealed (⟨life, era, seq, part, parts, DL⟩ : Fr).body, 0) := by rw [HHE.out, if_pos hfo]
          have HL96 : Hid ((sealed (⟨life, era, seq, part, parts, DL⟩ : Fr).body).length = 96) := Lib.hid (by rw [sealed_len, Fr.body_len (by have := (Fr.ok_iff _).1 hfo; exact this.2.2.2.2.2.2.2.2.2.2)])
          have HLO : Hid (Oct (sealed (⟨life, era, seq, part, parts, DL⟩ : Fr).body)) := Lib.hid (sealed_oct8 (Fr.body_oct hfo HDO.out))
          rw [he] at HO3 ⊢
          simp only at HO3 ⊢
          clear he HHE
          generalize sealed (⟨life, era, seq, part, parts, DL⟩ : Fr).body = bl at *
          clear hfo
          go_wp2_with fail
          have hput := HT3.out.pwrite (i := k) HBW3.out.size HO3.out HLO.out
          have HPW := Lib.hid hput
          clear hput
          go_wp2_with fail
          refine HPW.out.mono ?_
          rintro e y1 ⟨rfl, ht1, ho1, hb1⟩
          have HTY := Lib.hid ht1
          have HBY := Lib.hid (HB3.out.trans hb1)
          have HBZ := Lib.hid (HBW3.out.trans hb1)
          have hput := ht1.rwrite (i := k) HBZ.out.size ho1 HLO.out HL96.out (by rw [HP.out.rel.off, HP.out.on]; rfl) (by rw [HP.out.rel.C, HP.out.len]; exact h20) HP.out.rel.bd
          have HPW2 := Lib.hid hput
          clear hput ht1 ho1 hb1 HPW
          go_wp2_with fail
          refine HPW2.out.mono ?_
          rintro e y2 ⟨rfl, ht2, hb2⟩
          have HTE := Lib.hid ht2
          have HBE := Lib.hid (HBY.out.trans hb2)
          have HPE := Lib.hid (HP.out.step h20 HL96.out)
          clear ht2 hb2 HPW2
          go_wp2_with fail
          go_roundw
          case rel => exact ⟨k + 1, (d.write k [bl]).1, (X.write k [bl]).1, by omega, by omega, by go_num, HTE, HPE, HBE⟩
          case measure => simp [intOf]; omega
        · have he : encF ⟨life, era, seq, part, parts, DL⟩ = ([], 2) := by rw [HHE.out, if_neg hfo]
          rw [he]
          simp only
          obtain ⟨e9, hn96⟩ := HBM.out
          subst e9
          clear he HHE hfo HO3
          have hc0 : v3.cell? ⟨bb, oo + k * 7, none⟩ = some (.slice BA BB.length bc) := (HBW3.out.cell (p := ⟨bb, oo + k * 7, none⟩) HC0.out.2).trans HC0.out.1
          have hbv : bb < v3.heap.size := Nat.lt_of_lt_of_le HC0.out.2 HBW3.out.size
          have hb4 : Below v3.heap.size v3 (v3.alloc (.cells #[.slice BA BL.length bc] 36)) := since_alloc (Below.refl _ _) _
          have HB4 := Lib.hid (HB3.out.trans (hb4.mono HBW3.out.size))
          have HBW4 := Lib.hid (HBW3.out.trans (hb4.mono HBW3.out.size))
          have HT4 := Lib.hid (HT3.out.below hb4)
          have hCE := cells6_any (some ⟨v3.heap.size, 0, none⟩) 1 [(⟨BA, bc, BL⟩ : RowS Nat)] (v3.alloc (.cells #[.slice BA BL.length bc] 36)) (show 1 ≤ maxLen by decide) (Sl.new_ v3 [.slice BA BL.length bc] 36) (fun r hr => by
            rw [List.mem_singleton] at hr
            subst hr
            exact ⟨HBS.out _ HBW4.out, by show BL.length ≤ maxLen; unfold maxLen; omega⟩)
          have HCE := Lib.hid hCE
          clear hCE hb4
          go_wp2_with fail
          refine (HCUB.out _).mono ?_
          rintro e x1 ⟨rfl, rfl⟩
          go_wp2_with fail
          refine HCE.out.mono ?_
          rintro e v5 ⟨⟨A5, c5, S5, rfl, own5, map5, or5⟩, hb5⟩
          have hm5 : S5.map RowS.l = [pad96 BL] := map5.trans rfl
          obtain ⟨r, rfl, hrl⟩ : ∃ r, S5 = [r] ∧ r.l = pad96 BL := by
            cases S5 with
            | nil => cases hm5
            | cons r T => cases T with
              | nil => exact ⟨r, rfl, by simpa using hm5⟩
              | cons _ _ => simp at hm5
          have HB5 := Lib.hid (HB4.out.trans (hb5.mono HBW4.out.size))
          have HBW5 := Lib.hid (HBW4.out.trans (hb5.mono HBW4.out.size))
          have HT5 := Lib.hid (HT4.out.below hb5)
          have HO5 := Lib.hid (or5 r (by simp))
          have HL96 : Hid (r.l.length = 96) := Lib.hid (by rw [hrl]; exact pad96_len _)
          have HLO : Hid (Oct r.l) := Lib.hid (by rw [hrl]; exact pad96_oct HBO.out)
          obtain ⟨b5, o5, hA5, hcs5⟩ := Sl.of_own own5 (by simp [rc, RowS.cells])
          have hr0 : v5.cell? ⟨b5, o5 + 0, none⟩ = some (.slice r.A r.l.length r.c) := hcs5 0 _ rfl
          have hr1 : v5.cell? ⟨b5, o5, none⟩ = some (.slice r.A r.l.length r.c) := hr0
          have hr2 : b5 < v5.heap.size := World.block_lt_of_cell? _ _ hr1
          subst hA5
          clear own5 map5 or5 hm5 hrl hcs5 hb5 hc0 hbv HCE
          go_wp2_with fail
          have hput := HT5.out.pwrite (i := k) HBW5.out.size HO5.out HLO.out
          have HPW := Lib.hid hput
          clear hput
          go_wp2_with fail
          refine HPW.out.mono ?_
          rintro e y1 ⟨rfl, ht1, ho1, hb1⟩
          have HTY := Lib.hid ht1
          have HBY := Lib.hid (HB5.out.trans hb1)
          have HBZ := Lib.hid (HBW5.out.trans hb1)
          have hput := ht1.rwrite (i := k) HBZ.out.size ho1 HLO.out HL96.out (by rw [HP.out.rel.off, HP.out.on]; rfl) (by rw [HP.out.rel.C, HP.out.len]; exact h20) HP.out.rel.bd
          have HPW2 := Lib.hid hput
          clear hput ht1 ho1 hb1 HPW
          go_wp2_with fail
          refine HPW2.out.mono ?_
          rintro e y2 ⟨rfl, ht2, hb2⟩
          have HTE := Lib.hid ht2
          have HBE := Lib.hid (HBY.out.trans hb2)
          have HPE := Lib.hid (HP.out.step h20 HL96.out)
          clear ht2 hb2 HPW2
          go_wp2_with fail
          go_roundw
          case rel => exact ⟨k + 1, (d.write k [r.l]).1, (X.write k [r.l]).1, by omega, by omega, by go_num, HTE, HPE, HBE⟩
          case measure => simp [intOf]; omega
      · have hlk2 : ¬ ((k : Int) < 20) := by omega
        have hlk3 : ¬ ((k : Int) < ((20 : Nat) : Int)) := by omega
        have d3 : decide ((k : Int) < ((20 : Nat) : Int)) = false := decide_eq_false hlk3
        have d4 : decide ((k : Int) < 20) = false := decide_eq_false hlk2
        have d5 : decide (k < 20) = false := decide_eq_false h20
        go_wp2_with fail
        go_end0
        exact ⟨rfl, d, X, HT.out, HP.out, HB.out⟩
    · obtain rfl : k = L.length := by omega
      have hlk1 : ¬ (L.length : Int) < (L.length : Int) := by omega
      go_wp2_with fail
      go_end0
      exact ⟨rfl, d, X, HT.out, HP.out, HB.out⟩
end Go.Proofs.Ytiggcpfmmgmncaa
end
