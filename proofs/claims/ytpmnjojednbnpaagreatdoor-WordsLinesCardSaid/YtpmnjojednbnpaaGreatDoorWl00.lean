import Derived.Test.YtpmnjojednbnpaaGreatDoorWr00
import Derived.Test.YtpmnjojednbnpaaGreatDoorWr01
import Derived.Test.YtpmnjojednbnpaaGreatDoorWr02
import Derived.Test.YtpmnjojednbnpaaGreatDoorWr03
import Derived.Test.YtpmnjojednbnpaaGreatDoorWr04
import Derived.Test.YtpmnjojednbnpaaGreatDoorWr05
import Derived.Test.YtpmnjojednbnpaaGreatDoorWr06
import Derived.Test.YtpmnjojednbnpaaGreatDoorWr07
import Derived.Test.YtpmnjojednbnpaaGreatDoorWr08
import Derived.Test.YtpmnjojednbnpaaGreatDoorWr09
import Derived.Test.YtpmnjojednbnpaaGreatDoorWr10
import Derived.Test.YtpmnjojednbnpaaGreatDoorWr11
import Derived.Test.YtpmnjojednbnpaaGreatDoorWr12
import Derived.Test.YtpmnjojednbnpaaGreatDoorWr13
import Derived.Test.YtpmnjojednbnpaaGreatDoorWr14
import Derived.Test.YtpmnjojednbnpaaGreatDoorWr15
import Derived.Test.YtpmnjojednbnpaaGreatDoorWr16
import Derived.Test.YtpmnjojednbnpaaGreatDoorWr17
import Derived.Test.YtpmnjojednbnpaaGreatDoorWr18
import Derived.Test.YtpmnjojednbnpaaGreatDoorWr19
import Derived.Test.YtpmnjojednbnpaaGreatDoorWr20
import Derived.Test.YtpmnjojednbnpaaGreatDoorWr21
import Derived.Test.YtpmnjojednbnpaaGreatDoorWr22
import Derived.Test.YtpmnjojednbnpaaGreatDoorWr23
import Derived.Below
import Derived.BigQuiet
import Derived.ChangeOld
import Derived.Deep.CutBlock
import Derived.Deep.CutRange
import Derived.Deep.DeepCutAuto
import Derived.Deep.DeepFit
import Derived.Deep.QuietTactic
import Derived.Deep.RegionHeld3
import Derived.Deep.RegionLaw
import Derived.Deep.Slices
import Derived.IntWalk
import Derived.Laws.AppendOwnNone
import Derived.Laws.Bits64
import Derived.Laws.BitsAllLaws
import Derived.Laws.CopyOwn
import Derived.Laws.DeepNot64
import Derived.Laws.IdiomStrings
import Derived.Laws.NewBlocks
import Derived.Lib.AppendStr
import Derived.Lib.AppendZerosOnto
import Derived.Lib.Hide
import Derived.Lib.Overlaps
import Derived.Lib.SliceRun
import Derived.Maps.AppendAt
import Derived.OpenShut
import Derived.Outline
import Derived.ProofKit
import Derived.ShutString
import Derived.Test.YtpmnjojednbnpaaGreatDoorRows
import Derived.WalkKit
import Derived.WalkLawsBesides
import Derived.WalkSpells
import Derived.Lib.OthersKept
import Derived.Lib.SlBytesConst
import Derived.StillTailTactics
import Derived.BigRegion
import Derived.Deep.RegionWith
import Derived.Laws.Concat
import Derived.Laws.Externs
import Derived.Lib.ItoaNum
import Derived.Shelf.LaysC
import Derived.Shelf.LaysM
import Derived.Shelf.Slices.Turned
import Derived.Shelf.Strconv.Clone
import Derived.Shelf.Strconv.ErrVarParseInt
import Derived.Shelf.Strconv.Itoa0
import Derived.Shelf.Strconv.Itoa1
import Derived.Shelf.Strconv.Itoa2
import Derived.Shelf.Strconv.Itoa3
import Derived.Shelf.Strconv.Itoa4
import Derived.Shelf.Strconv.Lower
import Derived.Shelf.Strconv.ParseInt10
import Derived.Shelf.Strconv.ParseInt10All
import Derived.Shelf.Strconv.ParseInt10At16
import Derived.Shelf.Strconv.ParseInt10At32
import Derived.Shelf.Strconv.ParseInt10At64
import Derived.Shelf.Strconv.ParseInt10At8
import Derived.Shelf.Strconv.ParseIntEmpty
import Derived.Shelf.Strconv.ParseIntPublic10
import Derived.Shelf.Strconv.ParseUint10
import Derived.Shelf.Strconv.ParseUint10Any
import Derived.Shelf.Strconv.ParseUint10At
import Derived.Shelf.Strconv.ParseUint10Empty
import Derived.Shelf.Strconv.ParseUint10b16
import Derived.Shelf.Strconv.ParseUint10b32
import Derived.Shelf.Strconv.ParseUint10b64
import Derived.Shelf.Strconv.ParseUint10b8
import Derived.Shelf.Strconv.ParseUintEmpty
import Derived.Shelf.Strconv.RangeError
import Derived.Shelf.Strconv.SyntaxError
import Derived.Shelf.Strconv.ToError
import Derived.Shelf.Strconv.ToErrorRange
import Derived.Shelf.Strings.Builder1
import Derived.Shelf.Strings.Builder2
import Derived.Shelf.Strings.Builder2Cap
import Derived.Shelf.Strings.BuilderCap
import Derived.Shelf.Strings.BuilderF
import Derived.Shelf.Strings.BuilderK
import Derived.Shelf.Strings.Count
import Derived.Shelf.Strings.Fields
import Derived.Shelf.Strings.FieldsAny
import Derived.Shelf.Strings.FieldsFuncAny
import Derived.Shelf.Strings.OnBuilder
import Derived.Shelf.Strings.Search1
import Derived.Shelf.Strings.Search2
import Derived.Shelf.Strings.Search3
import Derived.Shelf.Strings.Shaped
import Derived.Shelf.Strings.Split
import Derived.Shelf.Strings.SplitShaped
import Derived.Shelf.Unicode.DecodeSlow
import Derived.Shelf.Unicode.ExclAny
import Derived.Shelf.Unicode.Is16Any
import Derived.Shelf.Unicode.Is16White
import Derived.Shelf.Unicode.Is16WhiteD
import Derived.Shelf.Unicode.Is32Any
import Derived.Shelf.Unicode.IsSpaceAny
import Derived.Shelf.Unicode.IsSpaceAnyD
import Derived.Shelf.Unicode.Latin
import Derived.Test.YtpmnjojednbnpaaGreatDoorProg
section
namespace Go.Proofs.YtpmnjojednbnpaaGreatDoor
open Go.ChangeShapes Go.WideShapes Go.ChangeAt Go.RowKit
set_option linter.unusedVariables false
set_option linter.unusedSimpArgs false

theorem Rdr.belowW {w w' : World} {g W : Nat} {A : Option Addr} {c : Nat} {B : List Nat} {er : Int} (h : Rdr w g A c B er) (hb : Below W w w') (hg : g < W) : Rdr w' g A c B er := by
  refine ⟨by rw [hb.block g hg]; exact h.blk, ?_, h.cap, h.cm, h.lies, h.oct⟩
  intro hne
  obtain ⟨b, o, hA, hc⟩ := h.sl hne
  have hlt : b < g := by
    rcases h.lies with ⟨e, _⟩ | ⟨b1, o1, e, h1⟩
    · rw [e] at hA; cases hA
    · rw [e] at hA
      injection hA with hA
      injection hA with hA _
      omega
  exact ⟨b, o, hA, fun j u hu => (hb.cell (p := ⟨b, o + j, none⟩) (Nat.lt_trans hlt hg)).trans (hc j u hu)⟩
end Go.Proofs.YtpmnjojednbnpaaGreatDoor
end
section
namespace Go.Proofs.YtpmnjojednbnpaaGreatDoor
open Go.ChangeShapes Go.WideShapes Go.ChangeAt Go.RowKit
set_option linter.unusedVariables false
set_option linter.unusedSimpArgs false


set_option maxHeartbeats 4000000 in
set_option maxRecDepth 100000 in
theorem rfld_any (op : Int) (w : World) : Calls Tryz.prog 36 #[.int .i64 op] w fun e w' => e = .returned (.string (bs8 (fldL op))) ∧ Below w.heap.size w w' := by
  by_cases hr : 1 ≤ op ∧ op ≤ 31
  · have h2 : op = 1 ∨ op = 2 ∨ op = 3 ∨ op = 4 ∨ op = 5 ∨ op = 6 ∨ op = 7 ∨ op = 8 ∨ op = 9 ∨ op = 10 ∨ op = 11 ∨ op = 12 ∨ op = 13 ∨ op = 14 ∨ op = 15 ∨ op = 16 ∨ op = 17 ∨ op = 18 ∨ op = 19 ∨ op = 20 ∨ op = 21 ∨ op = 22 ∨ op = 23 ∨ op = 24 ∨ op = 25 ∨ op = 26 ∨ op = 27 ∨ op = 28 ∨ op = 29 ∨ op = 30 ∨ op = 31 := by omega
    clear hr
    rcases h2 with rfl | rfl | rfl | rfl | rfl | rfl | rfl | rfl | rfl | rfl | rfl | rfl | rfl | rfl | rfl | rfl | rfl | rfl | rfl | rfl | rfl | rfl | rfl | rfl | rfl | rfl | rfl | rfl | rfl | rfl | rfl
    all_goals
      go_enter Tryz.func36, Tryz.ntmps36
      go_wp2_with fail
      go_ret
      exact ⟨rfl, Below.refl _ _⟩
  · have hf : fldL op = [] := by
      unfold fldL
      repeat rw [if_neg (by omega)]
    rw [hf]
    have q1 : (op == 1) = false := by rw [beq_eq_false_iff_ne]; omega
    have q2 : (op == 2) = false := by rw [beq_eq_false_iff_ne]; omega
    have q3 : (op == 3) = false := by rw [beq_eq_false_iff_ne]; omega
    have q4 : (op == 4) = false := by rw [beq_eq_false_iff_ne]; omega
    have q5 : (op == 5) = false := by rw [beq_eq_false_iff_ne]; omega
    have q6 : (op == 6) = false := by rw [beq_eq_false_iff_ne]; omega
    have q7 : (op == 7) = false := by rw [beq_eq_false_iff_ne]; omega
    have q8 : (op == 8) = false := by rw [beq_eq_false_iff_ne]; omega
    have q9 : (op == 9) = false := by rw [beq_eq_false_iff_ne]; omega
    have q10 : (op == 10) = false := by rw [beq_eq_false_iff_ne]; omega
    have q11 : (op == 11) = false := by rw [beq_eq_false_iff_ne]; omega
    have q12 : (op == 12) = false := by rw [beq_eq_false_iff_ne]; omega
    have q13 : (op == 13) = false := by rw [beq_eq_false_iff_ne]; omega
    have q14 : (op == 14) = false := by rw [beq_eq_false_iff_ne]; omega
    have q15 : (op == 15) = false := by rw [beq_eq_false_iff_ne]; omega
    have q16 : (op == 16) = false := by rw [beq_eq_false_iff_ne]; omega
    have q17 : (op == 17) = false := by rw [beq_eq_false_iff_ne]; omega
    have q18 : (op == 18) = false := by rw [beq_eq_false_iff_ne]; omega
    have q19 : (op == 19) = false := by rw [beq_eq_false_iff_ne]; omega
    have q20 : (op == 20) = false := by rw [beq_eq_false_iff_ne]; omega
    have q21 : (op == 21) = false := by rw [beq_eq_false_iff_ne]; omega
    have q22 : (op == 22) = false := by rw [beq_eq_false_iff_ne]; omega
    have q23 : (op == 23) = false := by rw [beq_eq_false_iff_ne]; omega
    have q24 : (op == 24) = false := by rw [beq_eq_false_iff_ne]; omega
    have q25 : (op == 25) = false := by rw [beq_eq_false_iff_ne]; omega
    have q26 : (op == 26) = false := by rw [beq_eq_false_iff_ne]; omega
    have q27 : (op == 27) = false := by rw [beq_eq_false_iff_ne]; omega
    have q28 : (op == 28) = false := by rw [beq_eq_false_iff_ne]; omega
    have q29 : (op == 29) = false := by rw [beq_eq_false_iff_ne]; omega
    have q30 : (op == 30) = false := by rw [beq_eq_false_iff_ne]; omega
    have q31 : (op == 31) = false := by rw [beq_eq_false_iff_ne]; omega
    have r1 : (decide (9 ≤ op) && decide (op ≤ 11)) = false := by simp; omega
    have r2 : (decide (26 ≤ op) && decide (op ≤ 29)) = false := by simp; omega
    by_cases h9 : op < 1
    · have x1 : decide (9 ≤ op) = false := by simp; omega
      have x2 : decide (26 ≤ op) = false := by simp; omega
      have y1 : ¬ (9 ≤ op) := by omega
      have y2 : ¬ (26 ≤ op) := by omega
      clear hf hr r1 r2 h9
      go_enter Tryz.func36, Tryz.ntmps36
      go_wp2_with fail
      go_ret
      exact ⟨rfl, Below.refl _ _⟩
    · have x1 : decide (9 ≤ op) = true := by simp; omega
      have x2 : decide (26 ≤ op) = true := by simp; omega
      have x3 : decide (op ≤ 11) = false := by simp; omega
      have x4 : decide (op ≤ 29) = false := by simp; omega
      have y1 : 9 ≤ op := by omega
      have y2 : 26 ≤ op := by omega
      have y3 : ¬ op ≤ 11 := by omega
      have y4 : ¬ op ≤ 29 := by omega
      clear hf hr r1 r2 h9
      go_enter Tryz.func36, Tryz.ntmps36
      go_wp2_with fail
      go_ret
      exact ⟨rfl, Below.refl _ _⟩
section
variable {w w' : World} {b : Nat} {z : List Int} {v : Value}
theorem CB.belowW {W : Nat} (h : CB w b z v) (hb : Below W w w') (hW : b < W) : CB w' b z v := ⟨by rw [hb.block b hW]; exact h.blk, h.len⟩
end
end Go.Proofs.YtpmnjojednbnpaaGreatDoor
end
section
namespace Go.Proofs.YtpmnjojednbnpaaGreatDoor
open Go.ChangeShapes Go.WideShapes Go.ChangeAt Go.RowKit
set_option linter.unusedVariables false
set_option linter.unusedSimpArgs false

section
variable {w w1 w2 : World} {sx sy s : Bool} {A B C : Option Addr} {na nb n ca cb c : Nat} {x y z : Int}
end

theorem inN_63 (x : Int) : inN x 63 ↔ (-9223372036854775808 ≤ x ∧ x ≤ 9223372036854775807) := by
  unfold inN
  rw [show (2 : Nat) ^ 63 = 9223372036854775808 from by decide]
  split <;> omega
set_option maxRecDepth 100000 in
set_option maxHeartbeats 8000000 in
theorem bwithin_any (x : Int) (m : Nat) (K : Int) (hK : K = m + 1) (hm : m ≤ 100000) (s : Bool) (A : Option Addr) (n c : Nat) (w : World) (la : n ≤ 100000) (hx : BigAt w s A n c x) :
    Calls Tryz.prog 103 #[.agg #[.bool s, .slice A n c], .int .i64 K] w fun e w' => e = .returned (.bool (decide (inN x m))) ∧ Below w.heap.size w w' := by
  have P0 := BB.new w s A n c 124
  have hB0 : Below w.heap.size w (w.alloc (.cells #[.bool s, .slice A n c] 124)) := since_alloc (Below.refl _ w) _
  have X0 := hx.below hB0
  have hs := hx.neg_iff
  have hln := hx.len (k := m)
  have hcs := @cell_set
  clear hx
  cases s with
  | false =>
    have hv : inN x m ↔ n ≤ m := by
      have : ¬ x < 0 := by simpa using hs.symm
      unfold inN
      rw [if_neg this, hln]
    have HV := Lib.hid hv
    have HK := Lib.hid hK
    clear hv hK hln hs
    go_enter Tryz.func103, Tryz.ntmps103
    go_wp2
    go_ret
    exact ⟨retB (by have := HK.out; by_cases h : inN x m; (rw [decide_eq_true h, decide_eq_true]; have := HV.out.1 h; omega); (rw [decide_eq_false h, decide_eq_false]; have : ¬ n ≤ m := fun g => h (HV.out.2 g); omega)), hB0⟩
  | true =>
    have hx0 : x < 0 := by simpa using hs.symm
    have HX := Lib.hid hx0
    have HK := Lib.hid hK
    clear hK hln hs hx0
    go_enter Tryz.func103, Tryz.ntmps103
    go_wp2
    generalize w.alloc (.cells #[.bool true, .slice A n c] 124) = W0 at *
    obtain ⟨p0, p1, p2, p3, p4⟩ := _root_.id P0
    go_region_with (first
      | (go_at_call 71; refine (nat_any 1 W0.drew (by decide)).mono ?_; rintro e w1 ⟨⟨A1, n1, c1, rfl, hfr1, hbig1⟩, hb1⟩; have Q0 := P0.drew.below hb1; obtain ⟨r0, r1, r2, r3, r4⟩ := _root_.id Q0; have X1 := X0.drew.below hb1; have hB1 := since_step hB0.drew hb1; have hn1 : n1 ≤ 64 := (hbig1.len (k := 64)).2 (by decide); clear hb1)
      | (go_at_call 69; refine (badd' (w := w1) la (by omega) X1 hbig1).mono ?_; rintro e w2 ⟨⟨s2, A2, n2, c2, rfl, hfr, hbig⟩, hb2⟩; obtain ⟨q0, q1, q2, q3, q4⟩ := Q0.below hb2; have hB2 := since_step hB1 hb2; have hln := hbig.len (k := m); have HLN := Lib.hid hln; clear hb2 hln))
    all_goals
      go_wp2
      go_ret
      refine ⟨retB ?_, ?_⟩
      · have h1 := HK.out
        have h2 := HLN.out
        have h3 := HX.out
        have h4 : inN x m ↔ n2 ≤ m := by
          unfold inN
          rw [if_pos h3, h2]
          simp
        by_cases h : inN x m
        · rw [decide_eq_true h, decide_eq_true]; have := h4.1 h; omega
        · rw [decide_eq_false h, decide_eq_false]; have : ¬ n2 ≤ m := fun g => h (h4.2 g); omega
      · repeat' (first | with_reducible exact hB2 | with_reducible refine Below.setCell ?_ ?_ _)
        all_goals first | (simp; done) | (simp; omega)
theorem bfits_any (x : Int) (s : Bool) (A : Option Addr) (n c : Nat) (w : World) (la : n ≤ 100000) (hx : BigAt w s A n c x) :
    Calls Tryz.prog 73 #[.agg #[.bool s, .slice A n c]] w fun e w' => e = .returned (.bool (decide (inN x 63))) ∧ Below w.heap.size w w' := by
  have hB0 : Below w.heap.size w (w.alloc (.cells #[.bool s, .slice A n c] 124)) := since_alloc (Below.refl _ w) _
  have X0 := hx.below hB0
  clear hx
  go_enter Tryz.func73, Tryz.ntmps73
  go_wp2_with fail
  refine (bwithin_any x 63 64 (by decide) (by decide) s A n c _ la X0).mono ?_
  rintro e w1 ⟨rfl, hb1⟩
  generalize hd : decide (inN x 63) = r at *
  have HD := Lib.hid hd
  clear hd
  have hB1 := since_step hB0 hb1
  clear hb1
  go_wp2
  go_ret
  exact ⟨retB HD.out.symm, hB1⟩
end Go.Proofs.YtpmnjojednbnpaaGreatDoor
end
section
namespace Go.Proofs.YtpmnjojednbnpaaGreatDoor
open Go.ChangeShapes Go.WideShapes Go.ChangeAt Go.RowKit
set_option linter.unusedVariables false
set_option linter.unusedSimpArgs false

theorem mul_sign {s t : Bool} {x y : Int} {p q v : Nat} (hx : x = if s = true then -(p : Int) else (p : Int)) (hy : y = if t = true then -(q : Int) else (q : Int)) (hv : v = p * q) : x * y = if (s != t) = true then -(v : Int) else (v : Int) := by
  subst hx; subst hy; subst hv
  cases s <;> cases t <;> simp [Int.neg_mul, Int.mul_neg]
theorem bin_cons0 {R : List Nat} (h : Bin R) : Bin (0 :: R) := fun b hb => by
  rcases List.mem_cons.1 hb with rfl | h'
  · omega
  · exact h b h'
set_option maxRecDepth 100000 in
set_option maxHeartbeats 8000000 in
theorem bmul_any (x y : Int) (sx sy : Bool) (A B : Option Addr) (na ca nb cb : Nat) (w : World) (la : na ≤ 10000) (lb : nb ≤ 10000) (hx : BigAt w sx A na ca x) (hy : BigAt w sy B nb cb y) :
    Calls Tryz.prog 70 #[.agg #[.bool sx, .slice A na ca], .agg #[.bool sy, .slice B nb cb]] w fun e w' => bigR w w' e (x * y) ∧ Below w.heap.size w w' := by
  obtain ⟨a, h1, h2, h3, h4, h5, h6, h7⟩ := hx.ex
  obtain ⟨b, k1, k2, k3, k4, k5, k6, k7⟩ := hy.ex
  subst h1; subst k1
  clear hx hy h6 k6
  have H7 := Lib.hid h7
  have K7 := Lib.hid k7
  clear h7 k7
  have P1 : BB (((w.alloc (.cells #[.bool sx, .slice A a.length ca] 124)).alloc (.cells #[.bool sy, .slice B b.length cb] 124)).alloc (.cells #[.bool false, .slice none 0 0] 124)) w.heap.size sx A a.length ca := ((BB.new _ _ _ _ _ _).alloc _).alloc _
  have P2 : BB (((w.alloc (.cells #[.bool sx, .slice A a.length ca] 124)).alloc (.cells #[.bool sy, .slice B b.length cb] 124)).alloc (.cells #[.bool false, .slice none 0 0] 124)) (w.heap.size + 1) sy B b.length cb := by
    have := (BB.new (w.alloc (.cells #[.bool sx, .slice A a.length ca] 124)) sy B b.length cb 124).alloc (.cells #[.bool false, .slice none 0 0] 124)
    rwa [World.size_alloc] at this
  have P3 : BB (((w.alloc (.cells #[.bool sx, .slice A a.length ca] 124)).alloc (.cells #[.bool sy, .slice B b.length cb] 124)).alloc (.cells #[.bool false, .slice none 0 0] 124)) (w.heap.size + 1 + 1) false none 0 0 := by
    have := BB.new ((w.alloc (.cells #[.bool sx, .slice A a.length ca] 124)).alloc (.cells #[.bool sy, .slice B b.length cb] 124)) false none 0 0 124
    rwa [World.size_alloc, World.size_alloc] at this
  have hB0 : Below w.heap.size w (((w.alloc (.cells #[.bool sx, .slice A a.length ca] 124)).alloc (.cells #[.bool sy, .slice B b.length cb] 124)).alloc (.cells #[.bool false, .slice none 0 0] 124)) := since_alloc (since_alloc (since_alloc (Below.refl _ w) _) _) _
  have S1 := h4.below hB0
  have S2 := k4.below hB0
  have hcs := @cell_set
  have hlt1 := P3.1
  go_enter Tryz.func70, Tryz.ntmps70
  go_upto_region 2 with fail
  generalize (((w.alloc (.cells #[.bool sx, .slice A a.length ca] 124)).alloc (.cells #[.bool sy, .slice B b.length cb] 124)).alloc (.cells #[.bool false, .slice none 0 0] 124)) = W0 at *
  obtain ⟨p10, p11, p12, p13, p14⟩ := _root_.id P1
  go_wp2_with (first
    | (at_builtin; refine wpList_app rfl (.tmp 9) (.tmp 11) rfl EU rfl rfl (own_nil W0.heap.size _ _) (m := a.length) (news := by8 a) (by rw [by8_length, Nat.mul_one]) S1 (by8_one _) (by unfold maxLen; omega) (by omega) (Nat.le_refl _) ?_; intro A2 c2 w2 hown2 hg2 hb2)
    | fail)
  have R2 : Sl w2 A2 (by8 a) := by simpa using Sl.of_own hown2
  clear hown2 hg2 p10 p11 p12 p13 p14
  go_loopw [5, 6, 7] (fun vs vr i wr => ∃ (k : Nat) (A5 : Option Addr) (c5 : Nat) (S : List Nat) (A6 : Option Addr) (c6 : Nat) (R : List Nat), i = .int .i64 k ∧ vs = .slice A5 S.length c5 ∧ vr = .slice A6 R.length c6 ∧ k ≤ b.length ∧ BRow W0.heap.size wr A5 c5 S ∧ Sl wr A6 (by8 R) ∧ Bin R ∧ R.length = a.length + k ∧ S.length ≤ a.length + k ∧ bval R = 2 ^ k * bval a ∧ bval S = bval a * bval (b.take k) ∧ Below W0.heap.size W0 wr) (fun _ _ i _ => b.length - (intOf i).toNat)
  case atStart => exact ⟨0, none, 0, [], A2, c2, a, rfl, rfl, by simp, by omega, ⟨⟨Nat.le_refl _, by decide⟩, Sl.nil, Bin.nil, fun b o h => by cases h⟩, R2, h5.1, rfl, by simp, by simp, by simp [bval], hb2⟩
  case round =>
    obtain ⟨k, A5, c5, S, A6, c6, R, rfl, rfl, rfl, hk, hS, hR, hRb, hRl, hSl, hRv, hSv, hB⟩ := hrel
    obtain ⟨q0, q1, q2, q3, q4⟩ := P2.below hB
    have HRL := Lib.hid hRl
    have HRV := Lib.hid hRv
    have HSV := Lib.hid hSv
    have hRle : R.length ≤ 20000 := by omega
    have hSle : S.length ≤ 20000 := by omega
    clear hRl hRv hSv
    by_cases hlt : k < b.length
    · obtain ⟨bb, o, rfl, hz⟩ := (S2.below hB).byte hlt
      have hbr := World.block_lt_of_cell? _ _ hz
      have hbit := k5.1.at_ hlt
      have HT := Lib.hid (bval_take b k hlt)
      have hR2 : bval (0 :: R) = 2 ^ (k + 1) * bval a := by
        have := HRV.out
        simp only [bval, Nat.zero_add, this, Nat.pow_succ, Nat.mul_assoc, Nat.mul_left_comm, Nat.mul_comm]
      have HR2 := Lib.hid hR2
      clear hR2
      generalize b[k] = bt at *
      rcases (show bt = 0 ∨ bt = 1 by omega) with rfl | rfl
      · go_wp2_with (first
          | (at_builtin; refine wpList_app rfl (.tmp 29) (.tmp 30) rfl EU rfl rfl (own_nil wr.heap.size _ _) (m := 1) (news := by8 [0]) rfl (Sl.new_ _ _ _) (by8_one _) (by decide) (by decide) (by simp) ?_; intro A8 c8 w8 hown8 hg8 hb8; have hb8' : Below wr.heap.size wr w8 := (since_alloc (Below.refl _ _) _).trans hb8; have hr8 := hR.below hb8'; have hz8 := hb8'.size)
          | (at_builtin; refine wpList_app rfl (.tmp 32) (.tmp 33) rfl EU rfl rfl hown8 (m := R.length) (news := by8 R) (by rw [by8_length, Nat.mul_one]) hr8 (by8_one _) (by unfold maxLen; omega) (by omega) hz8 ?_; intro A9 c9 w9 hown9 hg9 hb9; have hb9' : Below wr.heap.size wr w9 := hb8'.trans hb9)
          | fail)
        have hr9 : Sl w9 A9 (by8 (0 :: R)) := by
          have := Sl.of_own hown9
          simpa [by8] using this
        go_roundw
        case rel =>
          refine ⟨k + 1, A5, c5, S, A9, c9, 0 :: R, by go_num, rfl, by simp [Nat.add_comm], by omega, ⟨hS.1, hS.2.1.below hb9', hS.2.2⟩, hr9, bin_cons0 hRb, by simp [HRL.out]; omega, by omega, HR2.out, ?_, hB.trans (hb9'.mono hB.size)⟩
          rw [HT.out, HSV.out]; simp
        case measure => simp [intOf]; omega
      · go_wp2_with fail
        refine (bplus_any A5 A6 c5 c6 S R _ (by omega) (by omega) hS.2.2.1 hRb hS.2.1 hR).mono ?_
        rintro e w3 ⟨⟨A7, c7, out, rfl, hO, hv7, hl7⟩, hb3⟩
        have HV7 := Lib.hid hv7
        have hol : out.length ≤ a.length + (k + 1) := by have := HRL.out; omega
        have hR3 := hR.below hb3
        have hB3 := hB.trans (hb3.mono hB.size)
        clear hv7 hl7 hb3 q0 q1 q2 q3 q4
        go_wp2_with (first
          | (at_builtin; refine wpList_app rfl (.tmp 29) (.tmp 30) rfl EU rfl rfl (own_nil w3.heap.size _ _) (m := 1) (news := by8 [0]) rfl (Sl.new_ _ _ _) (by8_one _) (by decide) (by decide) (by simp) ?_; intro A8 c8 w8 hown8 hg8 hb8; have hb8' : Below w3.heap.size w3 w8 := (since_alloc (Below.refl _ _) _).trans hb8; have hr8 := hR3.below hb8'; have hz8 := hb8'.size)
          | (at_builtin; refine wpList_app rfl (.tmp 32) (.tmp 33) rfl EU rfl rfl hown8 (m := R.length) (news := by8 R) (by rw [by8_length, Nat.mul_one]) hr8 (by8_one _) (by unfold maxLen; omega) (by omega) hz8 ?_; intro A9 c9 w9 hown9 hg9 hb9; have hb9' : Below w3.heap.size w3 w9 := hb8'.trans hb9)
          | fail)
        have hr9 : Sl w9 A9 (by8 (0 :: R)) := by
          have := Sl.of_own hown9
          simpa [by8] using this
        go_roundw
        case rel =>
          refine ⟨k + 1, A7, c7, out, A9, c9, 0 :: R, by go_num, rfl, by simp [Nat.add_comm], by omega, ⟨hO.1, hO.2.1.below hb9', hO.2.2.1, hO.2.2.2.le hB.size (Nat.le_refl _)⟩, hr9, bin_cons0 hRb, by simp [HRL.out]; omega, hol, HR2.out, ?_, hB3.trans (hb9'.mono hB3.size)⟩
          rw [HV7.out, HT.out, HSV.out, HRV.out, Nat.mul_add, Nat.mul_one, Nat.mul_comm (2 ^ k)]
        case measure => simp [intOf]; omega
    · have hkb : k = b.length := by omega
      have hvS : bval S = bval a * bval b := by rw [HSV.out, hkb, List.take_length]
      have HVS := Lib.hid hvS
      obtain ⟨p10, p11, p12, p13, p14⟩ := P1.below hB
      have P3r := P3.below hB
      have hB1 := hB0.trans (hB.mono hB0.size)
      clear hvS hkb
      have HM := Lib.hid (mul_sign H7.out K7.out HVS.out)
      have hfr := hS.2.2.2
      cases sx <;> cases sy
      all_goals
        go_wp2_with fail
        refine (trim_any _ A5 c5 S (x * y) HM.out _ (by omega) hS.1 hS.2.2.1 hS.2.1).mono ?_
        rintro e w4 ⟨⟨n4, c4, rfl, hn4, hbig⟩, hb4⟩
        obtain ⟨r0, r1, r2, r3, r4⟩ := P3r.below hb4
        have hB4 := since_step hB1 hb4
        clear hb4
        generalize hs2 : decide (x * y < 0) = s2 at *
        clear hs2
        go_wp2
        refine bodyPost_ret (v := .agg #[.bool s2, .slice A5 n4 c4]) ?_ rfl ?_
        · simp [results, Tryz.results70, go_sem, cell_set, r1, r2]
        · refine ⟨⟨s2, A5, n4, c4, rfl, hfr.le hB0.size hn4, ?_⟩, ?_⟩
          · exact (hbig.far (fun b o hA h0 => by have := hfr b o hA (by omega); simp; omega) _).far (fun b o hA h0 => by have := hfr b o hA (by omega); simp; omega) _
          · repeat' (first | with_reducible exact hB4 | with_reducible refine Below.setCell ?_ ?_ _)
            all_goals first | (simp; done) | (simp; omega)
end Go.Proofs.YtpmnjojednbnpaaGreatDoor
end
section
namespace Go.Proofs.YtpmnjojednbnpaaGreatDoor
open Go.ChangeShapes Go.WideShapes Go.ChangeAt Go.RowKit
set_option linter.unusedVariables false
set_option linter.unusedSimpArgs false


theorem dec_len_pos (u : Nat) : 0 < (Lib.decDigits u).length := by
  by_cases h : u < 10
  · rw [Lib.decDigits_one h]; simp
  · rw [dec_big h]; simp
end Go.Proofs.YtpmnjojednbnpaaGreatDoor
end
section
namespace Go.Proofs.YtpmnjojednbnpaaGreatDoor
open Go.ChangeShapes Go.WideShapes Go.ChangeAt Go.RowKit
set_option linter.unusedVariables false
set_option linter.unusedSimpArgs false
theorem bval_dropkR (l : List Nat) (j : Nat) (h : j < l.length) : bval (l.drop j) = l[j] + 2 * bval (l.drop (j + 1)) := by
  rw [List.drop_eq_getElem_cons h]; rfl
theorem BigAt.l64 {w : World} {s : Bool} {A : Option Addr} {n c : Nat} {z : Int} (h : BigAt w s A n c z) (hz : In64 z) : n ≤ 64 := (h.len (k := 64)).2 (by unfold In64 at hz; simp; omega)
set_option maxRecDepth 100000 in
set_option maxHeartbeats 4000000 in
theorem rint_any (x : Int) (hin : In64 x) (s : Bool) (A : Option Addr) (n c : Nat) (w : World) (hx : BigAt w s A n c x) :
    Calls Tryz.prog 74 #[.agg #[.bool s, .slice A n c]] w fun e w' => e = .returned (.int .i64 x) ∧ Below w.heap.size w w' := by
  have la := hx.l64 hin
  obtain ⟨a, h1, h2, h3, h4, h5, h6, h7⟩ := hx.ex
  subst h1
  clear hx h6
  have P1 := BB.new w s A a.length c 124
  have hB0 := since_alloc (Below.refl _ w) (.cells #[.bool s, .slice A a.length c] 124)
  have S1 := h4.below hB0
  have H7 := Lib.hid h7
  have HI := Lib.hid hin
  clear h7 hin h4
  go_enter Tryz.func74, Tryz.ntmps74
  go_upto_region 1 with fail
  generalize w.alloc (.cells #[.bool s, .slice A a.length c] 124) = W0 at *
  obtain ⟨p0, p1, p2, p3, p4⟩ := _root_.id P1
  go_wp2_with fail
  go_loopw [3, 4] (fun vn vi wr => ∃ (k : Nat) (v : Int), vi = .int .i64 k ∧ vn = .int .i64 v ∧ k ≤ a.length ∧ v = (if s = true then -(bval (a.drop k) : Int) else (bval (a.drop k) : Int)) ∧ Below W0.heap.size W0 wr) (fun _ i _ => (intOf i).toNat)
  case atStart => exact ⟨a.length, 0, rfl, rfl, by omega, by simp [bval], Below.refl _ _⟩
  case round =>
    obtain ⟨k, v, rfl, rfl, hk, hv, hB⟩ := hrel
    obtain ⟨q0, q1, q2, q3, q4⟩ := P1.below hB
    clear p0 p1 p2 p3 p4
    by_cases hk0 : 0 < k
    · obtain ⟨j, hj⟩ : ∃ j, k = j + 1 := ⟨k - 1, by omega⟩
      have hlt : j < a.length := by omega
      obtain ⟨bb, o, rfl, hz⟩ := (S1.below hB).byte hlt
      have hbr := World.block_lt_of_cell? _ _ hz
      have hbit := h5.1.at_ hlt
      have hdr : bval (a.drop j) = a[j] + 2 * bval (a.drop k) := by rw [bval_dropkR a j hlt, ← hj]
      have hle : bval (a.drop j) ≤ bval a := by
        have h8 := bval_drop a j (by omega)
        have h9 : 1 * bval (a.drop j) ≤ 2 ^ j * bval (a.drop j) := Nat.mul_le_mul_right _ (Nat.two_pow_pos j)
        omega
      have hin := HI.out
      have h7 := H7.out
      unfold In64 at hin
      have HJ := Lib.hid hj
      have HDR := Lib.hid hdr
      have f1 : IntKind.i64.wrap ((k : Int) - 1) = (j : Int) := by rw [IntKind.wrap_i64]; omega
      have d1 : decide (0 < (k : Int)) = true := decide_eq_true (by omega)
      have d1' : decide (0 < k) = true := decide_eq_true hk0
      generalize hdj : bval (a.drop j) = dj at *
      generalize hdk : bval (a.drop k) = dk at *
      generalize a[j] = bt at *
      have f2 : IntKind.i64.wrap (bt : Int) = (bt : Int) := by rw [IntKind.wrap_i64]; omega
      cases s with
      | false =>
        simp only [Bool.false_eq_true, if_false] at hv h7
        have f3 : IntKind.i64.wrap (2 * v) = 2 * v := by rw [IntKind.wrap_i64]; omega
        have f4 : IntKind.i64.wrap (2 * v + (bt : Int)) = (dj : Int) := by rw [IntKind.wrap_i64]; omega
        have HDJ := Lib.hid hdj
        clear hdr hle hin h7 hdj hdk hv hj
        go_wp2
        go_roundw
        case rel => exact ⟨j, (dj : Int), rfl, rfl, by omega, by simp [HDJ.out], hB⟩
        case measure => have := HJ.out; simp [intOf]; omega
      | true =>
        simp only [if_true] at hv h7
        have f3 : IntKind.i64.wrap (2 * v) = 2 * v := by rw [IntKind.wrap_i64]; omega
        have f4 : IntKind.i64.wrap (2 * v - (bt : Int)) = -(dj : Int) := by rw [IntKind.wrap_i64]; omega
        have HDJ := Lib.hid hdj
        clear hdr hle hin h7 hdj hdk hv hj
        go_wp2
        go_roundw
        case rel => exact ⟨j, -(dj : Int), rfl, rfl, by omega, by simp [HDJ.out], hB⟩
        case measure => have := HJ.out; simp [intOf]; omega
    · obtain rfl : k = 0 := by omega
      rw [List.drop_zero] at hv
      have hvx : v = x := by rw [hv, H7.out]
      subst hvx
      go_wp2
      go_ret
      exact ⟨rfl, since_step hB0 hB⟩
end Go.Proofs.YtpmnjojednbnpaaGreatDoor
end
