import Derived.Test.YtiggcpfmmgmncaaSp00
import Derived.Test.YtiggcpfmmgmncaaSp01
import Derived.Test.YtiggcpfmmgmncaaSp02
import Derived.Test.YtiggcpfmmgmncaaSp03
import Derived.Test.YtiggcpfmmgmncaaSp04
import Derived.Test.YtiggcpfmmgmncaaSp05
import Derived.Test.YtiggcpfmmgmncaaSp06
import Derived.Test.YtiggcpfmmgmncaaSp07
import Derived.Test.YtiggcpfmmgmncaaSp08
import Derived.Test.YtiggcpfmmgmncaaSp09
import Derived.Test.YtiggcpfmmgmncaaSp10
import Derived.Test.YtiggcpfmmgmncaaSp11
import Derived.Test.YtiggcpfmmgmncaaSp12
import Derived.Test.YtiggcpfmmgmncaaSp13
import Derived.Test.YtiggcpfmmgmncaaSp14
import Derived.Test.YtiggcpfmmgmncaaSp15
import Derived.Test.YtiggcpfmmgmncaaSp16
import Derived.Test.YtiggcpfmmgmncaaSp17
import Derived.Test.YtiggcpfmmgmncaaSp18
import Derived.Test.YtiggcpfmmgmncaaSp19
import Derived.Test.YtiggcpfmmgmncaaSp20
import Derived.Test.YtiggcpfmmgmncaaSp21
import Derived.Test.YtiggcpfmmgmncaaSp22
import Derived.Test.YtiggcpfmmgmncaaSp23
import Derived.Test.YtiggcpfmmgmncaaSp24
import Derived.Test.YtiggcpfmmgmncaaSp25
import Derived.Test.YtiggcpfmmgmncaaSp26
import Derived.Test.YtiggcpfmmgmncaaSp27
import Derived.Test.YtiggcpfmmgmncaaSp28
import Derived.Test.YtiggcpfmmgmncaaSp29
import Derived.Test.YtiggcpfmmgmncaaSp30
import Derived.Test.YtiggcpfmmgmncaaSp31
import Derived.Test.YtiggcpfmmgmncaaSp32
import Derived.Test.YtiggcpfmmgmncaaSp33
import Derived.Test.YtiggcpfmmgmncaaSp34
import Derived.Test.YtiggcpfmmgmncaaSp35
import Derived.Test.YtiggcpfmmgmncaaSp36
import Derived.Test.YtiggcpfmmgmncaaSp37
import Derived.Test.YtiggcpfmmgmncaaSp38
import Derived.Test.YtiggcpfmmgmncaaSp39
import Derived.Test.YtiggcpfmmgmncaaSp40
import Derived.Test.YtiggcpfmmgmncaaSp41
import Derived.Below
import Derived.BigQuiet
import Derived.ChangeKeysEq
import Derived.ChangeOld
import Derived.Deep.AppendSrc
import Derived.Deep.CutBlock
import Derived.Deep.CutRange
import Derived.Deep.DeepCutAuto
import Derived.Deep.DeepFit
import Derived.Deep.QuietTactic
import Derived.Deep.RegionHeld3
import Derived.Deep.RegionLaw
import Derived.Deep.Slices
import Derived.Deep.Upon
import Derived.IntWalk
import Derived.Laws.AppendOwnNone
import Derived.Laws.Bits64
import Derived.Laws.BitsAllLaws
import Derived.Laws.CopyOwn
import Derived.Laws.IdiomStrings
import Derived.Laws.NewBlocks
import Derived.Laws.OwnMore
import Derived.Lib.AppendStr
import Derived.Lib.AppendZerosOnto
import Derived.Lib.Hide
import Derived.Lib.Overlaps
import Derived.Lib.SlBytesConst
import Derived.Maps.AppendAt
import Derived.OpenShut
import Derived.Outline
import Derived.ProofKit
import Derived.ShutString
import Derived.StillTailTactics
import Derived.Test.YtiggcpfmmgmncaaRows
import Derived.WalkKit
import Derived.WalkLawsBesides
import Derived.WalkSpells
import Derived.Test.YtiggcpfmmgmncaaSr00
section
namespace Go.Proofs.Ytiggcpfmmgmncaa
open Go.ChangeShapes Go.WideShapes Go.ChangeAt Go.RowKit
set_option linter.unusedVariables false
set_option linter.unusedSimpArgs false

set_option maxHeartbeats 4000000 in
set_option maxRecDepth 100000 in
theorem sopen_unfit {B b g kc : Nat} {K : Option Addr} {d : Dv} (f t life era : Int) (w : World) (h : DrA B w b g K kc d) (hf : fitP d.S.length f t = false) :
    Calls Try.prog 15 #[.pointer (some ⟨b, 0, none⟩), .int .i64 f, .int .i64 t, .int .i64 life, .int .i64 era] w fun e w' => e = .returned (.tuple #[.pointer none, .int .i64 2]) ∧ Below w.heap.size w w' := by
  have HS := Lib.hid (dsize_eq w h)
  have hn0 : (((d.S.length : Nat) : Int) == 0) = false := by have := h.len.1; simpa using (by omega : ((d.S.length : Nat) : Int) ≠ 0)
  have HFIT := Lib.hid (fun V (hV : Below w.heap.size w V) => pfit_any f t V (h.below hV))
  rw [hf] at HFIT
  obtain ⟨n, hn⟩ : ∃ n, d.S.length = n := ⟨_, rfl⟩
  rw [hn] at HS hn0
  clear hn h hf
  go_enter Try.func15, Try.ntmps15
  go_wp2_with fail
  refine HS.out.mono ?_
  rintro e w1 ⟨rfl, rfl⟩
  have HB0 := Lib.hid (show Below w1.heap.size w1 (w1.alloc (.cells #[.pointer (some ⟨b, 0, none⟩), .int .i64 f, .int .i64 t, .int .i64 life, .int .i64 era, .slice none 0 0, .int .i64 0, .bool false] 66)) from since_alloc (Below.refl _ _) _)
  go_wp2_with fail
  refine (HFIT.out _ HB0.out).mono ?_
  rintro e w2 ⟨rfl, hb2⟩
  have HB2 := Lib.hid (since_step HB0.out hb2)
  clear hb2
  go_wp2_with fail
  go_ret2
  exact ⟨rfl, HB2.out⟩
set_option maxHeartbeats 4000000 in
set_option maxRecDepth 100000 in
theorem sopen_arg_a {B b g kc : Nat} {K : Option Addr} {d : Dv} (f t : Nat) (life era : Int) (w : World) (h : DrA B w b g K kc d) (hB : B ≤ w.heap.size) (hft : f ≤ t) (ht : t ≤ d.S.length) (hbad : life < 1) :
    Calls Try.prog 15 #[.pointer (some ⟨b, 0, none⟩), .int .i64 f, .int .i64 t, .int .i64 life, .int .i64 era] w fun e w' => e = .returned (.tuple #[.pointer none, .int .i64 2]) ∧ Below w.heap.size w w' := by
  have HS := Lib.hid (dsize_eq w h)
  have hn0 : (((d.S.length : Nat) : Int) == 0) = false := by have := h.len.1; simpa using (by omega : ((d.S.length : Nat) : Int) ≠ 0)
  have hsl := h.len.2
  have HFIT := Lib.hid (fun V (hV : Below w.heap.size w V) => pfit_any (f : Int) (t : Int) V (h.below hV))
  rw [show fitP d.S.length (f : Int) (t : Int) = true by unfold fitP; rw [decide_eq_true (by omega), decide_eq_true (by omega), decide_eq_true (by omega)]; rfl] at HFIT
  have HNEW := Lib.hid (fun V (hV : Below w.heap.size w V) => pnewest_any f t V (h.below hV) hft ht)
  have HBB := Lib.hid hB
  have HFT := Lib.hid (show f ≤ 2048 ∧ t ≤ 2048 by omega)
  obtain ⟨nw, hnw⟩ : ∃ nw, newestN d.S f (t - f) = nw := ⟨_, rfl⟩
  rw [hnw] at HNEW
  try rw [hnw] at hbad
  have c1 : (life < 1) := by omega
  have d1 : decide (life < 1) = true := decide_eq_true c1
  obtain ⟨n, hn⟩ : ∃ n, d.S.length = n := ⟨_, rfl⟩
  rw [hn] at HS hn0 hsl
  try rw [hn] at HFIT
  clear hn h hB hft ht hnw hbad hsl
  go_enter Try.func15, Try.ntmps15
  go_wp2_with fail
  refine HS.out.mono ?_
  rintro e w1 ⟨rfl, rfl⟩
  go_wp2_with fail
  have hs0 : ScA B (w1.alloc (.cells #[.pointer (some ⟨b, 0, none⟩), .int .i64 f, .int .i64 t, .int .i64 life, .int .i64 era, .slice none 0 0, .int .i64 0, .bool false] 66)) w1.heap.size b none 0 [] ⟨f, t, life, era, [], 0, false⟩ := by
    refine ⟨?_, own_nil _ _ _, (fun s hs => by cases hs), rfl, HBB.out, HFT.out.1, HFT.out.2, Nat.zero_le _, Nat.zero_le _⟩
    rw [heap_alloc_new]
    simp [Sc.cells]
  have HB0 := Lib.hid (show Below w1.heap.size w1 (w1.alloc (.cells #[.pointer (some ⟨b, 0, none⟩), .int .i64 f, .int .i64 t, .int .i64 life, .int .i64 era, .slice none 0 0, .int .i64 0, .bool false] 66)) from since_alloc (Below.refl _ _) _)
  have HS0 := Lib.hid hs0
  clear hs0
  refine (HFIT.out _ HB0.out).mono ?_
  rintro e w2 ⟨rfl, hb2⟩
  have HS2 := Lib.hid (HS0.out.below hb2)
  have HB2 := Lib.hid (since_step HB0.out hb2)
  obtain ⟨p0, p1, p2, p3, p4, p5, p6, p7⟩ := HS2.out.got
  have ps := HS2.out.lt
  simp only at p0 p1 p2 p3 p4 p5 p6 p7
  clear hb2
  go_wp2_with fail
  go_ret2
  exact ⟨rfl, HB2.out⟩
set_option maxHeartbeats 4000000 in
set_option maxRecDepth 100000 in
theorem sopen_arg_b {B b g kc : Nat} {K : Option Addr} {d : Dv} (f t : Nat) (life era : Int) (w : World) (h : DrA B w b g K kc d) (hB : B ≤ w.heap.size) (hft : f ≤ t) (ht : t ≤ d.S.length) (hbad : 16777215 < life ∧ 1 ≤ life) :
    Calls Try.prog 15 #[.pointer (some ⟨b, 0, none⟩), .int .i64 f, .int .i64 t, .int .i64 life, .int .i64 era] w fun e w' => e = .returned (.tuple #[.pointer none, .int .i64 2]) ∧ Below w.heap.size w w' := by
  have HS := Lib.hid (dsize_eq w h)
  have hn0 : (((d.S.length : Nat) : Int) == 0) = false := by have := h.len.1; simpa using (by omega : ((d.S.length : Nat) : Int) ≠ 0)
  have hsl := h.len.2
  have HFIT := Lib.hid (fun V (hV : Below w.heap.size w V) => pfit_any (f : Int) (t : Int) V (h.below hV))
  rw [show fitP d.S.length (f : Int) (t : Int) = true by unfold fitP; rw [decide_eq_true (by omega), decide_eq_true (by omega), decide_eq_true (by omega)]; rfl] at HFIT
  have HNEW := Lib.hid (fun V (hV : Below w.heap.size w V) => pnewest_any f t V (h.below hV) hft ht)
  have HBB := Lib.hid hB
  have HFT := Lib.hid (show f ≤ 2048 ∧ t ≤ 2048 by omega)
  obtain ⟨nw, hnw⟩ : ∃ nw, newestN d.S f (t - f) = nw := ⟨_, rfl⟩
  rw [hnw] at HNEW
  try rw [hnw] at hbad
  have c1 : ¬ (life < 1) := by omega
  have d1 : decide (life < 1) = false := decide_eq_false c1
  have c2 : (16777215 < life) := by omega
  have d2 : decide (16777215 < life) = true := decide_eq_true c2
  obtain ⟨n, hn⟩ : ∃ n, d.S.length = n := ⟨_, rfl⟩
  rw [hn] at HS hn0 hsl
  try rw [hn] at HFIT
  clear hn h hB hft ht hnw hbad hsl
  go_enter Try.func15, Try.ntmps15
  go_wp2_with fail
  refine HS.out.mono ?_
  rintro e w1 ⟨rfl, rfl⟩
  go_wp2_with fail
  have hs0 : ScA B (w1.alloc (.cells #[.pointer (some ⟨b, 0, none⟩), .int .i64 f, .int .i64 t, .int .i64 life, .int .i64 era, .slice none 0 0, .int .i64 0, .bool false] 66)) w1.heap.size b none 0 [] ⟨f, t, life, era, [], 0, false⟩ := by
    refine ⟨?_, own_nil _ _ _, (fun s hs => by cases hs), rfl, HBB.out, HFT.out.1, HFT.out.2, Nat.zero_le _, Nat.zero_le _⟩
    rw [heap_alloc_new]
    simp [Sc.cells]
  have HB0 := Lib.hid (show Below w1.heap.size w1 (w1.alloc (.cells #[.pointer (some ⟨b, 0, none⟩), .int .i64 f, .int .i64 t, .int .i64 life, .int .i64 era, .slice none 0 0, .int .i64 0, .bool false] 66)) from since_alloc (Below.refl _ _) _)
  have HS0 := Lib.hid hs0
  clear hs0
  refine (HFIT.out _ HB0.out).mono ?_
  rintro e w2 ⟨rfl, hb2⟩
  have HS2 := Lib.hid (HS0.out.below hb2)
  have HB2 := Lib.hid (since_step HB0.out hb2)
  obtain ⟨p0, p1, p2, p3, p4, p5, p6, p7⟩ := HS2.out.got
  have ps := HS2.out.lt
  simp only at p0 p1 p2 p3 p4 p5 p6 p7
  clear hb2
  go_wp2_with fail
  go_ret2
  exact ⟨rfl, HB2.out⟩
set_option maxHeartbeats 4000000 in
set_option maxRecDepth 100000 in
theorem sopen_arg_c {B b g kc : Nat} {K : Option Addr} {d : Dv} (f t : Nat) (life era : Int) (w : World) (h : DrA B w b g K kc d) (hB : B ≤ w.heap.size) (hft : f ≤ t) (ht : t ≤ d.S.length) (hbad : life ≤ newestN d.S f (t - f) ∧ 1 ≤ life ∧ life ≤ 16777215) :
    Calls Try.prog 15 #[.pointer (some ⟨b, 0, none⟩), .int .i64 f, .int .i64 t, .int .i64 life, .int .i64 era] w fun e w' => e = .returned (.tuple #[.pointer none, .int .i64 2]) ∧ Below w.heap.size w w' := by
  have HS := Lib.hid (dsize_eq w h)
  have hn0 : (((d.S.length : Nat) : Int) == 0) = false := by have := h.len.1; simpa using (by omega : ((d.S.length : Nat) : Int) ≠ 0)
  have hsl := h.len.2
  have HFIT := Lib.hid (fun V (hV : Below w.heap.size w V) => pfit_any (f : Int) (t : Int) V (h.below hV))
  rw [show fitP d.S.length (f : Int) (t : Int) = true by unfold fitP; rw [decide_eq_true (by omega), decide_eq_true (by omega), decide_eq_true (by omega)]; rfl] at HFIT
  have HNEW := Lib.hid (fun V (hV : Below w.heap.size w V) => pnewest_any f t V (h.below hV) hft ht)
  have HBB := Lib.hid hB
  have HFT := Lib.hid (show f ≤ 2048 ∧ t ≤ 2048 by omega)
  obtain ⟨nw, hnw⟩ : ∃ nw, newestN d.S f (t - f) = nw := ⟨_, rfl⟩
  rw [hnw] at HNEW
  try rw [hnw] at hbad
  have c1 : ¬ (life < 1) := by omega
  have d1 : decide (life < 1) = false := decide_eq_false c1
  have c2 : ¬ (16777215 < life) := by omega
  have d2 : decide (16777215 < life) = false := decide_eq_false c2
  have c3 : (life ≤ nw) := by omega
  have d3 : decide (life ≤ nw) = true := decide_eq_true c3
  obtain ⟨n, hn⟩ : ∃ n, d.S.length = n := ⟨_, rfl⟩
  rw [hn] at HS hn0 hsl
  try rw [hn] at HFIT
  clear hn h hB hft ht hnw hbad hsl
  go_enter Try.func15, Try.ntmps15
  go_wp2_with fail
  refine HS.out.mono ?_
  rintro e w1 ⟨rfl, rfl⟩
  go_wp2_with fail
  have hs0 : ScA B (w1.alloc (.cells #[.pointer (some ⟨b, 0, none⟩), .int .i64 f, .int .i64 t, .int .i64 life, .int .i64 era, .slice none 0 0, .int .i64 0, .bool false] 66)) w1.heap.size b none 0 [] ⟨f, t, life, era, [], 0, false⟩ := by
    refine ⟨?_, own_nil _ _ _, (fun s hs => by cases hs), rfl, HBB.out, HFT.out.1, HFT.out.2, Nat.zero_le _, Nat.zero_le _⟩
    rw [heap_alloc_new]
    simp [Sc.cells]
  have HB0 := Lib.hid (show Below w1.heap.size w1 (w1.alloc (.cells #[.pointer (some ⟨b, 0, none⟩), .int .i64 f, .int .i64 t, .int .i64 life, .int .i64 era, .slice none 0 0, .int .i64 0, .bool false] 66)) from since_alloc (Below.refl _ _) _)
  have HS0 := Lib.hid hs0
  clear hs0
  refine (HFIT.out _ HB0.out).mono ?_
  rintro e w2 ⟨rfl, hb2⟩
  have HS2 := Lib.hid (HS0.out.below hb2)
  have HB2 := Lib.hid (since_step HB0.out hb2)
  obtain ⟨p0, p1, p2, p3, p4, p5, p6, p7⟩ := HS2.out.got
  have ps := HS2.out.lt
  simp only at p0 p1 p2 p3 p4 p5 p6 p7
  clear hb2
  go_wp2_with fail
  refine (HNEW.out _ HB2.out).mono ?_
  rintro e w3 ⟨rfl, hb3⟩
  have HB3 := Lib.hid (since_step HB2.out hb3)
  have HS3 := Lib.hid (HS2.out.below hb3)
  clear p0 p1 p2 p3 p4 p5 p6 p7 ps
  obtain ⟨p0, p1, p2, p3, p4, p5, p6, p7⟩ := HS3.out.got
  have ps := HS3.out.lt
  simp only at p0 p1 p2 p3 p4 p5 p6 p7
  clear hb3
  go_wp2_with fail
  go_ret2
  exact ⟨rfl, HB3.out⟩
set_option maxHeartbeats 4000000 in
set_option maxRecDepth 100000 in
theorem sopen_arg_d {B b g kc : Nat} {K : Option Addr} {d : Dv} (f t : Nat) (life era : Int) (w : World) (h : DrA B w b g K kc d) (hB : B ≤ w.heap.size) (hft : f ≤ t) (ht : t ≤ d.S.length) (hbad : era < 0 ∧ newestN d.S f (t - f) < life ∧ 1 ≤ life ∧ life ≤ 16777215) :
    Calls Try.prog 15 #[.pointer (some ⟨b, 0, none⟩), .int .i64 f, .int .i64 t, .int .i64 life, .int .i64 era] w fun e w' => e = .returned (.tuple #[.pointer none, .int .i64 2]) ∧ Below w.heap.size w w' := by
  have HS := Lib.hid (dsize_eq w h)
  have hn0 : (((d.S.length : Nat) : Int) == 0) = false := by have := h.len.1; simpa using (by omega : ((d.S.length : Nat) : Int) ≠ 0)
  have hsl := h.len.2
  have HFIT := Lib.hid (fun V (hV : Below w.heap.size w V) => pfit_any (f : Int) (t : Int) V (h.below hV))
  rw [show fitP d.S.length (f : Int) (t : Int) = true by unfold fitP; rw [decide_eq_true (by omega), decide_eq_true (by omega), decide_eq_true (by omega)]; rfl] at HFIT
  have HNEW := Lib.hid (fun V (hV : Below w.heap.size w V) => pnewest_any f t V (h.below hV) hft ht)
  have HBB := Lib.hid hB
  have HFT := Lib.hid (show f ≤ 2048 ∧ t ≤ 2048 by omega)
  obtain ⟨nw, hnw⟩ : ∃ nw, newestN d.S f (t - f) = nw := ⟨_, rfl⟩
  rw [hnw] at HNEW
  try rw [hnw] at hbad
  have c1 : ¬ (life < 1) := by omega
  have d1 : decide (life < 1) = false := decide_eq_false c1
  have c2 : ¬ (16777215 < life) := by omega
  have d2 : decide (16777215 < life) = false := decide_eq_false c2
  have c3 : ¬ (life ≤ nw) := by omega
  have d3 : decide (life ≤ nw) = false := decide_eq_false c3
  have c4 : (era < 0) := by omega
  have d4 : decide (era < 0) = true := decide_eq_true c4
  obtain ⟨n, hn⟩ : ∃ n, d.S.length = n := ⟨_, rfl⟩
  rw [hn] at HS hn0 hsl
  try rw [hn] at HFIT
  clear hn h hB hft ht hnw hbad hsl
  go_enter Try.func15, Try.ntmps15
  go_wp2_with fail
  refine HS.out.mono ?_
  rintro e w1 ⟨rfl, rfl⟩
  go_wp2_with fail
  have hs0 : ScA B (w1.alloc (.cells #[.pointer (some ⟨b, 0, none⟩), .int .i64 f, .int .i64 t, .int .i64 life, .int .i64 era, .slice none 0 0, .int .i64 0, .bool false] 66)) w1.heap.size b none 0 [] ⟨f, t, life, era, [], 0, false⟩ := by
    refine ⟨?_, own_nil _ _ _, (fun s hs => by cases hs), rfl, HBB.out, HFT.out.1, HFT.out.2, Nat.zero_le _, Nat.zero_le _⟩
    rw [heap_alloc_new]
    simp [Sc.cells]
  have HB0 := Lib.hid (show Below w1.heap.size w1 (w1.alloc (.cells #[.pointer (some ⟨b, 0, none⟩), .int .i64 f, .int .i64 t, .int .i64 life, .int .i64 era, .slice none 0 0, .int .i64 0, .bool false] 66)) from since_alloc (Below.refl _ _) _)
  have HS0 := Lib.hid hs0
  clear hs0
  refine (HFIT.out _ HB0.out).mono ?_
  rintro e w2 ⟨rfl, hb2⟩
  have HS2 := Lib.hid (HS0.out.below hb2)
  have HB2 := Lib.hid (since_step HB0.out hb2)
  obtain ⟨p0, p1, p2, p3, p4, p5, p6, p7⟩ := HS2.out.got
  have ps := HS2.out.lt
  simp only at p0 p1 p2 p3 p4 p5 p6 p7
  clear hb2
  go_wp2_with fail
  refine (HNEW.out _ HB2.out).mono ?_
  rintro e w3 ⟨rfl, hb3⟩
  have HB3 := Lib.hid (since_step HB2.out hb3)
  have HS3 := Lib.hid (HS2.out.below hb3)
  clear p0 p1 p2 p3 p4 p5 p6 p7 ps
  obtain ⟨p0, p1, p2, p3, p4, p5, p6, p7⟩ := HS3.out.got
  have ps := HS3.out.lt
  simp only at p0 p1 p2 p3 p4 p5 p6 p7
  clear hb3
  go_wp2_with fail
  go_ret2
  exact ⟨rfl, HB3.out⟩
set_option maxHeartbeats 4000000 in
set_option maxRecDepth 100000 in
theorem sopen_arg_e {B b g kc : Nat} {K : Option Addr} {d : Dv} (f t : Nat) (life era : Int) (w : World) (h : DrA B w b g K kc d) (hB : B ≤ w.heap.size) (hft : f ≤ t) (ht : t ≤ d.S.length) (hbad : 16777215 < era ∧ 0 ≤ era ∧ newestN d.S f (t - f) < life ∧ 1 ≤ life ∧ life ≤ 16777215) :
    Calls Try.prog 15 #[.pointer (some ⟨b, 0, none⟩), .int .i64 f, .int .i64 t, .int .i64 life, .int .i64 era] w fun e w' => e = .returned (.tuple #[.pointer none, .int .i64 2]) ∧ Below w.heap.size w w' := by
  have HS := Lib.hid (dsize_eq w h)
  have hn0 : (((d.S.length : Nat) : Int) == 0) = false := by have := h.len.1; simpa using (by omega : ((d.S.length : Nat) : Int) ≠ 0)
  have hsl := h.len.2
  have HFIT := Lib.hid (fun V (hV : Below w.heap.size w V) => pfit_any (f : Int) (t : Int) V (h.below hV))
  rw [show fitP d.S.length (f : Int) (t : Int) = true by unfold fitP; rw [decide_eq_true (by omega), decide_eq_true (by omega), decide_eq_true (by omega)]; rfl] at HFIT
  have HNEW := Lib.hid (fun V (hV : Below w.heap.size w V) => pnewest_any f t V (h.below hV) hft ht)
  have HBB := Lib.hid hB
  have HFT := Lib.hid (show f ≤ 2048 ∧ t ≤ 2048 by omega)
  obtain ⟨nw, hnw⟩ : ∃ nw, newestN d.S f (t - f) = nw := ⟨_, rfl⟩
  rw [hnw] at HNEW
  try rw [hnw] at hbad
  have c1 : ¬ (life < 1) := by omega
  have d1 : decide (life < 1) = false := decide_eq_false c1
  have c2 : ¬ (16777215 < life) := by omega
  have d2 : decide (16777215 < life) = false := decide_eq_false c2
  have c3 : ¬ (life ≤ nw) := by omega
  have d3 : decide (life ≤ nw) = false := decide_eq_false c3
  have c4 : ¬ (era < 0) := by omega
  have d4 : decide (era < 0) = false := decide_eq_false c4
  have c5 : (16777215 < era) := by omega
  have d5 : decide (16777215 < era) = true := decide_eq_true c5
  obtain ⟨n, hn⟩ : ∃ n, d.S.length = n := ⟨_, rfl⟩
  rw [hn] at HS hn0 hsl
  try rw [hn] at HFIT
  clear hn h hB hft ht hnw hbad hsl
  go_enter Try.func15, Try.ntmps15
  go_wp2_with fail
  refine HS.out.mono ?_
  rintro e w1 ⟨rfl, rfl⟩
  go_wp2_with fail
  have hs0 : ScA B (w1.alloc (.cells #[.pointer (some ⟨b, 0, none⟩), .int .i64 f, .int .i64 t, .int .i64 life, .int .i64 era, .slice none 0 0, .int .i64 0, .bool false] 66)) w1.heap.size b none 0 [] ⟨f, t, life, era, [], 0, false⟩ := by
    refine ⟨?_, own_nil _ _ _, (fun s hs => by cases hs), rfl, HBB.out, HFT.out.1, HFT.out.2, Nat.zero_le _, Nat.zero_le _⟩
    rw [heap_alloc_new]
    simp [Sc.cells]
  have HB0 := Lib.hid (show Below w1.heap.size w1 (w1.alloc (.cells #[.pointer (some ⟨b, 0, none⟩), .int .i64 f, .int .i64 t, .int .i64 life, .int .i64 era, .slice none 0 0, .int .i64 0, .bool false] 66)) from since_alloc (Below.refl _ _) _)
  have HS0 := Lib.hid hs0
  clear hs0
  refine (HFIT.out _ HB0.out).mono ?_
  rintro e w2 ⟨rfl, hb2⟩
  have HS2 := Lib.hid (HS0.out.below hb2)
  have HB2 := Lib.hid (since_step HB0.out hb2)
  obtain ⟨p0, p1, p2, p3, p4, p5, p6, p7⟩ := HS2.out.got
  have ps := HS2.out.lt
  simp only at p0 p1 p2 p3 p4 p5 p6 p7
  clear hb2
  go_wp2_with fail
  refine (HNEW.out _ HB2.out).mono ?_
  rintro e w3 ⟨rfl, hb3⟩
  have HB3 := Lib.hid (since_step HB2.out hb3)
  have HS3 := Lib.hid (HS2.out.below hb3)
  clear p0 p1 p2 p3 p4 p5 p6 p7 ps
  obtain ⟨p0, p1, p2, p3, p4, p5, p6, p7⟩ := HS3.out.got
  have ps := HS3.out.lt
  simp only at p0 p1 p2 p3 p4 p5 p6 p7
  clear hb3
  go_wp2_with fail
  go_ret2
  exact ⟨rfl, HB3.out⟩
theorem sopen_arg {B b g kc : Nat} {K : Option Addr} {d : Dv} (f t : Nat) (life era : Int) (w : World) (h : DrA B w b g K kc d) (hB : B ≤ w.heap.size) (hft : f ≤ t) (ht : t ≤ d.S.length) (hbad : ¬ (1 ≤ life ∧ life ≤ 16777215 ∧ newestN d.S f (t - f) < life ∧ 0 ≤ era ∧ era ≤ 16777215)) :
    Calls Try.prog 15 #[.pointer (some ⟨b, 0, none⟩), .int .i64 f, .int .i64 t, .int .i64 life, .int .i64 era] w fun e w' => e = .returned (.tuple #[.pointer none, .int .i64 2]) ∧ Below w.heap.size w w' := by
  by_cases h1 : life < 1
  · exact sopen_arg_a f t life era w h hB hft ht h1
  by_cases h2 : 16777215 < life
  · exact sopen_arg_b f t life era w h hB hft ht ⟨h2, by omega⟩
  by_cases h3 : life ≤ newestN d.S f (t - f)
  · exact sopen_arg_c f t life era w h hB hft ht ⟨h3, by omega, by omega⟩
  by_cases h4 : era < 0
  · exact sopen_arg_d f t life era w h hB hft ht ⟨h4, by omega, by omega, by omega⟩
  exact sopen_arg_e f t life era w h hB hft ht ⟨by omega, by omega, by omega, by omega, by omega⟩
set_option maxHeartbeats 4000000 in
set_option maxRecDepth 100000 in
theorem ropen8_bad_0 {B b c kc : Nat} {A KA : Option Addr} {R : List (RowS Nat)} {x : Rv} (f t life era : Int) (w : World) (h : RvA B w b A c R KA kc x) (hbad : (f < 0)) :
    Calls Try.prog 16 #[.pointer (some ⟨b, 0, none⟩), .int .i64 f, .int .i64 t, .int .i64 life, .int .i64 era] w fun e w' => e = .returned (.tuple #[.pointer none, .int .i64 2]) ∧ Below w.heap.size w w' := by
  obtain ⟨p0, p1, p2, p3, p4, ps⟩ := h.got
  have c0 : (f < 0) := hbad
  have d0 : decide (f < 0) = true := decide_eq_true c0
  clear h hbad
  go_enter Try.func16, Try.ntmps16
  go_wp2_with fail
  go_ret2
  exact ⟨rfl, Below.refl _ _⟩
set_option maxHeartbeats 4000000 in
set_option maxRecDepth 100000 in
theorem ropen8_bad_1 {B b c kc : Nat} {A KA : Option Addr} {R : List (RowS Nat)} {x : Rv} (f t life era : Int) (w : World) (h : RvA B w b A c R KA kc x) (hbad : (t < f) ∧ ¬ (f < 0)) :
    Calls Try.prog 16 #[.pointer (some ⟨b, 0, none⟩), .int .i64 f, .int .i64 t, .int .i64 life, .int .i64 era] w fun e w' => e = .returned (.tuple #[.pointer none, .int .i64 2]) ∧ Below w.heap.size w w' := by
  obtain ⟨p0, p1, p2, p3, p4, ps⟩ := h.got
  have c0 : ¬ (f < 0) := hbad.2
  have d0 : decide (f < 0) = false := decide_eq_false c0
  have c1 : (t < f) := hbad.1
  have d1 : decide (t < f) = true := decide_eq_true c1
  clear h hbad
  go_enter Try.func16, Try.ntmps16
  go_wp2_with fail
  go_ret2
  exact ⟨rfl, Below.refl _ _⟩
set_option maxHeartbeats 4000000 in
set_option maxRecDepth 100000 in
theorem ropen8_bad_2 {B b c kc : Nat} {A KA : Option Addr} {R : List (RowS Nat)} {x : Rv} (f t life era : Int) (w : World) (h : RvA B w b A c R KA kc x) (hbad : ((x.C.length : Int) < t) ∧ ¬ (f < 0) ∧ ¬ (t < f)) :
    Calls Try.prog 16 #[.pointer (some ⟨b, 0, none⟩), .int .i64 f, .int .i64 t, .int .i64 life, .int .i64 era] w fun e w' => e = .returned (.tuple #[.pointer none, .int .i64 2]) ∧ Below w.heap.size w w' := by
  obtain ⟨p0, p1, p2, p3, p4, ps⟩ := h.got
  have c0 : ¬ (f < 0) := hbad.2.1
  have d0 : decide (f < 0) = false := decide_eq_false c0
  have c1 : ¬ (t < f) := hbad.2.2
  have d1 : decide (t < f) = false := decide_eq_false c1
  have c2 : ((x.C.length : Int) < t) := hbad.1
  have d2 : decide ((x.C.length : Int) < t) = true := decide_eq_true c2
  clear h hbad
  go_enter Try.func16, Try.ntmps16
  go_wp2_with fail
  go_ret2
  exact ⟨rfl, Below.refl _ _⟩
set_option maxHeartbeats 4000000 in
set_option maxRecDepth 100000 in
theorem ropen8_bad_3 {B b c kc : Nat} {A KA : Option Addr} {R : List (RowS Nat)} {x : Rv} (f t life era : Int) (w : World) (h : RvA B w b A c R KA kc x) (hbad : (life < 1) ∧ ¬ (f < 0) ∧ ¬ (t < f) ∧ ¬ ((x.C.length : Int) < t)) :
    Calls Try.prog 16 #[.pointer (some ⟨b, 0, none⟩), .int .i64 f, .int .i64 t, .int .i64 life, .int .i64 era] w fun e w' => e = .returned (.tuple #[.pointer none, .int .i64 2]) ∧ Below w.heap.size w w' := by
  obtain ⟨p0, p1, p2, p3, p4, ps⟩ := h.got
  have c0 : ¬ (f < 0) := hbad.2.1
  have d0 : decide (f < 0) = false := decide_eq_false c0
  have c1 : ¬ (t < f) := hbad.2.2.1
  have d1 : decide (t < f) = false := decide_eq_false c1
  have c2 : ¬ ((x.C.length : Int) < t) := hbad.2.2.2
  have d2 : decide ((x.C.length : Int) < t) = false := decide_eq_false c2
  have c3 : (life < 1) := hbad.1
  have d3 : decide (life < 1) = true := decide_eq_true c3
  clear h hbad
  go_enter Try.func16, Try.ntmps16
  go_wp2_with fail
  go_ret2
  exact ⟨rfl, Below.refl _ _⟩
set_option maxHeartbeats 4000000 in
set_option maxRecDepth 100000 in
theorem ropen8_bad_4 {B b c kc : Nat} {A KA : Option Addr} {R : List (RowS Nat)} {x : Rv} (f t life era : Int) (w : World) (h : RvA B w b A c R KA kc x) (hbad : (16777215 < life) ∧ ¬ (f < 0) ∧ ¬ (t < f) ∧ ¬ ((x.C.length : Int) < t) ∧ ¬ (life < 1)) :
    Calls Try.prog 16 #[.pointer (some ⟨b, 0, none⟩), .int .i64 f, .int .i64 t, .int .i64 life, .int .i64 era] w fun e w' => e = .returned (.tuple #[.pointer none, .int .i64 2]) ∧ Below w.heap.size w w' := by
  obtain ⟨p0, p1, p2, p3, p4, ps⟩ := h.got
  have c0 : ¬ (f < 0) := hbad.2.1
  have d0 : decide (f < 0) = false := decide_eq_false c0
  have c1 : ¬ (t < f) := hbad.2.2.1
  have d1 : decide (t < f) = false := decide_eq_false c1
  have c2 : ¬ ((x.C.length : Int) < t) := hbad.2.2.2.1
  have d2 : decide ((x.C.length : Int) < t) = false := decide_eq_false c2
  have c3 : ¬ (life < 1) := hbad.2.2.2.2
  have d3 : decide (life < 1) = false := decide_eq_false c3
  have c4 : (16777215 < life) := hbad.1
  have d4 : decide (16777215 < life) = true := decide_eq_true c4
  clear h hbad
  go_enter Try.func16, Try.ntmps16
  go_wp2_with fail
  go_ret2
  exact ⟨rfl, Below.refl _ _⟩
set_option maxHeartbeats 4000000 in
set_option maxRecDepth 100000 in
theorem ropen8_bad_5 {B b c kc : Nat} {A KA : Option Addr} {R : List (RowS Nat)} {x : Rv} (f t life era : Int) (w : World) (h : RvA B w b A c R KA kc x) (hbad : (era < 0) ∧ ¬ (f < 0) ∧ ¬ (t < f) ∧ ¬ ((x.C.length : Int) < t) ∧ ¬ (life < 1) ∧ ¬ (16777215 < life)) :
    Calls Try.prog 16 #[.pointer (some ⟨b, 0, none⟩), .int .i64 f, .int .i64 t, .int .i64 life, .int .i64 era] w fun e w' => e = .returned (.tuple #[.pointer none, .int .i64 2]) ∧ Below w.heap.size w w' := by
  obtain ⟨p0, p1, p2, p3, p4, ps⟩ := h.got
  have c0 : ¬ (f < 0) := hbad.2.1
  have d0 : decide (f < 0) = false := decide_eq_false c0
  have c1 : ¬ (t < f) := hbad.2.2.1
  have d1 : decide (t < f) = false := decide_eq_false c1
  have c2 : ¬ ((x.C.length : Int) < t) := hbad.2.2.2.1
  have d2 : decide ((x.C.length : Int) < t) = false := decide_eq_false c2
  have c3 : ¬ (life < 1) := hbad.2.2.2.2.1
  have d3 : decide (life < 1) = false := decide_eq_false c3
  have c4 : ¬ (16777215 < life) := hbad.2.2.2.2.2
  have d4 : decide (16777215 < life) = false := decide_eq_false c4
  have c5 : (era < 0) := hbad.1
  have d5 : decide (era < 0) = true := decide_eq_true c5
  clear h hbad
  go_enter Try.func16, Try.ntmps16
  go_wp2_with fail
  go_ret2
  exact ⟨rfl, Below.refl _ _⟩
set_option maxHeartbeats 4000000 in
set_option maxRecDepth 100000 in
theorem ropen8_bad_6 {B b c kc : Nat} {A KA : Option Addr} {R : List (RowS Nat)} {x : Rv} (f t life era : Int) (w : World) (h : RvA B w b A c R KA kc x) (hbad : (16777215 < era) ∧ ¬ (f < 0) ∧ ¬ (t < f) ∧ ¬ ((x.C.length : Int) < t) ∧ ¬ (life < 1) ∧ ¬ (16777215 < life) ∧ ¬ (era < 0)) :
    Calls Try.prog 16 #[.pointer (some ⟨b, 0, none⟩), .int .i64 f, .int .i64 t, .int .i64 life, .int .i64 era] w fun e w' => e = .returned (.tuple #[.pointer none, .int .i64 2]) ∧ Below w.heap.size w w' := by
  obtain ⟨p0, p1, p2, p3, p4, ps⟩ := h.got
  have c0 : ¬ (f < 0) := hbad.2.1
  have d0 : decide (f < 0) = false := decide_eq_false c0
  have c1 : ¬ (t < f) := hbad.2.2.1
  have d1 : decide (t < f) = false := decide_eq_false c1
  have c2 : ¬ ((x.C.length : Int) < t) := hbad.2.2.2.1
  have d2 : decide ((x.C.length : Int) < t) = false := decide_eq_false c2
  have c3 : ¬ (life < 1) := hbad.2.2.2.2.1
  have d3 : decide (life < 1) = false := decide_eq_false c3
  have c4 : ¬ (16777215 < life) := hbad.2.2.2.2.2.1
  have d4 : decide (16777215 < life) = false := decide_eq_false c4
  have c5 : ¬ (era < 0) := hbad.2.2.2.2.2.2
  have d5 : decide (era < 0) = false := decide_eq_false c5
  have c6 : (16777215 < era) := hbad.1
  have d6 : decide (16777215 < era) = true := decide_eq_true c6
  clear h hbad
  go_enter Try.func16, Try.ntmps16
  go_wp2_with fail
  go_ret2
  exact ⟨rfl, Below.refl _ _⟩
set_option maxHeartbeats 4000000 in
set_option maxRecDepth 100000 in
theorem ropen8_bad_7 {B b c kc : Nat} {A KA : Option Addr} {R : List (RowS Nat)} {x : Rv} (f t : Nat) (life era : Int) (w : World) (h : RvA B w b A c R KA kc x) (hft : f ≤ t) (ht : t ≤ x.C.length) (hl1 : 1 ≤ life) (hl2 : life ≤ 16777215) (he1 : 0 ≤ era) (he2 : era ≤ 16777215) (hnew : life ≤ newestN x.C f (t - f)) :
    Calls Try.prog 16 #[.pointer (some ⟨b, 0, none⟩), .int .i64 f, .int .i64 t, .int .i64 life, .int .i64 era] w fun e w' => e = .returned (.tuple #[.pointer none, .int .i64 2]) ∧ Below w.heap.size w w' := by
  have HNW := Lib.hid (rnewest8_any f t w h hft ht)
  obtain ⟨nw, hnw⟩ : ∃ nw, newestN x.C f (t - f) = nw := ⟨_, rfl⟩
  rw [hnw] at HNW hnew
  obtain ⟨p0, p1, p2, p3, p4, ps⟩ := h.got
  have a1 : ¬ (f : Int) < 0 := by omega
  have a1' : decide ((f : Int) < 0) = false := decide_eq_false a1
  have a2 : ¬ (t : Int) < (f : Int) := by omega
  have a2' : decide ((t : Int) < (f : Int)) = false := decide_eq_false a2
  have a2n : decide (t < f) = false := decide_eq_false (by omega)
  have a3 : ¬ (x.C.length : Int) < (t : Int) := by omega
  have a3' : decide ((x.C.length : Int) < (t : Int)) = false := decide_eq_false a3
  have a3n : decide (x.C.length < t) = false := decide_eq_false (by omega)
  have a4' : decide (life < 1) = false := decide_eq_false (by omega)
  have a5' : decide (16777215 < life) = false := decide_eq_false (by omega)
  have a6' : decide (era < 0) = false := decide_eq_false (by omega)
  have a7' : decide (16777215 < era) = false := decide_eq_false (by omega)
  have a8' : decide (life ≤ nw) = true := decide_eq_true (by omega)
  clear h hnw
  go_enter Try.func16, Try.ntmps16
  go_wp2_with fail
  refine HNW.out.mono ?_
  rintro e w1 ⟨rfl, hb1⟩
  have HB1 := Lib.hid hb1
  clear hb1 p0 p1 p2 p3 p4 ps
  go_wp2_with fail
  go_ret2
  exact ⟨rfl, HB1.out⟩
end Go.Proofs.Ytiggcpfmmgmncaa
end
