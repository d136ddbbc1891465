/-
  Layer 14, second part: place, Put, Find, Set; lives; MemberRooms, MemberParts (laid by gen_memb2.py).
-/
import Derived.Test.YtniapgcohihkhaaMemb
namespace Go.Proofs.Ytniapgcohihkhaa
open Go.ChangeShapes Go.WideShapes Go.ChangeAt Go.RowKit
set_option linter.unusedVariables false
set_option linter.unusedSimpArgs false

def ahM (x y : Mb) : Bool := decide (x.id < y.id)
def idM (id : Int) (x : Mb) : Bool := x.id == id
def findM (l : List Mb) (id : Int) : Mb := pickL (idM id) Mb.zero l
def hasM (l : List Mb) (id : Int) : Bool := (l.find? (idM id)).isSome
theorem mfind_cases (l : List Mb) (id : Int) : (hasM l id = false ∧ atL (idM id) l = -1 ∧ findM l id = Mb.zero ∧ l.find? (idM id) = none) ∨ ∃ k : Nat, ∃ hk : k < l.length, hasM l id = true ∧ atL (idM id) l = k ∧ findM l id = l[k] ∧ idM id l[k] = true ∧ ∀ j, (hj : j < k) → idM id (l[j]'(by omega)) = false := by
  rcases atL_cases (idM id) l with ⟨h0, hno⟩ | ⟨k, hk, h0, hpk, hno⟩
  · have hf := find_none hno
    exact .inl ⟨by rw [hasM, hf]; rfl, h0, by rw [findM, pickL, hf]; rfl, hf⟩
  · have hf := find_some hk hno hpk
    exact .inr ⟨k, hk, by rw [hasM, hf]; rfl, h0, by rw [findM, pickL, hf]; rfl, hpk, hno⟩
def putMR (l : List Mb) (v : Mb) : Int × List Mb := if ¬ okM v then (2, []) else if hasM l v.id = true then (12, []) else (0, putR ahM l v)
def setMR (l : List Mb) (v : Mb) : Int × List Mb := if ¬ okM v then (2, []) else if hasM l v.id = true then (0, l.set (atL (idM v.id) l).toNat v) else (11, [])

set_option maxHeartbeats 1000000 in
theorem mahead_any (x y : Mb) (w : World) :
    Calls Try.prog 41 #[x.val, y.val] w fun e w' => e = .returned (.bool (ahM x y)) ∧ Below w.heap.size w w' := by
  have hB := since_alloc (since_alloc (Below.refl _ w) (.cells x.cells.toArray 24)) (.cells y.cells.toArray 24)
  unfold Mb.val
  go_enter Try.func41, Try.ntmps41
  go_wp2_with fail
  go_ret
  exact ⟨rfl, hB⟩
theorem ent_mahead : Ent Try.prog 41 := Ent.of (by kernel_rfl)
theorem tells_mahead (B : Nat) (w : World) : Mb.Tells2 41 #[] ahM B w := fun a b W _ => mahead_any a b W
set_option maxHeartbeats 1000000 in
theorem mplace1_any (x : Mb) (id : Int) (b : Nat) (w : World) (h0 : w.cell? ⟨b, 0, none⟩ = some (.int .i64 id)) :
    Calls Try.prog 58 #[x.val, .pointer (some ⟨b, 0, none⟩)] w fun e w' => e = .returned (.bool (idM id x)) ∧ Below w.heap.size w w' := by
  have hB := since_alloc (Below.refl _ w) (.cells x.cells.toArray 24)
  have hlt := World.block_lt_of_cell? _ _ h0
  unfold Mb.val
  go_enter Try.func58, Try.ntmps58
  go_wp2_with fail
  go_ret
  exact ⟨rfl, hB⟩
theorem ent_mplace1 : Ent Try.prog 58 := Ent.of (by kernel_rfl)
theorem tells_mplace1 (id : Int) (b : Nat) (w : World) (h : w.cell? ⟨b, 0, none⟩ = some (.int .i64 id)) : Mb.Tells 58 #[.pointer (some ⟨b, 0, none⟩)] (idM id) w.heap.size w :=
  fun x W hW => mplace1_any x id b W ((hW.cell (p := ⟨b, 0, none⟩) (World.block_lt_of_cell? _ _ h)).trans h)
set_option maxHeartbeats 1000000 in
theorem mplace_any (A : Option Addr) (cap : Nat) (l : List Mb) (id : Int) (w : World) (hl : l.length ≤ 1000000) (hs : Sl w A (rc Mb.cells l)) :
    Calls Try.prog 39 #[.slice A l.length cap, .int .i64 id] w fun e w' => e = .returned (.int .i64 (atL (idM id) l)) ∧ Below w.heap.size w w' := by
  go_enter Try.func39, Try.ntmps39
  go_wp2_with fail
  refine (index_mb A cap l 58 #[.pointer (some ⟨w.heap.size, 0, none⟩)] (idM id) _ hl (hs.alloc _) ent_mplace1 (tells_mplace1 id w.heap.size _ (by simp))).mono ?_
  rintro e w1 ⟨rfl, hb1⟩
  have hB1 := since_step (since_alloc (Below.refl _ _) _) hb1
  clear hb1
  go_wp2_with fail
  go_ret
  exact ⟨rfl, hB1⟩

/-- a row, and an error's number -/
def MRes (B : Nat) (w' : World) (e : Ending) (R : Int × List Mb) : Prop :=
  ∃ A' c', e = .returned (.tuple #[.slice A' R.2.length c', .int .i64 R.1]) ∧ w'.ownsRow B 24 4 (.slice A' R.2.length c') R.2.length (rc Mb.cells R.2)
theorem MRes.nil (B : Nat) (w' : World) (n : Int) : MRes B w' (.returned (.tuple #[.slice none 0 0, .int .i64 n])) (n, []) := ⟨none, 0, rfl, own_nil _ _ _⟩

set_option maxHeartbeats 4000000 in
theorem mput_any (A : Option Addr) (cap : Nat) (l : List Mb) (v : Mb) (w : World) (hl : l.length ≤ 900000) (hs : Sl w A (rc Mb.cells l)) :
    Calls Try.prog 13 #[.slice A l.length cap, v.val] w fun e w' => MRes w.heap.size w' e (putMR l v) ∧ Below w.heap.size w w' := by
  have hB0 := since_alloc (Below.refl _ w) (.cells v.cells.toArray 24)
  have hV0 := Mb.Bx.new w v
  have hs0 := hs.alloc (.cells v.cells.toArray 24)
  have HCK := Lib.hid (fun W => check_any v W)
  have HPL := Lib.hid (fun W h => mplace_any A cap l v.id W (by omega) h)
  clear hs
  by_cases hok : okM v
  · have HI : Hid ((if okM v then (0 : Int) else 2) = 0) := Lib.hid (if_pos hok)
    rcases mfind_cases l v.id with ⟨hh, hat, _⟩ | ⟨k, hk, hh, hat, _⟩
    · have HR : Hid (putMR l v = (0, putR ahM l v)) := Lib.hid (by rw [putMR, if_neg (by simpa using hok), if_neg (by rw [hh]; decide)])
      have HAT := Lib.hid hat
      clear hok hh hat
      unfold Mb.val at HCK ⊢
      go_enter Try.func13, Try.ntmps13
      go_wp2_with fail
      refine (HCK.out _).mono ?_
      rintro e w1 ⟨rfl, hb1⟩
      have hB1 := since_step hB0 hb1
      have hs1 := hs0.below hb1
      have hV1 := hV0.below hb1
      obtain ⟨g0, g1, g2, g3⟩ := hV1.got
      clear hb1
      rw [HI.out]
      go_wp2_with fail
      refine (HPL.out _ hs1).mono ?_
      rintro e w2 ⟨rfl, hb2⟩
      have hB2 := since_step hB1 hb2
      have hs2 := hs1.below hb2
      have hV2 := hV1.below hb2
      clear g0 g1 g2 g3 hb2
      obtain ⟨g0, g1, g2, g3⟩ := hV2.got
      rw [HAT.out]
      go_wp2_with fail
      refine (put_mb A cap l v 41 #[] ahM _ (by omega) hs2 ent_mahead (tells_mahead _ _)).mono ?_
      rw [putL_eq]
      rintro e w3 ⟨⟨A3, c3, rfl, hown⟩, hb3⟩
      have hB3 := since_step hB2 hb3
      have hown2 := own_base hown hB2.size
      go_wp2_with fail
      go_ret2
      rw [HR.out]
      exact ⟨⟨A3, c3, rfl, hown2⟩, hB3⟩
    · have HR : Hid (putMR l v = (12, [])) := Lib.hid (by rw [putMR, if_neg (by simpa using hok), if_pos hh])
      have HAT := Lib.hid hat
      have hk0 : ¬ ((k : Int) < 0) := by omega
      have hk1 : (0 : Int) ≤ (k : Int) := by omega
      clear hok hh hat
      unfold Mb.val at HCK ⊢
      go_enter Try.func13, Try.ntmps13
      go_wp2_with fail
      refine (HCK.out _).mono ?_
      rintro e w1 ⟨rfl, hb1⟩
      have hB1 := since_step hB0 hb1
      have hs1 := hs0.below hb1
      have hV1 := hV0.below hb1
      obtain ⟨g0, g1, g2, g3⟩ := hV1.got
      clear hb1
      rw [HI.out]
      go_wp2_with fail
      refine (HPL.out _ hs1).mono ?_
      rintro e w2 ⟨rfl, hb2⟩
      have hB2 := since_step hB1 hb2
      have hs2 := hs1.below hb2
      have hV2 := hV1.below hb2
      clear g0 g1 g2 g3 hb2
      obtain ⟨g0, g1, g2, g3⟩ := hV2.got
      rw [HAT.out]
      go_wp2_with fail
      go_ret2
      rw [HR.out]
      exact ⟨MRes.nil _ _ _, hB2⟩
  · have HI : Hid ((if okM v then (0 : Int) else 2) = 2) := Lib.hid (if_neg hok)
    have HR : Hid (putMR l v = (2, [])) := Lib.hid (by rw [putMR, if_pos hok])
    clear hok
    unfold Mb.val at HCK ⊢
    go_enter Try.func13, Try.ntmps13
    go_wp2_with fail
    refine (HCK.out _).mono ?_
    rintro e w1 ⟨rfl, hb1⟩
    have hB1 := since_step hB0 hb1
    rw [HI.out]
    go_wp2_with fail
    go_ret2
    rw [HR.out]
    exact ⟨MRes.nil _ _ _, hB1⟩

set_option maxHeartbeats 4000000 in
theorem mset_any (A : Option Addr) (cap : Nat) (l : List Mb) (v : Mb) (w : World) (hl : l.length ≤ 900000) (hs : Sl w A (rc Mb.cells l)) :
    Calls Try.prog 15 #[.slice A l.length cap, v.val] w fun e w' => MRes w.heap.size w' e (setMR l v) ∧ Below w.heap.size w w' := by
  have hB0 := since_alloc (Below.refl _ w) (.cells v.cells.toArray 24)
  have hV0 := Mb.Bx.new w v
  have hs0 := hs.alloc (.cells v.cells.toArray 24)
  have HCK := Lib.hid (fun W => check_any v W)
  have HPL := Lib.hid (fun W h => mplace_any A cap l v.id W (by omega) h)
  clear hs
  by_cases hok : okM v
  · have HI : Hid ((if okM v then (0 : Int) else 2) = 0) := Lib.hid (if_pos hok)
    rcases mfind_cases l v.id with ⟨hh, hat, _⟩ | ⟨k, hk, hh, hat, _⟩
    · have HR : Hid (setMR l v = (11, [])) := Lib.hid (by rw [setMR, if_neg (by simpa using hok), if_neg (by rw [hh]; decide)])
      have HAT := Lib.hid hat
      clear hok hh hat
      unfold Mb.val at HCK ⊢
      go_enter Try.func15, Try.ntmps15
      go_wp2_with fail
      refine (HCK.out _).mono ?_
      rintro e w1 ⟨rfl, hb1⟩
      have hB1 := since_step hB0 hb1
      have hs1 := hs0.below hb1
      have hV1 := hV0.below hb1
      obtain ⟨g0, g1, g2, g3⟩ := hV1.got
      clear hb1
      rw [HI.out]
      go_wp2_with fail
      refine (HPL.out _ hs1).mono ?_
      rintro e w2 ⟨rfl, hb2⟩
      have hB2 := since_step hB1 hb2
      have hs2 := hs1.below hb2
      have hV2 := hV1.below hb2
      clear g0 g1 g2 g3 hb2
      obtain ⟨g0, g1, g2, g3⟩ := hV2.got
      rw [HAT.out]
      go_wp2_with fail
      go_ret2
      rw [HR.out]
      exact ⟨MRes.nil _ _ _, hB2⟩
    · have HR : Hid (setMR l v = (0, l.set k v)) := Lib.hid (by rw [setMR, if_neg (by simpa using hok), if_pos hh, hat]; rfl)
      have HAT := Lib.hid hat
      have hk0 : ¬ ((k : Int) < 0) := by omega
      have hk1 : (0 : Int) ≤ (k : Int) := by omega
      clear hok hh hat
      unfold Mb.val at HCK ⊢
      go_enter Try.func15, Try.ntmps15
      go_wp2_with fail
      refine (HCK.out _).mono ?_
      rintro e w1 ⟨rfl, hb1⟩
      have hB1 := since_step hB0 hb1
      have hs1 := hs0.below hb1
      have hV1 := hV0.below hb1
      obtain ⟨g0, g1, g2, g3⟩ := hV1.got
      clear hb1
      rw [HI.out]
      go_wp2_with fail
      refine (HPL.out _ hs1).mono ?_
      rintro e w2 ⟨rfl, hb2⟩
      have hB2 := since_step hB1 hb2
      have hs2 := hs1.below hb2
      have hV2 := hV1.below hb2
      clear g0 g1 g2 g3 hb2
      obtain ⟨g0, g1, g2, g3⟩ := hV2.got
      rw [HAT.out]
      go_wp2_with fail
      refine (set_mb A cap l k v _ (by omega) hk hs2).mono ?_
      rintro e w3 ⟨⟨A3, c3, rfl, hown⟩, hb3⟩
      have hB3 := since_step hB2 hb3
      have hown2 := own_base hown hB2.size
      go_wp2_with fail
      go_ret2
      rw [HR.out]
      refine ⟨⟨A3, c3, ?_, ?_⟩, hB3⟩
      · simp only [List.length_set]; rfl
      · simp only [List.length_set]; exact hown2
  · have HI : Hid ((if okM v then (0 : Int) else 2) = 2) := Lib.hid (if_neg hok)
    have HR : Hid (setMR l v = (2, [])) := Lib.hid (by rw [setMR, if_pos hok])
    clear hok
    unfold Mb.val at HCK ⊢
    go_enter Try.func15, Try.ntmps15
    go_wp2_with fail
    refine (HCK.out _).mono ?_
    rintro e w1 ⟨rfl, hb1⟩
    have hB1 := since_step hB0 hb1
    rw [HI.out]
    go_wp2_with fail
    go_ret2
    rw [HR.out]
    exact ⟨MRes.nil _ _ _, hB1⟩

set_option maxHeartbeats 4000000 in
set_option maxRecDepth 100000 in
theorem lives14_any (w : World) :
    Calls Try.prog 20 #[] w fun e w' => e = .returned (.bool true) ∧ Below w.heap.size w w' := by
  have hB0 := since_alloc (Below.refl _ w) (.cells #[.int .i64 1, .int .i64 10, .int .i64 0, .int .i64 0] 24)
  have hV0 : Mb.Bx (w.alloc (.cells #[.int .i64 1, .int .i64 10, .int .i64 0, .int .i64 0] 24)) w.heap.size ⟨1, 10, 0, 0⟩ := Mb.Bx.new w ⟨1, 10, 0, 0⟩
  have H1 : Hid (putMR [] ⟨1, 10, 0, 0⟩ = (0, [⟨1, 10, 0, 0⟩])) := Lib.hid (by decide)
  have H2 : Hid (roomE 10 7 3 = 0) := Lib.hid (by decide)
  have H3 : Hid (roomE 10 7 4 = 16) := Lib.hid (by decide)
  have HRM := Lib.hid (fun m (hm : In64 m) W => room_any ⟨1, 10, 0, 0⟩ 7 m W (by unfold In64; decide) (by unfold In64; decide) hm)
  have HMY := Lib.hid (fun W => may_any ⟨1, 10, 0, 0⟩ W)
  unfold Mb.val at HRM HMY
  have HPT := Lib.hid (fun W => mput_any none 0 [] ⟨1, 10, 0, 0⟩ W (by decide) Sl.nil)
  rw [H1.out] at HPT
  unfold Mb.val at HPT
  go_enter Try.func20, Try.ntmps20
  go_wp2_with fail
  refine (HPT.out _).mono ?_
  rintro e w1 ⟨⟨A1, c1, rfl, hown1⟩, hb1⟩
  have hB1 := since_step hB0 hb1
  have hV1 := hV0.below hb1
  obtain ⟨g0, g1, g2, g3⟩ := hV1.got
  clear hown1 hb1
  go_wp2_with fail
  refine (HRM.out 3 (by unfold In64; decide) _).mono ?_
  rw [H2.out]
  rintro e w2 ⟨rfl, hb2⟩
  have hB2 := since_step hB1 hb2
  have hV2 := hV1.below hb2
  clear g0 g1 g2 g3 hb2
  obtain ⟨g0, g1, g2, g3⟩ := hV2.got
  go_wp2_with fail
  refine (HRM.out 4 (by unfold In64; decide) _).mono ?_
  rw [H3.out]
  rintro e w3 ⟨rfl, hb3⟩
  have hB3 := since_step hB2 hb3
  have hV3 := hV2.below hb3
  clear g0 g1 g2 g3 hb3
  obtain ⟨g0, g1, g2, g3⟩ := hV3.got
  go_wp2_with fail
  refine (HMY.out _).mono ?_
  rintro e w4 ⟨rfl, hb4⟩
  have hB4 := since_step hB3 hb4
  go_wp2_with fail
  go_ret
  exact ⟨rfl, hB4⟩
end Go.Proofs.Ytniapgcohihkhaa
