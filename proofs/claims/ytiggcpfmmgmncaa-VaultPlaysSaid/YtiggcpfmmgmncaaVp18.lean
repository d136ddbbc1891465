import Derived.Test.YtiggcpfmmgmncaaVp17
set_option maxHeartbeats 16000000
set_option maxRecDepth 100000
set_option linter.unusedVariables false
set_option linter.unusedSimpArgs false
namespace Go.Proofs.Ytiggcpfmmgmncaa
open Go.ChangeShapes Go.WideShapes Go.ChangeAt Go.RowKit
section
def fitP (n : Nat) (f t : Int) : Bool := decide (0 ≤ f) && (decide (f ≤ t) && decide (t ≤ (n : Int)))
theorem dsize_eq {B b g kc : Nat} {K : Option Addr} {d : Dv} (w : World) (h : DrA B w b g K kc d) :
    Calls Try.prog 49 #[.pointer (some ⟨b, 0, none⟩)] w fun e w' => e = .returned (.int .i64 d.S.length) ∧ w' = w := by
  obtain ⟨k0, k1, k2, k3, k4, k5⟩ := h.got
  have hlt := h.lt.1
  generalize d.S.length = n at *
  clear h
  go_enter Try.func49, Try.ntmps49
  go_wp2_with fail
  go_ret
  exact ⟨rfl, rfl⟩
theorem pfit_any {B b g kc : Nat} {K : Option Addr} {d : Dv} (f t : Int) (w : World) (h : DrA B w b g K kc d) :
    Calls Try.prog 50 #[.agg #[.pointer (some ⟨b, 0, none⟩), .int .i64 f, .int .i64 t]] w fun e w' => e = .returned (.bool (fitP d.S.length f t)) ∧ Below w.heap.size w w' := by
  have HS := Lib.hid (fun (q : Nat) => dsize_eq ((w.alloc (.cells #[.pointer (some ⟨b, 0, none⟩), .int .i64 f, .int .i64 t] 64)).drewN q) (h.below (below_drewN (since_alloc (Below.refl _ _) _) q)))
  have hB0 : Below w.heap.size w (w.alloc (.cells #[.pointer (some ⟨b, 0, none⟩), .int .i64 f, .int .i64 t] 64)) := since_alloc (Below.refl _ _) _
  have HB0 := Lib.hid hB0
  generalize d.S.length = n at *
  clear h hB0
  by_cases h1 : 0 ≤ f
  · have h1b : decide ((0 : Int) ≤ f) = true := decide_eq_true h1
    by_cases h2 : f ≤ t
    · have h2b : decide (f ≤ t) = true := decide_eq_true h2
      have HE : Hid (fitP n f t = decide (t ≤ (n : Int))) := Lib.hid (by unfold fitP; rw [h1b, h2b]; rfl)
      go_enter Try.func50, Try.ntmps50
      go_wp2_with fail
      go_quiet ((go_at_call 49; refine Calls.quiet_of_same (HS.out _)))
      go_wp2_with fail
      go_ret
      exact ⟨retB HE.out.symm, below_drewN HB0.out _⟩
    · have h2b : decide (f ≤ t) = false := decide_eq_false h2
      have HE : Hid (fitP n f t = false) := Lib.hid (by unfold fitP; rw [h1b, h2b]; rfl)
      go_enter Try.func50, Try.ntmps50
      go_wp2_with fail
      go_quiet (fail)
      go_wp2_with fail
      go_ret
      exact ⟨retB HE.out.symm, below_drewN HB0.out _⟩
  · have h1b : decide ((0 : Int) ≤ f) = false := decide_eq_false h1
    have HE : Hid (fitP n f t = false) := Lib.hid (by unfold fitP; rw [h1b]; rfl)
    go_enter Try.func50, Try.ntmps50
    go_wp2_with fail
    go_quiet (fail)
    go_wp2_with fail
    go_ret
    exact ⟨retB HE.out.symm, below_drewN HB0.out _⟩
def newestN (S : List (List Nat)) (f : Nat) : Nat → Int
  | 0 => 0
  | k + 1 => match frD S ((f + k : Nat) : Int) with
    | none => newestN S f k
    | some x => if newestN S f k < x.life then x.life else newestN S f k
theorem newestN_bd (S : List (List Nat)) (f : Nat) : ∀ k, 0 ≤ newestN S f k ∧ newestN S f k ≤ 16777215
  | 0 => ⟨Int.le_refl 0, by show (0 : Int) ≤ 16777215; decide⟩
  | k + 1 => by
    have ih := newestN_bd S f k
    unfold newestN
    split
    · exact ih
    · rename_i x hx
      have hok := (Fr.ok_iff x).1 (frD_some hx).2.2.2
      split
      · omega
      · exact ih
theorem pnewest_any {B b g kc : Nat} {K : Option Addr} {d : Dv} (f t : Nat) (w : World) (h : DrA B w b g K kc d) (hft : f ≤ t) (ht : t ≤ d.S.length) :
    Calls Try.prog 51 #[.agg #[.pointer (some ⟨b, 0, none⟩), .int .i64 f, .int .i64 t]] w fun e w' => e = .returned (.int .i64 (newestN d.S f (t - f))) ∧ Below w.heap.size w w' := by
  have HF := Lib.hid (fun (j : Nat) V (hV : Below w.heap.size w V) (hj : j < d.S.length) => rframe_at j V (h.below hV) hj)
  have hl := h.len.2
  have HT := Lib.hid ht
  have hB0 : Below w.heap.size w (w.alloc (.cells #[.pointer (some ⟨b, 0, none⟩), .int .i64 f, .int .i64 t] 64)) := since_alloc (Below.refl _ _) _
  have HB0 := Lib.hid hB0
  have HBX := Lib.hid (fun V (hV : Below (w.heap.size + 1) (w.alloc (.cells #[.pointer (some ⟨b, 0, none⟩), .int .i64 f, .int .i64 t] 64)) V) => (show V.cell? ⟨w.heap.size, 0, none⟩ = some (.pointer (some ⟨b, 0, none⟩)) ∧ V.cell? ⟨w.heap.size, 2, none⟩ = some (.int .i64 t) ∧ w.heap.size < V.heap.size ∧ Below w.heap.size w V from by
    have hs := hV.size
    rw [World.size_alloc] at hs
    refine ⟨(hV.cell (p := ⟨w.heap.size, 0, none⟩) (Nat.lt_succ_self _)).trans (World.cell?_alloc_new w _ _ 0), (hV.cell (p := ⟨w.heap.size, 2, none⟩) (Nat.lt_succ_self _)).trans (World.cell?_alloc_new w _ _ 2), by omega, HB0.out.trans (hV.mono (Nat.le_succ _))⟩))
  clear h hB0 ht
  go_enter Try.func51, Try.ntmps51
  go_wp2_with fail
  go_loopw [3, 4] (fun lv iv wr => ∃ j : Nat, j ≤ t - f ∧ lv = .int .i64 (newestN d.S f j) ∧ iv = .int .i64 ((f + j : Nat) : Int) ∧ Below (w.heap.size + 1) (w.alloc (.cells #[.pointer (some ⟨b, 0, none⟩), .int .i64 f, .int .i64 t] 64)) wr) (fun _ iv _ => t - (intOf iv).toNat)
  case atStart => exact ⟨0, Nat.zero_le _, rfl, rfl, Below.refl _ _⟩
  case round =>
    obtain ⟨j, hj, rfl, rfl, hB⟩ := hrel
    obtain ⟨y0, y2, hlt, hBW⟩ := HBX.out _ hB
    have HBD := Lib.hid (newestN_bd d.S f j)
    have HN := Lib.hid (show newestN d.S f (j + 1) = (match frD d.S ((f + j : Nat) : Int) with | none => newestN d.S f j | some x => if newestN d.S f j < x.life then x.life else newestN d.S f j) from rfl)
    obtain ⟨q, hq⟩ : ∃ q, f + j = q := ⟨_, rfl⟩
    rw [hq] at HN ⊢
    have HQ := Lib.hid hq
    have hqt : q ≤ t := by omega
    clear hq
    by_cases hlt2 : q < t
    · have hlk : (q : Int) < (t : Int) := by omega
      have hFJ := HF.out q wr hBW (by have := HT.out; omega)
      obtain ⟨M, hM⟩ : ∃ M, newestN d.S f j = M := ⟨_, rfl⟩
      rw [hM] at HN HBD ⊢
      have HM := Lib.hid hM
      clear hM
      have hwq : IntKind.i64.wrap ((q : Int) + 1) = ((q + 1 : Nat) : Int) := by rw [IntKind.wrap_i64]; have := HT.out; omega
      have HWW := Lib.hid hBW
      cases hfj : frD d.S (q : Int) with
      | none =>
        rw [hfj] at hFJ HN
        have HFJ := Lib.hid hFJ
        clear hFJ hfj
        go_wp2_with fail
        refine HFJ.out.mono ?_
        rintro e w3 ⟨⟨A3, c3, rfl, own3⟩, hb3⟩
        have hB3 := hB.trans (hb3.mono (show w.heap.size + 1 ≤ wr.heap.size by omega))
        have hB4 := hB3.alloc (show w.heap.size + 1 ≤ w3.heap.size by have := hb3.size; omega) (.cells #[.int .i64 0, .int .i64 0, .int .i64 0, .int .i64 0, .int .i64 0, .slice A3 0 c3] 130)
        unfold Fr.val
        simp only [Option.getD_none, Option.isSome_none, Fr0]
        clear own3 hb3 hB3
        go_wp2_with fail
        go_roundw
        case rel => exact ⟨j + 1, by have := HQ.out; omega, by rw [HN.out], by rw [show f + (j + 1) = q + 1 by have := HQ.out; omega]; go_num, hB4⟩
        case measure => simp [intOf]; omega
      | some x =>
        rw [hfj] at hFJ HN
        have HFJ := Lib.hid hFJ
        clear hFJ hfj
        obtain ⟨g0, g1, g2, g3, g4, gd⟩ := x
        go_wp2_with fail
        refine HFJ.out.mono ?_
        rintro e w3 ⟨⟨A3, c3, rfl, own3⟩, hb3⟩
        rw [getD_some'] at own3 ⊢
        have hB3 := hB.trans (hb3.mono (show w.heap.size + 1 ≤ wr.heap.size by omega))
        have hB4 := hB3.alloc (show w.heap.size + 1 ≤ w3.heap.size by have := hb3.size; omega) (.cells #[.int .i64 g0, .int .i64 g1, .int .i64 g2, .int .i64 g3, .int .i64 g4, .slice A3 gd.length c3] 130)
        unfold Fr.val
        simp only [Option.isSome_some]
        clear own3 hb3 hB3
        go_wp2_with fail
        go_roundw
        case rel => exact ⟨j + 1, by have := HQ.out; omega, by rw [HN.out], by rw [show f + (j + 1) = q + 1 by have := HQ.out; omega]; go_num, hB4⟩
        case measure => simp [intOf]; omega
    · obtain rfl : q = t := by omega
      have hlk : ¬ (q : Int) < (q : Int) := by omega
      go_wp2_with fail
      go_ret
      exact ⟨by rw [show q - f = j by have := HQ.out; omega]; rfl, hBW⟩
end
section
theorem pframes_none {B b g kc : Nat} {K : Option Addr} {d : Dv} (f : Int) (q t : Nat) (w : World) (h : DrA B w b g K kc d) (ht : t ≤ d.S.length) (hx : readF d.S q t = none) :
    Calls Try.prog 78 #[.agg #[.pointer (some ⟨b, 0, none⟩), .int .i64 f, .int .i64 t], .int .i64 q] w fun e w' => RRes w.heap.size w' e none ∧ Below w.heap.size w w' := by
  have hB0 : Below w.heap.size w ((w.alloc (.cells #[.pointer (some ⟨b, 0, none⟩), .int .i64 f, .int .i64 t] 64)).alloc (.cells #[.int .i64 0, .int .i64 0, .int .i64 0, .int .i64 0, .int .i64 0, .slice none 0 0] 130)) := since_alloc (since_alloc (Below.refl _ _) _) _
  have HR := Lib.hid (rread_any q t ((w.alloc (.cells #[.pointer (some ⟨b, 0, none⟩), .int .i64 f, .int .i64 t] 64)).alloc (.cells #[.int .i64 0, .int .i64 0, .int .i64 0, .int .i64 0, .int .i64 0, .slice none 0 0] 130)) (h.below hB0) ht)
  rw [hx] at HR
  have HB0 := Lib.hid hB0
  clear h hB0 hx
  go_enter Try.func78, Try.ntmps78
  go_wp2_with fail
  refine HR.out.mono ?_
  rintro e w1 ⟨rfl, hb⟩
  have hb2 : Below ((w.alloc (.cells #[.pointer (some ⟨b, 0, none⟩), .int .i64 f, .int .i64 t] 64)).heap.size + 1) ((w.alloc (.cells #[.pointer (some ⟨b, 0, none⟩), .int .i64 f, .int .i64 t] 64)).alloc (.cells #[.int .i64 0, .int .i64 0, .int .i64 0, .int .i64 0, .int .i64 0, .slice none 0 0] 130)) w1 := by rw [World.size_alloc] at hb; exact hb
  obtain ⟨⟨y0, y1, y2, y3, y4, y5⟩, ⟨z0, z1, z2, z3, z4, z5⟩, hlt⟩ := six_got hb2
  simp only [World.size_alloc] at y0 y1 y2 y3 y4 y5 z0 z1 z2 z3 z4 z5 hlt
  have HB1 := Lib.hid (since_step HB0.out hb)
  clear hb hb2
  go_wp2_with fail
  refine bodyPost_ret (v := .tuple #[.slice none 0 0, .agg #[.int .i64 0, .int .i64 0, .int .i64 0, .int .i64 0, .int .i64 0, .slice none 0 0], .bool false]) ?_ rfl ⟨rfl, ?_⟩
  · simp [results, Try.results78, go_sem, y0, y1, y2, y3, y4, y5, hlt]
  · exact below_six HB1.out (Nat.le_succ _)
theorem pframes_some {B b g kc : Nat} {K : Option Addr} {d : Dv} (f : Int) (q t : Nat) (w : World) (h : DrA B w b g K kc d) (ht : t ≤ d.S.length) (l : List Nat) (x : Fr) (hx : readF d.S q t = some (l, x)) :
    Calls Try.prog 78 #[.agg #[.pointer (some ⟨b, 0, none⟩), .int .i64 f, .int .i64 t], .int .i64 q] w fun e w' => RRes w.heap.size w' e (some (l, x)) ∧ Below w.heap.size w w' := by
  have hB0 : Below w.heap.size w ((w.alloc (.cells #[.pointer (some ⟨b, 0, none⟩), .int .i64 f, .int .i64 t] 64)).alloc (.cells #[.int .i64 0, .int .i64 0, .int .i64 0, .int .i64 0, .int .i64 0, .slice none 0 0] 130)) := since_alloc (since_alloc (Below.refl _ _) _) _
  have HR := Lib.hid (rread_any q t ((w.alloc (.cells #[.pointer (some ⟨b, 0, none⟩), .int .i64 f, .int .i64 t] 64)).alloc (.cells #[.int .i64 0, .int .i64 0, .int .i64 0, .int .i64 0, .int .i64 0, .slice none 0 0] 130)) (h.below hB0) ht)
  rw [hx] at HR
  have HB0 := Lib.hid hB0
  clear h hB0 hx
  obtain ⟨g0, g1, g2, g3, g4, gd⟩ := x
  obtain ⟨z, hz⟩ : ∃ z, gd.length = z := ⟨_, rfl⟩
  have HZ := Lib.hid hz
  clear hz
  go_enter Try.func78, Try.ntmps78
  go_wp2_with fail
  refine HR.out.mono ?_
  rintro e w1 ⟨⟨A1, c1, A2, c2, rfl, own1⟩, hb⟩
  have HOW := Lib.hid (own_base own1 (show w.heap.size ≤ _ from HB0.out.size))
  have HNE := Lib.hid (show (Value.slice A1 l.length c1).ownBlock ≠ some (w.heap.size + 1) from fun e => by have h1 := own_ge own1 _ e; simp only [World.size_alloc] at h1; omega)
  unfold Fr.val
  simp only [HZ.out]
  clear own1
  have hb2 : Below ((w.alloc (.cells #[.pointer (some ⟨b, 0, none⟩), .int .i64 f, .int .i64 t] 64)).heap.size + 1) ((w.alloc (.cells #[.pointer (some ⟨b, 0, none⟩), .int .i64 f, .int .i64 t] 64)).alloc (.cells #[.int .i64 0, .int .i64 0, .int .i64 0, .int .i64 0, .int .i64 0, .slice none 0 0] 130)) w1 := by rw [World.size_alloc] at hb; exact hb
  obtain ⟨⟨y0, y1, y2, y3, y4, y5⟩, ⟨z0, z1, z2, z3, z4, z5⟩, hlt⟩ := six_got hb2
  simp only [World.size_alloc] at y0 y1 y2 y3 y4 y5 z0 z1 z2 z3 z4 z5 hlt
  have HB1 := Lib.hid (since_step HB0.out hb)
  clear hb hb2
  go_wp2_with fail
  refine bodyPost_ret (v := .tuple #[.slice A1 l.length c1, .agg #[.int .i64 g0, .int .i64 g1, .int .i64 g2, .int .i64 g3, .int .i64 g4, .slice A2 z c2], .bool true]) ?_ rfl ⟨?_, ?_⟩
  · simp [results, Try.results78, go_sem, y0, y1, y2, y3, y4, y5, hlt]
  · exact RRes_some rfl HZ.out (own_six HOW.out HNE.out)
  · exact below_six HB1.out (Nat.le_succ _)
theorem pframes_any {B b g kc : Nat} {K : Option Addr} {d : Dv} (f : Int) (q t : Nat) (w : World) (h : DrA B w b g K kc d) (ht : t ≤ d.S.length) :
    Calls Try.prog 78 #[.agg #[.pointer (some ⟨b, 0, none⟩), .int .i64 f, .int .i64 t], .int .i64 q] w fun e w' => RRes w.heap.size w' e (readF d.S q t) ∧ Below w.heap.size w w' := by
  cases hx : readF d.S q t with
  | none => exact pframes_none f q t w h ht hx
  | some y => exact pframes_some f q t w h ht y.1 y.2 hx
structure ChgL (l : List Nat) (w w' : World) : Prop where
  os : w'.os = w.os
  tape : w'.tape = w.tape
  output : w'.output = w.output
  size : w.heap.size ≤ w'.heap.size
  block : ∀ k, k < w.heap.size → k ∉ l → w'.heap[k]? = w.heap[k]?
section
variable {l m : List Nat} {w w1 w2 : World}
theorem ChgL.refl (l : List Nat) (w : World) : ChgL l w w := ⟨rfl, rfl, rfl, Nat.le_refl _, fun _ _ _ => rfl⟩
theorem ChgL.of_below (h : Below w.heap.size w w1) : ChgL l w w1 := ⟨h.os, h.tape, h.output, h.size, fun k hk _ => h.block k hk⟩
theorem ChgL.of2 {b g : Nat} (h : Chg2 b g w w1) (hb : b ∈ l) (hg : g ∈ l) : ChgL l w w1 := ⟨h.os, h.tape, h.output, h.size, fun k hk hn => h.block k hk (fun e => hn (e ▸ hb)) (fun e => hn (e ▸ hg))⟩
theorem ChgL.of_grown {row : Option Nat} (h : w.grownBy w1 row) (hr : ∀ k, row = some k → k ∈ l) : ChgL l w w1 := ⟨h.os, h.tape, h.output, h.size, fun k hk hn => h.block k hk (fun e => hn (hr k e.symm))⟩
theorem ChgL.set {b : Nat} (i : Nat) (v : Value) (hb : b ∈ l) : ChgL l w (w.setCell ⟨b, i, none⟩ v) := ⟨rfl, rfl, rfl, by simp, fun k _ hn => Below.heap_setCell _ _ _ _ (fun e => hn (by rw [e]; exact hb))⟩
theorem ChgL.trans (h : ChgL l w w1) (k : ChgL m w1 w2) (hm : ∀ x ∈ m, x ∈ l ∨ w.heap.size ≤ x) : ChgL l w w2 :=
  ⟨k.os.trans h.os, k.tape.trans h.tape, k.output.trans h.output, Nat.le_trans h.size k.size, fun j hj hn => (k.block j (Nat.lt_of_lt_of_le hj h.size) (fun hx => by rcases hm j hx with h1 | h1; exact hn h1; omega)).trans (h.block j hj hn)⟩
theorem ChgL.step (h : ChgL l w w1) (k : Below w1.heap.size w1 w2) : ChgL l w w2 := h.trans (ChgL.of_below (l := []) k) (fun x hx => by cases hx)
theorem ChgL.below (h : ChgL l w w1) {B : Nat} (hB : B ≤ w.heap.size) (hl : ∀ x ∈ l, B ≤ x) : Below B w w1 := ⟨h.os, h.tape, h.output, h.size, fun k hk => h.block k (by omega) (fun hx => by have := hl k hx; omega)⟩
theorem ChgL.own (h : ChgL l w w1) {base e size n : Nat} {v : Value} {xs : List Value} (ho : w.ownsRow base e size v n xs) (hv : ∀ x ∈ l, v.ownBlock ≠ some x) : w1.ownsRow base e size v n xs := by
  obtain ⟨h1, h2⟩ := ho
  refine ⟨h1, ?_⟩
  rcases h2 with h2 | ⟨k, cap, cur, hv2, hk, hh, hr⟩
  · exact .inl h2
  · refine .inr ⟨k, cap, cur, hv2, hk, ?_, hr⟩
    subst hv2
    rw [h.block k (Array.getElem?_eq_some_iff.1 hh).1 (fun hx => hv k hx rfl)]
    exact hh
end
structure Sc where
  f : Nat
  t : Nat
  life : Int
  era : Int
  L : List (List Nat)
  used : Nat
  dead : Bool
def Sc.cells (x : Sc) (b : Nat) (A : Option Addr) (c : Nat) : Array Value := #[.pointer (some ⟨b, 0, none⟩), .int .i64 x.f, .int .i64 x.t, .int .i64 x.life, .int .i64 x.era, .slice A x.L.length c, .int .i64 x.used, .bool x.dead]
structure ScA (B : Nat) (w : World) (s b : Nat) (A : Option Addr) (c : Nat) (R : List (RowS Nat)) (x : Sc) : Prop where
  blk : w.heap[s]? = some (.cells (x.cells b A c) 66 (0, 0))
  own : w.ownsRow B 36 1 (.slice A x.L.length c) x.L.length (rc RowS.cells R)
  rows : OwnR B w R
  map : R.map RowS.l = x.L
  ge : B ≤ s
  small : x.f ≤ 2048 ∧ x.t ≤ 2048 ∧ x.used ≤ 1000000 ∧ x.L.length ≤ 1000000
section
variable {B s b c : Nat} {w w' : World} {A : Option Addr} {R : List (RowS Nat)} {x : Sc}
theorem ScA.lt (h : ScA B w s b A c R x) : s < w.heap.size := (Array.getElem?_eq_some_iff.1 h.blk).1
theorem ScA.below (h : ScA B w s b A c R x) (hb : Below w.heap.size w w') : ScA B w' s b A c R x := ⟨by rw [hb.block s h.lt]; exact h.blk, own_below h.own hb, h.rows.below hb, h.map, h.ge, h.small⟩
theorem ScA.got (h : ScA B w s b A c R x) : w.cell? ⟨s, 0, none⟩ = some (.pointer (some ⟨b, 0, none⟩)) ∧ w.cell? ⟨s, 1, none⟩ = some (.int .i64 x.f) ∧ w.cell? ⟨s, 2, none⟩ = some (.int .i64 x.t) ∧ w.cell? ⟨s, 3, none⟩ = some (.int .i64 x.life) ∧
    w.cell? ⟨s, 4, none⟩ = some (.int .i64 x.era) ∧ w.cell? ⟨s, 5, none⟩ = some (.slice A x.L.length c) ∧ w.cell? ⟨s, 6, none⟩ = some (.int .i64 x.used) ∧ w.cell? ⟨s, 7, none⟩ = some (.bool x.dead) := by
  refine ⟨?_, ?_, ?_, ?_, ?_, ?_, ?_, ?_⟩ <;> (rw [cell_of_row w s _ _ _ (0, 0) h.blk]; rfl)
theorem ScA.fz (h : ScA B w s b A c R x) (i : Nat) : w.frozen? ⟨s, i, none⟩ = false := by simp [World.frozen?, h.blk]
theorem ScA.off (h : ScA B w s b A c R x) {base e size n : Nat} {v : Value} {xs : List Value} (ho : w.ownsRow base e size v n xs) (h1 : e ≠ 66) : v.ownBlock ≠ some s := own_type ho h.blk h1
end
theorem snext_any {B s b c : Nat} {A : Option Addr} {R : List (RowS Nat)} {x : Sc} (w : World) (h : ScA B w s b A c R x) :
    Calls Try.prog 55 #[.pointer (some ⟨s, 0, none⟩)] w fun e w' => e = .returned (.int .i64 ((x.L.length + 1 : Nat) : Int)) ∧ w' = w := by
  obtain ⟨k0, k1, k2, k3, k4, k5, k6, k7⟩ := h.got
  have hlt := h.lt
  have hsm := h.small.2.2.2
  generalize x.L.length = n at *
  have hw : IntKind.i64.wrap ((n : Int) + 1) = ((n + 1 : Nat) : Int) := by rw [IntKind.wrap_i64]; omega
  clear h
  go_enter Try.func55, Try.ntmps55
  go_wp2_with fail
  go_ret
  exact ⟨by go_num, rfl⟩
theorem sused_any {B s b c : Nat} {A : Option Addr} {R : List (RowS Nat)} {x : Sc} (w : World) (h : ScA B w s b A c R x) :
    Calls Try.prog 28 #[.pointer (some ⟨s, 0, none⟩)] w fun e w' => e = .returned (.int .i64 x.used) ∧ Below w.heap.size w w' := by
  obtain ⟨k0, k1, k2, k3, k4, k5, k6, k7⟩ := h.got
  have hlt := h.lt
  generalize x.used = n at *
  clear h
  go_enter Try.func28, Try.ntmps28
  go_wp2_with fail
  go_ret
  exact ⟨rfl, Below.refl _ _⟩
end
section
def Sc.add (x : Sc) (l : List Nat) (p : Nat) : Sc := { x with L := x.L ++ [l], used := x.used + p }
def Sc.row (x : Sc) (A : Option Addr) (c : Nat) : Value := .slice A x.L.length c
theorem sadd_any {B s b c : Nat} {A : Option Addr} {R : List (RowS Nat)} {x : Sc} (rA : Option Addr) (rc_ : Nat) (l : List Nat) (p : Nat) (w : World) (h : ScA B w s b A c R x) (hB : B ≤ w.heap.size) (ho : w.ownsRow B 5 1 (.slice rA l.length rc_) l.length (by8 l)) (hp : x.used + p ≤ 1000000) (hL : x.L.length < 1000000) :
    Calls Try.prog 57 #[.pointer (some ⟨s, 0, none⟩), .slice rA l.length rc_, .int .i64 p] w fun e w' => e = .returned (.tuple #[]) ∧ ∃ A' c', ScA B w' s b A' c' (R ++ [⟨rA, rc_, l⟩]) (x.add l p) ∧ ChgL (s :: (x.row A c).ownBlock.toList) w w' ∧
      (((x.add l p).row A' c').ownBlock = (x.row A c).ownBlock ∨ ∃ k, w.heap.size ≤ k ∧ ((x.add l p).row A' c').ownBlock = some k) := by
  obtain ⟨k0, k1, k2, k3, k4, k5, k6, k7⟩ := h.got
  have hlt := h.lt
  have H := Lib.hid h
  have HO := Lib.hid ho
  have hrs := h.off h.own (by decide)
  have HRS := Lib.hid hrs
  have hw : IntKind.i64.wrap ((x.used : Int) + (p : Int)) = ((x.used + p : Nat) : Int) := by rw [IntKind.wrap_i64]; omega
  obtain ⟨n, hn⟩ : ∃ n, x.L.length = n := ⟨_, rfl⟩
  have HN := Lib.hid hn
  have hown := h.own
  rw [hn] at k5 hown hL
  have HOWN := Lib.hid hown
  have HL := Lib.hid hL
  have HB := Lib.hid hB
  obtain ⟨u, hu⟩ : ∃ u, x.used = u := ⟨_, rfl⟩
  have HU := Lib.hid hu
  rw [hu] at k6 hw
  have HP := Lib.hid hp
  clear h ho hrs hown hn hu hp hL hB k0 k1 k2 k3 k4 k7
  go_enter Try.func57, Try.ntmps57
  go_wp2_with (first
    | (at_builtin; refine wpList_app2 rfl (.tmp 10) (.tmp 12) rfl EDR rfl rfl (HOWN.out.alloc _) (m := 1) (news := [.slice rA l.length rc_]) rfl (by decide) (Sl.new_ _ _ _) (fun u hu => by simp only [List.mem_cons, List.not_mem_nil, or_false] at hu; subst hu; rfl) (by unfold maxLen; have := HL.out; omega) (by have := HL.out; omega) (by simp only [World.size_alloc]; have := HB.out; omega) ?_; intro A5 c5 w5 own5 hg5 hv5 hb5
       have hs5 : w5.heap[s]? = some (.cells (x.cells b A c) 66 (0, 0)) := by
         rw [hg5.block s (by simp only [World.size_alloc]; omega) (fun e => HRS.out (by rw [HN.out]; exact e.symm)), Below.heap_alloc _ _ _ hlt]
         exact H.out.blk
       have q5 : w5.cell? ⟨s, 5, none⟩ = some (.slice A n c) := by rw [cell_of_row w5 s 5 _ _ (0, 0) hs5, ← HN.out]; rfl
       have q6 : w5.cell? ⟨s, 6, none⟩ = some (.int .i64 u) := by rw [cell_of_row w5 s 6 _ _ (0, 0) hs5, ← HU.out]; rfl
       have z5 : w5.frozen? ⟨s, 5, none⟩ = false := by simp [World.frozen?, hs5]
       have z6 : w5.frozen? ⟨s, 6, none⟩ = false := by simp [World.frozen?, hs5]
       have hlt5 : s < w5.heap.size := (Array.getElem?_eq_some_iff.1 hs5).1
       have HS5 := Lib.hid hs5
       clear hs5)
    | fail)
  go_end0
  have h := H.out
  have e2 := set_blk (i := 6) (.int .i64 ((u : Int) + (p : Int))) (set_blk (i := 5) (.slice A5 (n + 1) c5) HS5.out)
  have hxn : (x.add l p).L.length = n + 1 := by simp [Sc.add, HN.out]
  have hoff5 : (Value.slice A5 (n + 1) c5).ownBlock ≠ some s := own_type own5 HS5.out (by decide)
  have key : ∀ (v : Value) (m : Nat) (xs : List Value), w.ownsRow B 5 1 v m xs → ((w5.setCell ⟨s, 5, none⟩ (.slice A5 (n + 1) c5)).setCell ⟨s, 6, none⟩ (.int .i64 ((u : Int) + (p : Int)))).ownsRow B 5 1 v m xs := fun v m xs ho => by
    have h1 := own_kept_types (by decide) (ho.alloc (.cells #[.slice rA l.length rc_] 36)) (HOWN.out.alloc _) hg5
    have h2 : v.ownBlock ≠ some s := own_type h1 HS5.out (by decide)
    exact own_far1 (own_far1 h1 (p := ⟨s, 5, none⟩) h2 _) (p := ⟨s, 6, none⟩) h2 _
  refine ⟨rfl, A5, c5, ⟨?_, ?_, ?_, ?_, h.ge, ?_⟩, ?_, ?_⟩
  · have e3 : ((x.add l p).cells b A5 c5) = (((x.cells b A c).setIfInBounds 5 (.slice A5 (n + 1) c5)).setIfInBounds 6 (.int .i64 ((u : Int) + (p : Int)))) := by
      simp [Sc.cells, Sc.add, HN.out, HU.out]
    rw [e3]; exact e2
  · rw [hxn, rc_append]
    exact own_far1 (own_far1 own5 (p := ⟨s, 5, none⟩) hoff5 _) (p := ⟨s, 6, none⟩) hoff5 _
  · intro r hr
    rcases List.mem_append.1 hr with h1 | h1
    · exact key _ _ _ (h.rows r h1)
    · rw [List.mem_singleton] at h1
      subst h1
      exact key _ _ _ HO.out
  · rw [List.map_append, h.map]; rfl
  · have := h.small
    have := HP.out
    have := HL.out
    refine ⟨h.small.1, h.small.2.1, HP.out, ?_⟩
    rw [hxn]; omega
  · have hrow : (x.row A c) = .slice A n c := by unfold Sc.row; rw [HN.out]
    rw [hrow]
    refine (((ChgL.of_below (since_alloc (Below.refl _ w) (.cells #[.slice rA l.length rc_] 36))).trans (ChgL.of_grown (l := s :: (Value.slice A n c).ownBlock.toList) hg5 (fun k hk => by simp [hk])) (fun y hy => .inl hy)).trans (ChgL.set (l := s :: (Value.slice A n c).ownBlock.toList) 5 _ (by simp)) (fun y hy => .inl hy)).trans (ChgL.set (l := s :: (Value.slice A n c).ownBlock.toList) 6 _ (by simp)) (fun y hy => .inl hy)
  · have hrow : (x.row A c) = .slice A n c := by unfold Sc.row; rw [HN.out]
    have hrow2 : ((x.add l p).row A5 c5) = .slice A5 (n + 1) c5 := by unfold Sc.row; rw [hxn]
    rw [hrow, hrow2]
    rcases hv5 with e | e
    · exact .inl e
    · exact .inr ⟨_, by rw [World.size_alloc]; omega, e⟩
end
section
def scanF (S : List (List Nat)) (t : Nat) (era : Int) : Nat → Nat → Nat → Int → List (List Nat) × Nat
  | 0, q, _, _ => ([], q)
  | k + 1, q, n, life => match readF S q t with
    | none => ([], q)
    | some (b, f) => if f.era = era ∧ f.seq = ((n + 1 : Nat) : Int) ∧ life ≤ f.life then (b :: (scanF S t era k (q + f.parts.toNat) (n + 1) f.life).1, (scanF S t era k (q + f.parts.toNat) (n + 1) f.life).2) else ([], q)
theorem readF_parts {S : List (List Nat)} {i t : Int} {b : List Nat} {f : Fr} (h : readF S i t = some (b, f)) : 1 ≤ f.parts ∧ f.parts ≤ 255 ∧ f.parts ≤ t - i ∧ i < t ∧ f.ok = true := by
  obtain ⟨h1, h2, h3, _⟩ := readF_iff.1 h
  have hok := (Fr.ok_iff f).1 (frD_some h2).2.2.2
  exact ⟨hok.2.2.2.2.2.2.1, hok.2.2.2.2.2.2.2.1, h3, h1, (frD_some h2).2.2.2⟩
theorem scanF_fuel (S : List (List Nat)) (t : Nat) (era : Int) : ∀ (k m q n : Nat) (life : Int), t - q ≤ k → t - q ≤ m → scanF S t era k q n life = scanF S t era m q n life
  | 0, 0, _, _, _, _, _ => rfl
  | 0, m + 1, q, n, life, h, _ => by
    rw [scanF, scanF, readF_ge (by omega)]
  | k + 1, 0, q, n, life, _, h => by
    rw [scanF, scanF, readF_ge (by omega)]
  | k + 1, m + 1, q, n, life, h1, h2 => by
    rw [scanF, scanF]
    cases hr : readF S q t with
    | none => rfl
    | some x =>
      obtain ⟨b, f⟩ := x
      have hp := readF_parts hr
      simp only
      rw [scanF_fuel S t era k m (q + f.parts.toNat) (n + 1) f.life (by omega) (by omega)]
def scan (S : List (List Nat)) (t : Nat) (era : Int) (q n : Nat) (life : Int) : List (List Nat) × Nat := scanF S t era (t - q) q n life
theorem scan_stop {S : List (List Nat)} {t : Nat} {era : Int} {q n : Nat} {life : Int} (h : ∀ b f, readF S q t = some (b, f) → ¬ (f.era = era ∧ f.seq = ((n + 1 : Nat) : Int) ∧ life ≤ f.life)) : scan S t era q n life = ([], q) := by
  unfold scan
  cases hk : t - q with
  | zero => rfl
  | succ k =>
    rw [scanF]
    cases hr : readF S q t with
    | none => rfl
    | some x =>
      obtain ⟨b, f⟩ := x
      simp only
      rw [if_neg (h b f hr)]
theorem scan_go {S : List (List Nat)} {t : Nat} {era : Int} {q n : Nat} {life : Int} {b : List Nat} {f : Fr} (hr : readF S q t = some (b, f)) (h : f.era = era ∧ f.seq = ((n + 1 : Nat) : Int) ∧ life ≤ f.life) :
    scan S t era q n life = (b :: (scan S t era (q + f.parts.toNat) (n + 1) f.life).1, (scan S t era (q + f.parts.toNat) (n + 1) f.life).2) := by
  have hp := readF_parts hr
  unfold scan
  obtain ⟨k, hk⟩ : ∃ k, t - q = k + 1 := ⟨t - q - 1, by omega⟩
  rw [hk, scanF, hr]
  simp only
  rw [if_pos h, scanF_fuel S t era k (t - (q + f.parts.toNat)) (q + f.parts.toNat) (n + 1) f.life (by omega) (Nat.le_refl _)]
theorem readF_len {S : List (List Nat)} {i t : Int} {b : List Nat} {f : Fr} (h : readF S i t = some (b, f)) : b.length ≤ 20400 := by
  obtain ⟨h1, h2, h3, l, h4, h5⟩ := readF_iff.1 h
  have hp := readF_parts h
  obtain ⟨ll, _⟩ := takeF_iff.1 h4
  have hd := takeF_data h4
  have hb : b = dataJ l ∨ b = [] := by
    cases l with
    | nil => right; exact (congrArg Prod.fst h5).symm
    | cons f0 l0 =>
      by_cases hc : (decide ((((f0 :: l0).length : Nat) : Int) = f0.parts) && allJ f0 (f0 :: l0).length 0 (f0 :: l0)) = true
      · left
        have e : joinF (f0 :: l0) = (dataJ (f0 :: l0), true) := if_pos hc
        rw [e] at h5
        exact (congrArg Prod.fst h5).symm
      · right
        have e : joinF (f0 :: l0) = ([], false) := if_neg hc
        rw [e] at h5
        exact (congrArg Prod.fst h5).symm
  rcases hb with rfl | rfl
  · have := dataJ_len hd
    omega
  · simp
theorem DrA.chgL {B b g kc : Nat} {w w' : World} {K : Option Addr} {d : Dv} {l : List Nat} (h : DrA B w b g K kc d) (hc : ChgL l w w') (hb : b ∉ l) (hg : g ∉ l) (hk : ∀ x ∈ l, (Value.slice K d.keep.length kc).ownBlock ≠ some x) : DrA B w' b g K kc d :=
  ⟨by rw [hc.block b h.lt.1 hb]; exact h.blk, by rw [hc.block g h.lt.2 hg]; exact h.row, hc.own h.kp hk, h.ge, h.s96, h.oct, h.len, h.sp, h.kl⟩
theorem DrA.scroll {B b g kc B2 s b2 c : Nat} {w w' : World} {K A : Option Addr} {d : Dv} {R : List (RowS Nat)} {x : Sc} (h : DrA B w b g K kc d) (hs : ScA B2 w s b2 A c R x) (hc : ChgL (s :: (x.row A c).ownBlock.toList) w w') : DrA B w' b g K kc d := by
  have hrow := h.off hs.own (by decide) (by decide)
  refine h.chgL hc ?_ ?_ ?_
  · intro hm
    rcases List.mem_cons.1 hm with e | e
    · have h1 := h.blk
      rw [e, hs.blk] at h1
      injection h1 with h1
      injection h1 with _ h2
      exact absurd h2 (by decide)
    · exact hrow.1 (Option.mem_def.1 (Option.mem_toList.1 e))
  · intro hm
    rcases List.mem_cons.1 hm with e | e
    · have h1 := h.row
      rw [e, hs.blk] at h1
      injection h1 with h1
      injection h1 with _ h2
      exact absurd h2 (by decide)
    · exact hrow.2 (Option.mem_def.1 (Option.mem_toList.1 e))
  · intro y hy
    rcases List.mem_cons.1 hy with e | e
    · subst e
      exact own_type h.kp hs.blk (by decide)
    · have e2 : (x.row A c).ownBlock = some y := Option.mem_def.1 (Option.mem_toList.1 e)
      intro e3
      rcases hs.own.2 with ⟨hv, _⟩ | ⟨k, cap, cur, hv, hk2, hh, _⟩
      · unfold Sc.row at e2; rw [hv] at e2; simp [Value.ownBlock] at e2
      · unfold Sc.row at e2
        rw [hv] at e2
        simp [Value.ownBlock] at e2
        subst e2
        exact own_type h.kp hh (by decide) e3
end
end Go.Proofs.Ytiggcpfmmgmncaa
