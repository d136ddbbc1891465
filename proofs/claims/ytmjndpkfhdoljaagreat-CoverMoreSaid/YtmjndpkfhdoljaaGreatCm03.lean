import Derived.Test.YtmjndpkfhdoljaaGreatCm02
import Derived.Deep.RegionLaw
import Derived.Lib.SliceRun
import Derived.Test.YtmjndpkfhdoljaaGreatCm01
set_option maxHeartbeats 16000000
set_option maxRecDepth 100000
set_option linter.unusedVariables false
set_option linter.unusedSimpArgs false
namespace Go.Proofs.YtmjndpkfhdoljaaGreat
open Go.ChangeShapes Go.WideShapes Go.ChangeAt Go.RowKit
section
theorem idx_un (A : Option Addr) (cap : Nat) (l : List Un) (u : Un) (w : World) (hl : l.length ≤ 1000000) (hs : Sl w A (rc Un.cells l)) :
    Calls Tryz.prog 95 #[.slice A l.length cap, u.val] w fun e w' => e = .returned (.int .i64 (atL (isU u) l)) ∧ Below w.heap.size w w' := by
  have hB0 := since_alloc (Below.refl _ w) (.cells u.cells.toArray 41)
  have hU0 := Un.Bx.new w u
  have hs0 := hs.alloc (.cells u.cells.toArray 41)
  unfold Un.val
  go_enter Tryz.func95, Tryz.ntmps95
  go_upto_region 1 with fail
  unfold Un.cells at hB0 hU0 hs0
  generalize hWW : w.alloc (.cells #[.int .i64 u.ac, .int .i64 u.cl] 41) = W at *
  clear hWW hs
  have hBW := hB0
  have hWs := hBW.size
  have hsW := hs0
  have HUW : Hid (∀ V, Below W.heap.size W V → Un.Bx V w.heap.size u) := Lib.hid fun V hV => hU0.below hV
  clear hB0 hU0 hs0
  go_wp2_with fail
  go_loopw [8] (fun i wr => ∃ k : Nat, k ≤ l.length ∧ i = .int .i64 k ∧ (∀ j, (hj : j < l.length) → j < k → isU u l[j] = false) ∧ Below W.heap.size W wr) (fun i _ => l.length - (intOf i).toNat)
  case atStart => exact ⟨0, by omega, rfl, fun j hj h => absurd h (by omega), Below.refl _ _⟩
  case round =>
    obtain ⟨k, hk, rfl, hno, hB⟩ := hrel
    have HU : Hid (∀ V, Below wr.heap.size wr V → Un.Bx V w.heap.size u) := Lib.hid fun V hV => (HUW.out wr hB).below hV
    have HBW := hBW.trans (hB.mono hWs)
    by_cases hlt : k < l.length
    · obtain ⟨b, o, rfl, hbw, hg⟩ := (hsW.below hB).un hlt
      have HX : Hid (∀ V, Below wr.heap.size wr V → l[k].at V b (o + k * 2)) := Lib.hid fun V hV => Un.at_keep (w := wr) hg fun i => hV.cell (p := ⟨b, i, none⟩) hbw
      have hlk : (k : Int) < (l.length : Int) := by omega
      have hge : (0 : Int) ≤ (k : Int) := by omega
      have HQ : Hid (if isU u l[k] = true then (∀ j, (hj : j < k) → isU u l[j] = false) else ∀ j, (hj : j < l.length) → j < k + 1 → isU u l[j] = false) := Lib.hid (by
        split
        · exact fun j hj => hno j (by omega) hj
        · rename_i h
          intro j hj hjk
          rcases Nat.lt_or_ge j k with h' | h'
          · exact hno j hj h'
          · obtain rfl : j = k := by omega
            simpa using h)
      have HK : Hid (∀ y, l[k] = y → isU u y = true → isU u l[k] = true) := Lib.hid (fun y h1 h2 => by rw [h1]; exact h2)
      obtain ⟨y, hy⟩ : ∃ y, l[k] = y := ⟨_, rfl⟩
      rw [hy] at HX HQ
      have HY := Lib.hid hy
      clear hno hg hy hbw
      obtain ⟨xa, xc⟩ := y
      obtain ⟨ua, uc⟩ := u
      unfold Un.at at HX
      simp only at HX
      by_cases d0 : ua = xa
      · subst d0
        by_cases d1 : uc = xc
        · subst d1
          have HE := HQ.out
          rw [if_pos (by simp [isU])] at HE
          have HE := Lib.hid HE
          clear HQ
          go_wp2_with fail
          refine wp_region_held_drew (S := (fun V => Below wr.heap.size wr V)) (by kernel_rfl) (by exact (Below.refl _ _).drew) (fun hHeld => ?_)
          refine tkI 0 11 rfl (by intro w hSw; obtain ⟨u0, u1⟩ := (HU.out _ hSw).got; simp only at u0 u1; obtain ⟨n0, n1⟩ := HX.out _ hSw; go_simp <;> with_reducible rfl) hHeld ?_; simp only [pqZ]
          refine tkI 1 12 rfl (by intro w hSw; obtain ⟨u0, u1⟩ := (HU.out _ hSw).got; simp only at u0 u1; obtain ⟨n0, n1⟩ := HX.out _ hSw; go_simp <;> with_reducible rfl) hHeld ?_; simp only [pqZ]
          refine tkI 2 13 rfl (by intro w hSw; obtain ⟨u0, u1⟩ := (HU.out _ hSw).got; simp only at u0 u1; obtain ⟨n0, n1⟩ := HX.out _ hSw; go_simp <;> with_reducible rfl) hHeld ?_; simp only [pqZ]
          refine tkI 3 14 rfl (by intro w hSw; obtain ⟨u0, u1⟩ := (HU.out _ hSw).got; simp only at u0 u1; obtain ⟨n0, n1⟩ := HX.out _ hSw; go_simp <;> with_reducible rfl) hHeld ?_; simp only [pqZ]
          refine tkI 4 15 rfl (by intro w hSw; obtain ⟨u0, u1⟩ := (HU.out _ hSw).got; simp only at u0 u1; obtain ⟨n0, n1⟩ := HX.out _ hSw; go_simp <;> with_reducible rfl) hHeld ?_; simp only [pqZ]
          refine tkI 5 16 rfl (by intro w hSw; obtain ⟨u0, u1⟩ := (HU.out _ hSw).got; simp only at u0 u1; obtain ⟨n0, n1⟩ := HX.out _ hSw; go_simp <;> with_reducible rfl) hHeld ?_; simp only [pqZ]
          refine wpAnyH_done (by kernel_rfl) ?_ _
          have hB2 := HBW.trans (hHeld.mono (Nat.le_trans hWs hB.size))
          go_wp2_with fail
          go_ret
          exact ⟨retI (atL_some hlt (fun j hj => HE.out j hj) (by rw [HY.out]; simp [isU])).symm, hB2⟩
        · have HN : Hid (∀ j, (hj : j < l.length) → j < k + 1 → isU ⟨ua, uc⟩ l[j] = false) := Lib.hid (by have := HQ.out; rw [if_neg (by simp [isU, d1])] at this; exact this)
          have d1b : (uc == xc) = false := by simpa using d1
          have d1c : (xc == uc) = false := by simpa using fun h : xc = uc => d1 h.symm
          clear HQ
          go_wp2_with fail
          refine wp_region_held_drew (S := (fun V => Below wr.heap.size wr V)) (by kernel_rfl) (by exact (Below.refl _ _).drew) (fun hHeld => ?_)
          refine tkI 0 11 rfl (by intro w hSw; obtain ⟨u0, u1⟩ := (HU.out _ hSw).got; simp only at u0 u1; obtain ⟨n0, n1⟩ := HX.out _ hSw; go_simp <;> with_reducible rfl) hHeld ?_; simp only [pqZ]
          refine tkI 1 12 rfl (by intro w hSw; obtain ⟨u0, u1⟩ := (HU.out _ hSw).got; simp only at u0 u1; obtain ⟨n0, n1⟩ := HX.out _ hSw; go_simp <;> with_reducible rfl) hHeld ?_; simp only [pqZ]
          refine tkI 2 13 rfl (by intro w hSw; obtain ⟨u0, u1⟩ := (HU.out _ hSw).got; simp only at u0 u1; obtain ⟨n0, n1⟩ := HX.out _ hSw; go_simp <;> with_reducible rfl) hHeld ?_; simp only [pqZ]
          refine tkI 3 14 rfl (by intro w hSw; obtain ⟨u0, u1⟩ := (HU.out _ hSw).got; simp only at u0 u1; obtain ⟨n0, n1⟩ := HX.out _ hSw; go_simp <;> with_reducible rfl) hHeld ?_; simp only [pqZ]
          refine tkI 4 15 rfl (by intro w hSw; obtain ⟨u0, u1⟩ := (HU.out _ hSw).got; simp only at u0 u1; obtain ⟨n0, n1⟩ := HX.out _ hSw; go_simp <;> with_reducible rfl) hHeld ?_; simp only [pqZ]
          refine tkI 5 16 rfl (by intro w hSw; obtain ⟨u0, u1⟩ := (HU.out _ hSw).got; simp only at u0 u1; obtain ⟨n0, n1⟩ := HX.out _ hSw; go_simp <;> with_reducible rfl) hHeld ?_; simp only [pqZ]
          refine wpAnyH_done (by kernel_rfl) ?_ _
          have hB2 := hB.trans (hHeld.mono hB.size)
          go_wp2_with fail
          go_roundw
          case rel => exact ⟨k + 1, by omega, by go_num, HN.out, hB2⟩
          case measure => simp [intOf]; omega
      · have HN : Hid (∀ j, (hj : j < l.length) → j < k + 1 → isU ⟨ua, uc⟩ l[j] = false) := Lib.hid (by have := HQ.out; rw [if_neg (by simp [isU, d0])] at this; exact this)
        have d0b : (ua == xa) = false := by simpa using d0
        have d0c : (xa == ua) = false := by simpa using fun h : xa = ua => d0 h.symm
        clear HQ
        go_wp2_with fail
        refine wp_region_held_drew (S := (fun V => Below wr.heap.size wr V)) (by kernel_rfl) (by exact (Below.refl _ _).drew) (fun hHeld => ?_)
        refine tkI 0 11 rfl (by intro w hSw; obtain ⟨u0, u1⟩ := (HU.out _ hSw).got; simp only at u0 u1; obtain ⟨n0, n1⟩ := HX.out _ hSw; go_simp <;> with_reducible rfl) hHeld ?_; simp only [pqZ]
        refine tkI 1 12 rfl (by intro w hSw; obtain ⟨u0, u1⟩ := (HU.out _ hSw).got; simp only at u0 u1; obtain ⟨n0, n1⟩ := HX.out _ hSw; go_simp <;> with_reducible rfl) hHeld ?_; simp only [pqZ]
        refine tkI 2 13 rfl (by intro w hSw; obtain ⟨u0, u1⟩ := (HU.out _ hSw).got; simp only at u0 u1; obtain ⟨n0, n1⟩ := HX.out _ hSw; go_simp <;> with_reducible rfl) hHeld ?_; simp only [pqZ]
        refine tkI 3 14 rfl (by intro w hSw; obtain ⟨u0, u1⟩ := (HU.out _ hSw).got; simp only at u0 u1; obtain ⟨n0, n1⟩ := HX.out _ hSw; go_simp <;> with_reducible rfl) hHeld ?_; simp only [pqZ]
        refine tkI 4 15 rfl (by intro w hSw; obtain ⟨u0, u1⟩ := (HU.out _ hSw).got; simp only at u0 u1; obtain ⟨n0, n1⟩ := HX.out _ hSw; go_simp <;> with_reducible rfl) hHeld ?_; simp only [pqZ]
        refine tkI 5 16 rfl (by intro w hSw; obtain ⟨u0, u1⟩ := (HU.out _ hSw).got; simp only at u0 u1; obtain ⟨n0, n1⟩ := HX.out _ hSw; go_simp <;> with_reducible rfl) hHeld ?_; simp only [pqZ]
        refine wpAnyH_done (by kernel_rfl) ?_ _
        have hB2 := hB.trans (hHeld.mono hB.size)
        go_wp2_with fail
        go_roundw
        case rel => exact ⟨k + 1, by omega, by go_num, HN.out, hB2⟩
        case measure => simp [intOf]; omega
    · obtain rfl : k = l.length := by omega
      have HE := Lib.hid (atL_none (p := isU u) fun j hj => hno j hj hj)
      clear hno
      go_wp2_with fail
      go_ret
      exact ⟨retI HE.out.symm, HBW⟩
theorem has_un (A : Option Addr) (cap : Nat) (l : List Un) (u : Un) (w : World) (hl : l.length ≤ 1000000) (hs : Sl w A (rc Un.cells l)) :
    Calls Tryz.prog 56 #[.slice A l.length cap, u.val] w fun e w' => e = .returned (.bool (decide (u ∈ l))) ∧ Below w.heap.size w w' := by
  have HI := Lib.hid (atU_in u l)
  have hB0 := since_alloc (Below.refl _ w) (.cells u.cells.toArray 41)
  have HX := idx_un A cap l u _ hl (hs.alloc (.cells u.cells.toArray 41))
  unfold Un.val Un.cells at *
  have HX := Lib.hid HX
  go_enter Tryz.func56, Tryz.ntmps56
  go_wp2_with fail
  refine HX.out.mono ?_
  rintro e w1 ⟨rfl, hb1⟩
  have hB1 := since_step hB0 hb1
  go_wp2_with fail
  go_ret
  exact ⟨retB HI.out, hB1⟩
end
section
def nuL (id kind : Int) (L : List Nt) : List Un := if kind = 2 then [⟨id, 0⟩] else unL id kind L
def partsL (id kind : Int) (L : List Nt) (u : Un) : List Un := if u ∉ nuL id kind L then [] else if kind = 2 then unL id kind L else [u]
theorem nuL_len (id kind : Int) (L : List Nt) : (nuL id kind L).length ≤ L.length + 1 := by
  unfold nuL
  split
  · simp
  · exact unL_len id kind L
theorem partsL_len (id kind : Int) (L : List Nt) (u : Un) : (partsL id kind L u).length ≤ L.length + 1 := by
  unfold partsL
  split
  · simp
  · split
    · exact unL_len id kind L
    · simp
def UB (w : World) (g : Nat) : Prop := Bk w g #[.int .i64 0, .int .i64 0] ∧ w.frozen? ⟨g, 0, none⟩ = false ∧ w.frozen? ⟨g, 1, none⟩ = false
theorem UB.new (w : World) (t : TypeId) : UB (w.alloc (.cells #[.int .i64 0, .int .i64 0] t)) w.heap.size := ⟨Bk.new _ _ _, by simp, by simp⟩
theorem UB.below {w w' : World} {g : Nat} (h : UB w g) (hb : Below w.heap.size w w') : UB w' g := ⟨h.1.below hb, (hb.frozen (p := ⟨g, 0, none⟩) h.1.1).trans h.2.1, (hb.frozen (p := ⟨g, 1, none⟩) h.1.1).trans h.2.2⟩
theorem UB.got {w : World} {g : Nat} (h : UB w g) : g < w.heap.size ∧ w.cell? ⟨g, 0, none⟩ = some (.int .i64 0) ∧ w.cell? ⟨g, 1, none⟩ = some (.int .i64 0) ∧ w.frozen? ⟨g, 0, none⟩ = false ∧ w.frozen? ⟨g, 1, none⟩ = false := ⟨h.1.1, h.1.2 0, h.1.2 1, h.2.1, h.2.2⟩
theorem whole_any (id mem kind : Int) (A : Option Addr) (cap : Nat) (L : List Nt) (w : World) :
    Calls Tryz.prog 81 #[.agg #[.int .i64 id, .int .i64 mem, .int .i64 kind, .slice A L.length cap]] w fun e w' => e = .returned (.agg #[.int .i64 id, .int .i64 0]) ∧ Below w.heap.size w w' := by
  have hcs := @cell_set
  have hB0 := since_alloc (Below.refl _ w) (.cells #[.int .i64 id, .int .i64 mem, .int .i64 kind, .slice A L.length cap] 31)
  go_enter Tryz.func81, Tryz.ntmps81
  go_wp2
  refine bodyPost_ret (v := .agg #[.int .i64 id, .int .i64 0]) ?_ rfl ?_
  · simp [results, Tryz.results81, go_sem]
  · refine ⟨rfl, ?_⟩
    repeat' (first | with_reducible exact hB0 | with_reducible exact Below.refl _ _ | with_reducible refine Below.setCell ?_ ?_ _ | with_reducible refine since_alloc ?_ _)
    all_goals first | (simp; done) | (simp; omega)
theorem nunits_any (id mem kind : Int) (A : Option Addr) (cap : Nat) (L : List Nt) (w : World) (hl : L.length ≤ 900000) (hs : Sl w A (rc Nt.cells L)) :
    Calls Tryz.prog 40 #[.agg #[.int .i64 id, .int .i64 mem, .int .i64 kind, .slice A L.length cap]] w fun e w' => UnRes w.heap.size w' e (nuL id kind L) ∧ Below w.heap.size w w' := by
  have hB0 := since_alloc (Below.refl _ w) (.cells #[.int .i64 id, .int .i64 mem, .int .i64 kind, .slice A L.length cap] 31)
  have HK := Bk.new w #[.int .i64 id, .int .i64 mem, .int .i64 kind, .slice A L.length cap] 31
  have HU := Lib.hid (fun V (h : Below w.heap.size w V) => units_any id mem kind A cap L V hl (hs.below h))
  have HWH := Lib.hid (fun V => whole_any id mem kind A cap L V)
  clear hs
  by_cases hk : kind = 2
  · have hR : nuL id kind L = [⟨id, 0⟩] := if_pos hk
    rw [hR]
    have bk : (kind == 2) = true := by simpa using hk
    clear hR hk
    go_enter Tryz.func40, Tryz.ntmps40
    go_upto_region 1 with fail
    generalize hWW : w.alloc (.cells #[.int .i64 id, .int .i64 mem, .int .i64 kind, .slice A L.length cap] 31) = W at *
    clear hWW
    have p0 := HK.2 0
    have p1 := HK.2 1
    have p2 := HK.2 2
    have p3 := HK.2 3
    simp at p0 p1 p2 p3
    go_wp2_with fail
    refine (HWH.out _).mono ?_
    rintro e w1 ⟨rfl, hb⟩
    have hB1 := since_step hB0 hb
    clear p0 p1 p2 p3
    go_wp2_with fail
    go_ret
    exact ⟨⟨_, 1, rfl, own_lit (rc Un.cells [⟨id, 0⟩]) 41 hB1.size (by simp [rc, Un.cells]) (by show 1 ≤ maxLen; unfold maxLen; omega)⟩, since_alloc hB1 _⟩
  · have hR : nuL id kind L = unL id kind L := if_neg hk
    rw [hR]
    have bk : (kind == 2) = false := by simpa using hk
    clear hR hk
    go_enter Tryz.func40, Tryz.ntmps40
    go_upto_region 1 with fail
    generalize hWW : w.alloc (.cells #[.int .i64 id, .int .i64 mem, .int .i64 kind, .slice A L.length cap] 31) = W at *
    clear hWW
    have p0 := HK.2 0
    have p1 := HK.2 1
    have p2 := HK.2 2
    have p3 := HK.2 3
    simp at p0 p1 p2 p3
    go_wp2_with fail
    refine (HU.out _ hB0).mono ?_
    rintro e w1 ⟨⟨A', c', rfl, o1⟩, hb⟩
    have hB1 := since_step hB0 hb
    have o1 := own_base o1 hB0.size
    clear p0 p1 p2 p3
    go_wp2_with fail
    go_ret
    exact ⟨⟨A', c', rfl, o1⟩, hB1⟩
theorem nparts_any (id mem kind : Int) (A : Option Addr) (cap : Nat) (L : List Nt) (u : Un) (w : World) (hl : L.length ≤ 900000) (hs : Sl w A (rc Nt.cells L)) :
    Calls Tryz.prog 25 #[.agg #[.int .i64 id, .int .i64 mem, .int .i64 kind, .slice A L.length cap], u.val] w fun e w' => UnRes w.heap.size w' e (partsL id kind L u) ∧ Below w.heap.size w w' := by
  have hB0 := since_alloc (since_alloc (Below.refl _ w) (.cells #[.int .i64 id, .int .i64 mem, .int .i64 kind, .slice A L.length cap] 31)) (.cells #[.int .i64 u.ac, .int .i64 u.cl] 41)
  have K1 := (Bk.new w #[.int .i64 id, .int .i64 mem, .int .i64 kind, .slice A L.length cap] 31).alloc (.cells #[.int .i64 u.ac, .int .i64 u.cl] 41)
  have K2 := Bk.new (w.alloc (.cells #[.int .i64 id, .int .i64 mem, .int .i64 kind, .slice A L.length cap] 31)) #[.int .i64 u.ac, .int .i64 u.cl] 41
  rw [World.size_alloc] at K2
  have HNU := Lib.hid (fun V (h : Below w.heap.size w V) => nunits_any id mem kind A cap L V hl (hs.below h))
  have HU := Lib.hid (fun V (h : Below w.heap.size w V) => units_any id mem kind A cap L V hl (hs.below h))
  have HCO := fun A1 c1 V h => has_un A1 c1 (nuL id kind L) u V (by have := nuL_len id kind L; omega) h
  unfold Un.val Un.cells at *
  clear hs
  by_cases hm : u ∈ nuL id kind L
  · by_cases hk : kind = 2
    · have hR : partsL id kind L u = unL id kind L := by unfold partsL; rw [if_neg (by simpa using hm), if_pos hk]
      rw [hR]
      have hd : decide (u ∈ nuL id kind L) = true := decide_eq_true hm
      rw [hd] at HCO
      have HCO := Lib.hid HCO
      have bk : (kind == 2) = true := by simpa using hk
      clear hR hm hd hk
      generalize nuL id kind L = NU at *
      go_enter Tryz.func25, Tryz.ntmps25
      go_upto_region 1 with fail
      generalize hWW : (w.alloc (.cells #[.int .i64 id, .int .i64 mem, .int .i64 kind, .slice A L.length cap] 31)).alloc (.cells #[.int .i64 u.ac, .int .i64 u.cl] 41) = W at *
      clear hWW
      have HQ : Hid (∀ V, Below W.heap.size W V → (V.cell? ⟨w.heap.size, 0, none⟩ = some (.int .i64 id) ∧ V.cell? ⟨w.heap.size, 1, none⟩ = some (.int .i64 mem) ∧ V.cell? ⟨w.heap.size, 2, none⟩ = some (.int .i64 kind) ∧ V.cell? ⟨w.heap.size, 3, none⟩ = some (.slice A L.length cap)) ∧ (V.cell? ⟨w.heap.size + 1, 0, none⟩ = some (.int .i64 u.ac) ∧ V.cell? ⟨w.heap.size + 1, 1, none⟩ = some (.int .i64 u.cl))) := Lib.hid fun V h => ⟨⟨(K1.below h).2 0, (K1.below h).2 1, (K1.below h).2 2, (K1.below h).2 3⟩, ⟨(K2.below h).2 0, (K2.below h).2 1⟩⟩
      have HW0 : Hid (∀ V, Below W.heap.size W V → Below w.heap.size w V) := Lib.hid fun V h => hB0.trans (h.mono hB0.size)
      clear K1 K2
      go_wp2_with fail
      refine wp_region_held_drew (S := (fun V => Below W.heap.size W V)) (by kernel_rfl) (by exact (Below.refl _ _).drew) (fun hHeld => ?_)
      refine tkI 0 6 rfl (by intro w hSw; obtain ⟨⟨p0, p1, p2, p3⟩, ⟨u0, u1⟩⟩ := HQ.out _ (hSw); go_simp <;> with_reducible rfl) hHeld ?_; simp only [pqZ]
      refine tkI 2 8 rfl (by intro w hSw; obtain ⟨⟨p0, p1, p2, p3⟩, ⟨u0, u1⟩⟩ := HQ.out _ (hSw); go_simp <;> with_reducible rfl) hHeld ?_; simp only [pqZ]
      refine rdZ 1 7 rfl (by kernel_rfl) (fun K hK => ?_)
      go_simp
      refine (HNU.out _ (HW0.out _ hHeld)).mono ?_
      rintro e x1 ⟨⟨A1, c1, rfl, o1⟩, hk1⟩
      have hKeep := since_step hHeld hk1
      have s1 := Sl.of_own o1
      clear o1
      go_wp2_with fail
      refine hK.out _ _ (by (try dsimp only); exact hKeep) (fun hHeld => ?_); clear hK K hKeep; try simp only [pqZ]
      refine rdZ 3 9 rfl (by kernel_rfl) (fun K hK => ?_)
      go_simp
      refine (HCO.out _ _ _ s1).mono ?_
      rintro e x2 ⟨rfl, hk1⟩
      have hKeep := since_step hHeld hk1
      go_wp2_with fail
      refine hK.out _ _ (by (try dsimp only); exact hKeep) (fun hHeld => ?_); clear hK K hKeep; try simp only [pqZ]
      refine tkJ 4 10 rfl (by intro w; go_simp <;> with_reducible rfl) hHeld ?_; simp only [pqZ]
      refine tkJ 5 5 rfl (by intro w; go_simp <;> with_reducible rfl) hHeld ?_; simp only [pqZ]
      refine wpAnyH_done (by kernel_rfl) ?_ _
      have hBn := hB0.trans (hHeld.mono hB0.size)
      obtain ⟨⟨p0, p1, p2, p3⟩, ⟨u0, u1⟩⟩ := HQ.out _ hHeld
      go_wp2_with fail
      refine (HU.out _ hBn).mono ?_
      rintro e v1 ⟨⟨A', c', rfl, o2⟩, hb⟩
      have hB1 := since_step hBn hb
      have o2 := own_base o2 hBn.size
      clear p0 p1 p2 p3 u0 u1
      go_wp2_with fail
      go_ret
      exact ⟨⟨A', c', rfl, o2⟩, hB1⟩
    · have hR : partsL id kind L u = [u] := by unfold partsL; rw [if_neg (by simpa using hm), if_neg hk]
      rw [hR]
      have hd : decide (u ∈ nuL id kind L) = true := decide_eq_true hm
      rw [hd] at HCO
      have HCO := Lib.hid HCO
      have bk : (kind == 2) = false := by simpa using hk
      clear hR hm hd hk
      generalize nuL id kind L = NU at *
      go_enter Tryz.func25, Tryz.ntmps25
      go_upto_region 1 with fail
      generalize hWW : (w.alloc (.cells #[.int .i64 id, .int .i64 mem, .int .i64 kind, .slice A L.length cap] 31)).alloc (.cells #[.int .i64 u.ac, .int .i64 u.cl] 41) = W at *
      clear hWW
      have HQ : Hid (∀ V, Below W.heap.size W V → (V.cell? ⟨w.heap.size, 0, none⟩ = some (.int .i64 id) ∧ V.cell? ⟨w.heap.size, 1, none⟩ = some (.int .i64 mem) ∧ V.cell? ⟨w.heap.size, 2, none⟩ = some (.int .i64 kind) ∧ V.cell? ⟨w.heap.size, 3, none⟩ = some (.slice A L.length cap)) ∧ (V.cell? ⟨w.heap.size + 1, 0, none⟩ = some (.int .i64 u.ac) ∧ V.cell? ⟨w.heap.size + 1, 1, none⟩ = some (.int .i64 u.cl))) := Lib.hid fun V h => ⟨⟨(K1.below h).2 0, (K1.below h).2 1, (K1.below h).2 2, (K1.below h).2 3⟩, ⟨(K2.below h).2 0, (K2.below h).2 1⟩⟩
      have HW0 : Hid (∀ V, Below W.heap.size W V → Below w.heap.size w V) := Lib.hid fun V h => hB0.trans (h.mono hB0.size)
      clear K1 K2
      go_wp2_with fail
      refine wp_region_held_drew (S := (fun V => Below W.heap.size W V)) (by kernel_rfl) (by exact (Below.refl _ _).drew) (fun hHeld => ?_)
      refine tkI 0 6 rfl (by intro w hSw; obtain ⟨⟨p0, p1, p2, p3⟩, ⟨u0, u1⟩⟩ := HQ.out _ (hSw); go_simp <;> with_reducible rfl) hHeld ?_; simp only [pqZ]
      refine tkI 2 8 rfl (by intro w hSw; obtain ⟨⟨p0, p1, p2, p3⟩, ⟨u0, u1⟩⟩ := HQ.out _ (hSw); go_simp <;> with_reducible rfl) hHeld ?_; simp only [pqZ]
      refine rdZ 1 7 rfl (by kernel_rfl) (fun K hK => ?_)
      go_simp
      refine (HNU.out _ (HW0.out _ hHeld)).mono ?_
      rintro e x1 ⟨⟨A1, c1, rfl, o1⟩, hk1⟩
      have hKeep := since_step hHeld hk1
      have s1 := Sl.of_own o1
      clear o1
      go_wp2_with fail
      refine hK.out _ _ (by (try dsimp only); exact hKeep) (fun hHeld => ?_); clear hK K hKeep; try simp only [pqZ]
      refine rdZ 3 9 rfl (by kernel_rfl) (fun K hK => ?_)
      go_simp
      refine (HCO.out _ _ _ s1).mono ?_
      rintro e x2 ⟨rfl, hk1⟩
      have hKeep := since_step hHeld hk1
      go_wp2_with fail
      refine hK.out _ _ (by (try dsimp only); exact hKeep) (fun hHeld => ?_); clear hK K hKeep; try simp only [pqZ]
      refine tkJ 4 10 rfl (by intro w; go_simp <;> with_reducible rfl) hHeld ?_; simp only [pqZ]
      refine tkJ 5 5 rfl (by intro w; go_simp <;> with_reducible rfl) hHeld ?_; simp only [pqZ]
      refine wpAnyH_done (by kernel_rfl) ?_ _
      have hBn := hB0.trans (hHeld.mono hB0.size)
      obtain ⟨⟨p0, p1, p2, p3⟩, ⟨u0, u1⟩⟩ := HQ.out _ hHeld
      go_wp2_with fail
      go_ret
      exact ⟨⟨_, 1, rfl, own_lit (rc Un.cells [u]) 41 hBn.size (by simp [rc, Un.cells]) (by show 1 ≤ maxLen; unfold maxLen; omega)⟩, since_alloc hBn _⟩
  · have hR : partsL id kind L u = [] := if_pos hm
    rw [hR]
    have hd : decide (u ∈ nuL id kind L) = false := decide_eq_false hm
    rw [hd] at HCO
    have HCO := Lib.hid HCO
    clear hR hm hd
    generalize nuL id kind L = NU at *
    go_enter Tryz.func25, Tryz.ntmps25
    go_upto_region 1 with fail
    generalize hWW : (w.alloc (.cells #[.int .i64 id, .int .i64 mem, .int .i64 kind, .slice A L.length cap] 31)).alloc (.cells #[.int .i64 u.ac, .int .i64 u.cl] 41) = W at *
    clear hWW
    have HQ : Hid (∀ V, Below W.heap.size W V → (V.cell? ⟨w.heap.size, 0, none⟩ = some (.int .i64 id) ∧ V.cell? ⟨w.heap.size, 1, none⟩ = some (.int .i64 mem) ∧ V.cell? ⟨w.heap.size, 2, none⟩ = some (.int .i64 kind) ∧ V.cell? ⟨w.heap.size, 3, none⟩ = some (.slice A L.length cap)) ∧ (V.cell? ⟨w.heap.size + 1, 0, none⟩ = some (.int .i64 u.ac) ∧ V.cell? ⟨w.heap.size + 1, 1, none⟩ = some (.int .i64 u.cl))) := Lib.hid fun V h => ⟨⟨(K1.below h).2 0, (K1.below h).2 1, (K1.below h).2 2, (K1.below h).2 3⟩, ⟨(K2.below h).2 0, (K2.below h).2 1⟩⟩
    have HW0 : Hid (∀ V, Below W.heap.size W V → Below w.heap.size w V) := Lib.hid fun V h => hB0.trans (h.mono hB0.size)
    clear K1 K2
    go_wp2_with fail
    refine wp_region_held_drew (S := (fun V => Below W.heap.size W V)) (by kernel_rfl) (by exact (Below.refl _ _).drew) (fun hHeld => ?_)
    refine tkI 0 6 rfl (by intro w hSw; obtain ⟨⟨p0, p1, p2, p3⟩, ⟨u0, u1⟩⟩ := HQ.out _ (hSw); go_simp <;> with_reducible rfl) hHeld ?_; simp only [pqZ]
    refine tkI 2 8 rfl (by intro w hSw; obtain ⟨⟨p0, p1, p2, p3⟩, ⟨u0, u1⟩⟩ := HQ.out _ (hSw); go_simp <;> with_reducible rfl) hHeld ?_; simp only [pqZ]
    refine rdZ 1 7 rfl (by kernel_rfl) (fun K hK => ?_)
    go_simp
    refine (HNU.out _ (HW0.out _ hHeld)).mono ?_
    rintro e x1 ⟨⟨A1, c1, rfl, o1⟩, hk1⟩
    have hKeep := since_step hHeld hk1
    have s1 := Sl.of_own o1
    clear o1
    go_wp2_with fail
    refine hK.out _ _ (by (try dsimp only); exact hKeep) (fun hHeld => ?_); clear hK K hKeep; try simp only [pqZ]
    refine rdZ 3 9 rfl (by kernel_rfl) (fun K hK => ?_)
    go_simp
    refine (HCO.out _ _ _ s1).mono ?_
    rintro e x2 ⟨rfl, hk1⟩
    have hKeep := since_step hHeld hk1
    go_wp2_with fail
    refine hK.out _ _ (by (try dsimp only); exact hKeep) (fun hHeld => ?_); clear hK K hKeep; try simp only [pqZ]
    refine tkJ 4 10 rfl (by intro w; go_simp <;> with_reducible rfl) hHeld ?_; simp only [pqZ]
    refine tkJ 5 5 rfl (by intro w; go_simp <;> with_reducible rfl) hHeld ?_; simp only [pqZ]
    refine wpAnyH_done (by kernel_rfl) ?_ _
    have hBn := hB0.trans (hHeld.mono hB0.size)
    go_wp2_with fail
    go_ret
    exact ⟨⟨none, 0, rfl, own_nil _ _ _⟩, hBn⟩
end
section
structure Po where
  (ac : Int) (cl : Int) (lg : Option Addr) (lgL lgC : Nat)
deriving DecidableEq
def Po.cells (g : Po) : List Value := [.int .i64 g.ac, .int .i64 g.cl, .slice g.lg g.lgL g.lgC]
def Po.val (g : Po) : Value := .agg #[.int .i64 g.ac, .int .i64 g.cl, .slice g.lg g.lgL g.lgC]
def Po.zero : Po := ⟨0, 0, none, 0, 0⟩
theorem Po.len (g : Po) : g.cells.length = 3 := rfl
theorem Po.one (g : Po) : ∀ u ∈ g.cells, u.oneCell' = true := by
  intro u hu
  simp only [Po.cells, List.mem_cons, List.not_mem_nil, or_false] at hu
  rcases hu with h | h | h <;> subst h <;> rfl
def Po.at (g : Po) (w : World) (b o : Nat) : Prop :=
  w.cell? ⟨b, o, none⟩ = some (.int .i64 g.ac) ∧ w.cell? ⟨b, o + 1, none⟩ = some (.int .i64 g.cl) ∧ w.cell? ⟨b, o + 2, none⟩ = some (.slice g.lg g.lgL g.lgC)
theorem Po.at_of {w : World} {b o : Nat} {g : Po} (h : ∀ j u, g.cells[j]? = some u → w.cell? ⟨b, o + j, none⟩ = some u) : g.at w b o :=
  ⟨h 0 _ rfl, h 1 _ rfl, h 2 _ rfl⟩
theorem Po.at_keep {w w' : World} {b o : Nat} {g : Po} (h : g.at w b o) (k : ∀ i, w'.cell? ⟨b, i, none⟩ = w.cell? ⟨b, i, none⟩) : g.at w' b o := by
  unfold Po.at at *
  simp only [k]
  exact h
theorem Sl.po {w : World} {A : Option Addr} {l : List Po} (h : Sl w A (rc Po.cells l)) {k : Nat} (hk : k < l.length) : ∃ b o, A = some ⟨b, o, none⟩ ∧ b < w.heap.size ∧ l[k].at w b (o + k * 3) := by
  obtain ⟨b, o, hA, hb, hc⟩ := Sl.elem (m := 3) Po.len (by decide) h hk
  exact ⟨b, o, hA, hb, Po.at_of hc⟩
theorem EPo : Elem Tryz.prog 24 95 3 40 := Elem.mk' (z := .agg #[.int .i64 0, .int .i64 0, .slice none 0 0]) (by kernel_rfl) (by kernel_rfl) (by decide) (by decide)
def Po.Tells (F : Nat) (caps : Array Value) (p : Po → Bool) (B : Nat) (w : World) : Prop :=
  ∀ (g : Po) (W : World), Below B w W → Calls Tryz.prog F (#[g.val] ++ caps) W fun e w' => e = .returned (.bool (p g)) ∧ Below W.heap.size W w'
theorem Po.Tells.below {F : Nat} {caps : Array Value} {p : Po → Bool} {B : Nat} {w w1 : World} (h : Po.Tells F caps p B w) (hb : Below B w w1) {C : Nat} (hC : B ≤ C) : Po.Tells F caps p C w1 :=
  fun g W hW => h g W (hb.trans (hW.mono hC))
theorem index_po (A : Option Addr) (cap : Nat) (l : List Po) (F : Nat) (caps : Array Value) (p : Po → Bool) (w : World) (hl : l.length ≤ 1000000) (hs : Sl w A (rc Po.cells l)) (hF : Ent Tryz.prog F) (hp : Po.Tells F caps p w.heap.size w) :
    Calls Tryz.prog 125 #[.slice A l.length cap, .func (.func F) #[] caps] w fun e w' => e = .returned (.int .i64 (atL p l)) ∧ Below w.heap.size w w' := by
  go_enter Tryz.func125, Tryz.ntmps125
  go_wp2
  go_loopw [8] (fun i wr => ∃ k : Nat, k ≤ l.length ∧ i = .int .i64 k ∧ (∀ j, (hj : j < l.length) → j < k → p l[j] = false) ∧ Below w.heap.size w wr) (fun i _ => l.length - (intOf i).toNat)
  case atStart => exact ⟨0, by omega, rfl, fun j hj h => absurd h (by omega), Below.refl _ _⟩
  case round =>
    obtain ⟨k, hk, rfl, hno, hB⟩ := hrel
    by_cases hlt2 : k < l.length
    · obtain ⟨b, o, rfl, hbw, hg⟩ := hs.po hlt2
      have hg1 : l[k].at wr b (o + k * 3) := Po.at_keep (w := w) hg fun i => hB.cell (p := ⟨b, i, none⟩) hbw
      obtain ⟨g0, g1, g2⟩ := hg1
      have hbr : b < wr.heap.size := Nat.lt_of_lt_of_le hbw hB.size
      have step := hp l[k] wr hB
      cases hq : p l[k] with
      | true =>
        have HQ := Lib.hid hq
        go_wp2_with fail
        rw [hF, Oper.upon_enter]
        refine step.mono ?_
        rintro e w1 ⟨rfl, hb1⟩
        have hB1 := since_step hB hb1
        clear hb1
        rw [HQ.out]
        go_wp2
        go_ret
        exact ⟨retI (atL_some hlt2 (fun j hj => hno j (by omega) hj) HQ.out).symm, hB1⟩
      | false =>
        have HQ := Lib.hid hq
        go_wp2_with fail
        rw [hF, Oper.upon_enter]
        refine step.mono ?_
        rintro e w1 ⟨rfl, hb1⟩
        have hB1 := since_step hB hb1
        clear hb1
        rw [HQ.out]
        go_wp2
        go_roundw
        case rel =>
          refine ⟨k + 1, by omega, by go_num, fun j hj hjk => ?_, hB1⟩
          rcases Nat.lt_or_ge j k with h | h
          · exact hno j hj h
          · obtain rfl : j = k := by omega
            exact HQ.out
        case measure => simp [intOf]; omega
    · go_wp2
      go_ret
      exact ⟨retI (atL_none fun j hj => hno j hj (by omega)).symm, hB⟩
end
end Go.Proofs.YtmjndpkfhdoljaaGreat
