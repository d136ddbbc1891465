import Derived.Test.YtahdmomadbbhoaaGreatDk14
import Derived.Deep.DeepCutAuto
import Derived.Deep.RegionHeld3
import Derived.Test.YtahdmomadbbhoaaGreatDk03
section
namespace Go.Proofs.YtahdmomadbbhoaaGreat
open Go.ChangeShapes Go.WideShapes Go.ChangeAt Go.RowKit
set_option linter.unusedVariables false
set_option linter.unusedSimpArgs false

def Lg.Df (p : Lg → Bool) (l : List Lg) (n c g B : Nat) (w : World) (i j : Value) (wr : World) : Prop :=
  ∃ (kk jj : Nat) (l' : List Lg), i = .int .i64 kk ∧ j = .int .i64 jj ∧ jj ≤ n ∧ kk < jj ∧ l'.length = n ∧ l'.take kk = (l.take jj).filter (fun g => !p g) ∧ (∀ t, jj ≤ t → l'[t]? = l[t]?) ∧
    wr.ownsRow B 75 2 (.slice (some ⟨g, 0, none⟩) n c) n (rc Lg.cells l') ∧ Below B w wr
set_option maxHeartbeats 1000000 in
set_option maxRecDepth 100000 in
theorem find_lg (A : Option Addr) (cap : Nat) (l : List Lg) (F : Nat) (caps : Array Value) (p : Lg → Bool) (w : World) (hl : l.length ≤ 1000000) (hs : Sl w A (rc Lg.cells l)) (hF : Ent Tryz.prog F) (hp : Lg.Tells F caps p w.heap.size w) :
    Calls Tryz.prog 105 #[.slice A l.length cap, .func (.func F) #[] caps] w fun e w' =>
      e = .returned (.tuple #[(pickL p Lg.zero l).val, .bool (l.find? p).isSome]) ∧ Below w.heap.size w w' := by
  have hB0 := since_alloc (Below.refl w.heap.size w) (.cells #[.int .i64 0, .int .i64 0] 75)
  have hidx := index_lg A cap l F caps p (w.alloc (.cells #[.int .i64 0, .int .i64 0] 75)) hl (hs.alloc _) hF (hp.below hB0 (by simp))
  have Bz := Bk.new w #[.int .i64 0, .int .i64 0] 75
  rcases atL_cases p l with ⟨h0, hno⟩ | ⟨k, hk, h0, hpk, hno⟩
  · rw [h0] at hidx
    have HF1 := Lib.hid (find_none hno)
    clear hno h0
    go_enter Tryz.func105, Tryz.ntmps105
    go_wp2_with fail
    refine hidx.mono ?_
    rintro e w1 ⟨rfl, hb1⟩
    have hB1 := since_step hB0 hb1
    have Bz := Bz.below hb1
    obtain ⟨lb, cb⟩ := id Bz
    have q0 := cb 0
    have q1 := cb 1
    simp at q0 q1
    clear cb
    have hfz : ∀ i, w1.frozen? ⟨w.heap.size, i, none⟩ = false := fun i => by rw [(hb1.frozen (p := ⟨w.heap.size, i, none⟩) (by simp))]; simp
    have hcs := @cell_set
    clear hb1 Bz hidx
    go_wp2_with fail
    refine bodyPost_ret (v := .tuple #[Lg.zero.val, .bool false]) ?_ rfl ⟨?_, ?_⟩
    · have hca : ∀ (V : World) (o : Obj) (i : Nat), w.heap.size < V.heap.size → (V.alloc o).cell? ⟨w.heap.size, i, none⟩ = V.cell? ⟨w.heap.size, i, none⟩ := fun V o i h => World.cell?_alloc_lt V o ⟨w.heap.size, i, none⟩ h
      simp [results, Tryz.results105, go_sem, q0, q1, hfz, Lg.zero, Lg.val, hca, lb]
    · rw [pickL, HF1.out]; rfl
    · repeat' (first | with_reducible exact hB1 | with_reducible refine Below.setCell ?_ ?_ _ | with_reducible refine Below.alloc ?_ ?_ _)
      all_goals first | (simp; done) | (simp; omega)
  · rw [h0] at hidx
    have HF1 := Lib.hid (find_some hk hno hpk)
    clear hno h0 hpk
    go_enter Tryz.func105, Tryz.ntmps105
    go_wp2_with fail
    refine hidx.mono ?_
    rintro e w1 ⟨rfl, hb1⟩
    have hB1 := since_step hB0 hb1
    have Bz := Bz.below hb1
    obtain ⟨lb, cb⟩ := id Bz
    have q0 := cb 0
    have q1 := cb 1
    simp at q0 q1
    clear cb
    have hfz : ∀ i, w1.frozen? ⟨w.heap.size, i, none⟩ = false := fun i => by rw [(hb1.frozen (p := ⟨w.heap.size, i, none⟩) (by simp))]; simp
    have hcs := @cell_set
    obtain ⟨b, o, rfl, hbw, hgat⟩ := ((hs.alloc (.cells #[.int .i64 0, .int .i64 0] 75)).below hb1).lg hk
    clear hb1 Bz hidx hs
    generalize l[k] = g at *
    obtain ⟨g0, g1⟩ := hgat
    go_wp2_with fail
    refine bodyPost_ret (v := .tuple #[g.val, .bool true]) ?_ rfl ⟨?_, ?_⟩
    · simp [results, Tryz.results105, go_sem, q0, q1, hfz, Lg.val]
    · rw [pickL, HF1.out]; rfl
    · repeat' (first | with_reducible exact hB1 | with_reducible refine Below.setCell ?_ ?_ _ | with_reducible refine Below.alloc ?_ ?_ _)
      all_goals first | (simp; done) | (simp; omega)
end Go.Proofs.YtahdmomadbbhoaaGreat
end
section
namespace Go.Proofs.YtahdmomadbbhoaaGreat
open Go.ChangeShapes Go.WideShapes Go.ChangeAt Go.RowKit
set_option linter.unusedVariables false
set_option linter.unusedSimpArgs false

def Lg.Tells2 (F : Nat) (caps : Array Value) (ah : Lg → Lg → Bool) (B : Nat) (w : World) : Prop :=
  ∀ (a b : Lg) (W : World), Below B w W → Calls Tryz.prog F (#[a.val, b.val] ++ caps) W fun e w' => e = .returned (.bool (ah a b)) ∧ Below W.heap.size W w'
theorem Lg.Tells2.below {F : Nat} {caps : Array Value} {ah : Lg → Lg → Bool} {B : Nat} {w w1 : World} (h : Lg.Tells2 F caps ah B w) (hb : Below B w w1) {C : Nat} (hC : B ≤ C) : Lg.Tells2 F caps ah C w1 :=
  fun a b W hW => h a b W (hb.trans (hW.mono hC))
structure Lg.Bx (w : World) (b : Nat) (g : Lg) : Prop where
  lt : b < w.heap.size
  at_ : g.at w b 0
  hp : w.heap[b]? = some (.cells g.cells.toArray 75 (0, 0))
theorem Lg.Bx.new (w : World) (g : Lg) : Lg.Bx (w.alloc (.cells g.cells.toArray 75)) w.heap.size g := by
  have h := heap_alloc_new w (.cells g.cells.toArray 75 (0, 0))
  refine ⟨by simp, Lg.at_of fun j u hu => ?_, h⟩
  rw [Nat.zero_add, cell_of_row _ _ j g.cells.toArray 75 (0, 0) h]
  simpa using hu
theorem Lg.Bx.below {w w' : World} {b : Nat} {g : Lg} (h : Lg.Bx w b g) (hb : Below w.heap.size w w') : Lg.Bx w' b g :=
  ⟨Nat.lt_of_lt_of_le h.lt hb.size, Lg.at_keep h.at_ fun i => hb.cell (p := ⟨b, i, none⟩) h.lt, (hb.block b h.lt).trans h.hp⟩
theorem Lg.Bx.sl {w : World} {b : Nat} {g : Lg} (h : Lg.Bx w b g) : Sl w (some ⟨b, 0, none⟩) g.cells := by
  intro _
  refine ⟨b, 0, rfl, fun j u hu => ?_⟩
  rw [Nat.zero_add, cell_of_row _ _ j g.cells.toArray 75 (0, 0) h.hp]
  simpa using hu
theorem Lg.Bx.got {w : World} {b : Nat} {g : Lg} (h : Lg.Bx w b g) : w.cell? ⟨b, 0, none⟩ = some (.int .i64 g.ins) ∧ w.cell? ⟨b, 1, none⟩ = some (.int .i64 g.qty) := by
  have := h.at_
  unfold Lg.at at this
  simpa only [Nat.zero_add] using this
set_option maxHeartbeats 1000000 in
set_option maxRecDepth 100000 in
theorem rising_lg (A : Option Addr) (cap : Nat) (l : List Lg) (F : Nat) (caps : Array Value) (ah : Lg → Lg → Bool) (w : World) (hl : l.length ≤ 1000000) (hs : Sl w A (rc Lg.cells l)) (hF : Ent Tryz.prog F) (hp : Lg.Tells2 F caps ah w.heap.size w) :
    Calls Tryz.prog 102 #[.slice A l.length cap, .func (.func F) #[] caps] w fun e w' => e = .returned (.bool (risingL ah l)) ∧ Below w.heap.size w w' := by
  go_enter Tryz.func102, Tryz.ntmps102
  go_wp2_with fail
  go_loopw [5] (fun i wr => ∃ k : Nat, i = .int .i64 ((k : Int) + 1) ∧ (k ≤ l.length) ∧ (∀ j, (hj : j + 1 < l.length) → j < k → ah (l[j]'(by omega)) l[j + 1] = true) ∧ Below w.heap.size w wr) (fun i _ => l.length + 1 - (intOf i).toNat)
  case atStart => exact ⟨0, by first | rfl | go_num, by omega, fun j hj h => absurd h (by omega), Below.refl _ _⟩
  case round =>
    obtain ⟨k, rfl, hk, hno, hB⟩ := hrel
    by_cases hlt2 : k + 1 < l.length
    · have hkl : k < l.length := by omega
      obtain ⟨b, o, rfl, hbw, hg⟩ := hs.lg hkl
      obtain ⟨b', o', e, hbw', hg'⟩ := hs.lg hlt2
      injection e with e
      injection e with e1 e2 e3
      subst e1; subst e2
      have hg1 : l[k].at wr b (o + k * 2) := Lg.at_keep (w := w) hg fun i => hB.cell (p := ⟨b, i, none⟩) hbw
      have hg2 : l[k + 1].at wr b (o + (k + 1) * 2) := Lg.at_keep (w := w) hg' fun i => hB.cell (p := ⟨b, i, none⟩) hbw
      have HG1 := Lib.hid hg1
      have HG2 := Lib.hid hg2
      have hbr : b < wr.heap.size := Nat.lt_of_lt_of_le hbw hB.size
      have HK : Hid (∀ V, Below wr.heap.size wr V → l[k].at V b (o + k * 2) ∧ l[k + 1].at V b (o + (k + 1) * 2)) := Lib.hid fun V hV =>
        ⟨Lg.at_keep (w := wr) HG1.out fun i => hV.cell (p := ⟨b, i, none⟩) hbr, Lg.at_keep (w := wr) HG2.out fun i => hV.cell (p := ⟨b, i, none⟩) hbr⟩
      have HP : Hid (∀ V, Below wr.heap.size wr V → _) := Lib.hid fun V hV => hp l[k] l[k + 1] V (since_step hB hV)
      obtain ⟨q, hq⟩ : ∃ q, ah l[k] l[k + 1] = q := ⟨_, rfl⟩
      have HXq : Hid (if q then (∀ j, (hj : j + 1 < l.length) → j < k + 1 → ah (l[j]'(by omega)) l[j + 1] = true) else risingL ah l = false) := Lib.hid (by
        cases q with
        | true =>
          intro j hj hjk
          rcases Nat.lt_or_ge j k with h | h
          · exact hno j hj h
          · obtain rfl : j = k := by omega
            exact hq
        | false => exact risingL_false hlt2 hq)
      have HQ := Lib.hid hq
      clear hno hp hg hg' hg1 hg2 HG1 HG2 hq
      generalize l[k] = ga at HK HP HQ
      generalize l[k + 1] = gb at HK HP HQ
      have hw0 : IntKind.i64.wrap (k : Int) = (k : Int) := by rw [IntKind.wrap_i64]; omega
      have hw2 : IntKind.i64.wrap ((k : Int) + 1 + 1) = (k : Int) + 1 + 1 := by rw [IntKind.wrap_i64]; omega
      have hn0 : (0 : Int) ≤ (k : Int) := by omega
      have hn1 : (0 : Int) ≤ (k : Int) + 1 := by omega
      have htn : ((k : Int) + 1).toNat = k + 1 := by omega
      have hlt3 : (k : Int) + 1 < (l.length : Int) := by omega
      clear hs hbw hbw'
      go_wp2_with fail
      refine wp_region_held_drew (S := (fun V => Below wr.heap.size wr V)) (by kernel_rfl) (by exact (Below.refl _ _).drew) (fun hHeld => ?_)
      refine wpAnyH_take (i := 0) (oi := { dst := some 12, op := _, type := _, pos := _, after := _, guard := _ }) (v := ?_) rfl (by kernel_rfl) (by kernel_rfl) (by kernel_rfl) (fun _ _ _ h => h) (Or.inl ⟨by rfl, ?_⟩) hHeld ?_
      rotate_left
      · (intro w hSw; obtain ⟨⟨g0, g1⟩, h0, h1⟩ := HK.out _ hSw; go_simp <;> with_reducible rfl)
      try simp only [Act.put, List.setIfInBounds_toArray, List.set_cons_zero, List.set_cons_succ]
      refine wpAnyH_take (i := 1) (oi := { dst := some 13, op := _, type := _, pos := _, after := _, guard := _ }) (v := ?_) rfl (by kernel_rfl) (by kernel_rfl) (by kernel_rfl) (fun _ _ _ h => h) (Or.inl ⟨by rfl, ?_⟩) hHeld ?_
      rotate_left
      · (intro w hSw; obtain ⟨⟨g0, g1⟩, h0, h1⟩ := HK.out _ hSw; go_simp <;> with_reducible rfl)
      try simp only [Act.put, List.setIfInBounds_toArray, List.set_cons_zero, List.set_cons_succ]
      refine wpAnyH_take (i := 2) (oi := { dst := some 14, op := _, type := _, pos := _, after := _, guard := _ }) (v := ?_) rfl (by kernel_rfl) (by kernel_rfl) (by kernel_rfl) (fun _ _ _ h => h) (Or.inl ⟨by rfl, ?_⟩) hHeld ?_
      rotate_left
      · (intro w hSw; obtain ⟨⟨g0, g1⟩, h0, h1⟩ := HK.out _ hSw; go_simp <;> with_reducible rfl)
      try simp only [Act.put, List.setIfInBounds_toArray, List.set_cons_zero, List.set_cons_succ]
      refine wpAnyH_take (i := 3) (oi := { dst := some 15, op := _, type := _, pos := _, after := _, guard := _ }) (v := ?_) rfl (by kernel_rfl) (by kernel_rfl) (by kernel_rfl) (fun _ _ _ h => h) (Or.inl ⟨by rfl, ?_⟩) hHeld ?_
      rotate_left
      · (intro w hSw; obtain ⟨⟨g0, g1⟩, h0, h1⟩ := HK.out _ hSw; go_simp <;> with_reducible rfl)
      try simp only [Act.put, List.setIfInBounds_toArray, List.set_cons_zero, List.set_cons_succ]
      refine wpAnyH_take (i := 4) (oi := { dst := some 16, op := _, type := _, pos := _, after := _, guard := _ }) (v := ?_) rfl (by kernel_rfl) (by kernel_rfl) (by kernel_rfl) (fun _ _ _ h => h) (Or.inl ⟨by rfl, ?_⟩) hHeld ?_
      rotate_left
      · (intro w hSw; obtain ⟨⟨g0, g1⟩, h0, h1⟩ := HK.out _ hSw; go_simp <;> with_reducible rfl)
      try simp only [Act.put, List.setIfInBounds_toArray, List.set_cons_zero, List.set_cons_succ]
      refine wpAnyH_take (i := 5) (oi := { dst := some 17, op := _, type := _, pos := _, after := _, guard := _ }) (v := ?_) rfl (by kernel_rfl) (by kernel_rfl) (by kernel_rfl) (fun _ _ _ h => h) (Or.inl ⟨by rfl, ?_⟩) hHeld ?_
      rotate_left
      · (intro w hSw; obtain ⟨⟨g0, g1⟩, h0, h1⟩ := HK.out _ hSw; go_simp <;> with_reducible rfl)
      try simp only [Act.put, List.setIfInBounds_toArray, List.set_cons_zero, List.set_cons_succ]
      refine wpAnyH_take (i := 6) (oi := { dst := some 18, op := _, type := _, pos := _, after := _, guard := _ }) (v := ?_) rfl (by kernel_rfl) (by kernel_rfl) (by kernel_rfl) (fun _ _ _ h => h) (Or.inl ⟨by rfl, ?_⟩) hHeld ?_
      rotate_left
      · (intro w hSw; obtain ⟨⟨g0, g1⟩, h0, h1⟩ := HK.out _ hSw; go_simp <;> with_reducible rfl)
      try simp only [Act.put, List.setIfInBounds_toArray, List.set_cons_zero, List.set_cons_succ]
      refine wpAnyH_take (i := 7) (oi := { dst := some 19, op := _, type := _, pos := _, after := _, guard := _ }) (v := ?_) rfl (by kernel_rfl) (by kernel_rfl) (by kernel_rfl) (fun _ _ _ h => h) (Or.inl ⟨by rfl, ?_⟩) hHeld ?_
      rotate_left
      · (intro w hSw; obtain ⟨⟨g0, g1⟩, h0, h1⟩ := HK.out _ hSw; go_simp <;> with_reducible rfl)
      try simp only [Act.put, List.setIfInBounds_toArray, List.set_cons_zero, List.set_cons_succ]
      refine wpAnyH_take (i := 8) (oi := { dst := some 20, op := _, type := _, pos := _, after := _, guard := _ }) (v := ?_) rfl (by kernel_rfl) (by kernel_rfl) (by kernel_rfl) (fun _ _ _ h => h) (Or.inl ⟨by rfl, ?_⟩) hHeld ?_
      rotate_left
      · (intro w hSw; obtain ⟨⟨g0, g1⟩, h0, h1⟩ := HK.out _ hSw; go_simp <;> with_reducible rfl)
      try simp only [Act.put, List.setIfInBounds_toArray, List.set_cons_zero, List.set_cons_succ]
      refine wpAnyH_take (i := 9) (oi := { dst := some 21, op := _, type := _, pos := _, after := _, guard := _ }) (v := ?_) rfl (by kernel_rfl) (by kernel_rfl) (by kernel_rfl) (fun _ _ _ h => h) (Or.inl ⟨by rfl, ?_⟩) hHeld ?_
      rotate_left
      · (intro w hSw; obtain ⟨⟨g0, g1⟩, h0, h1⟩ := HK.out _ hSw; go_simp <;> with_reducible rfl)
      try simp only [Act.put, List.setIfInBounds_toArray, List.set_cons_zero, List.set_cons_succ]
      refine wpAnyH_ready (rs := [10]) (by kernel_rfl) (by simp) ?_
      refine AllReadyH.cons (o := { dst := some 22, op := _, type := _, pos := _, after := _, guard := _ }) rfl (fun K hK => ?_) AllReadyH.nil
      go_simp
      rw [hF, Oper.upon_enter]
      refine (HP.out _ hHeld).mono ?_
      rintro e u1 ⟨rfl, hk1⟩
      have hKeep := since_step hHeld hk1
      rw [HQ.out]
      go_wp2_with fail
      refine hK.out _ _ (by (try dsimp only); exact hKeep) (fun hHeld => ?_)
      clear hK K hKeep
      try simp only [Act.put, List.setIfInBounds_toArray, List.set_cons_zero, List.set_cons_succ]
      refine wpAnyH_take (i := 11) (oi := { dst := some 23, op := _, type := _, pos := _, after := _, guard := _ }) (v := ?_) rfl (by kernel_rfl) (by kernel_rfl) (by kernel_rfl) (fun _ _ _ h => h) (Or.inl ⟨by rfl, ?_⟩) hHeld ?_
      rotate_left
      · (intro w hSw; obtain ⟨⟨g0, g1⟩, h0, h1⟩ := HK.out _ hSw; go_simp <;> with_reducible rfl)
      try simp only [Act.put, List.setIfInBounds_toArray, List.set_cons_zero, List.set_cons_succ]
      refine wpAnyH_done (by kernel_rfl) ?_ _
      have hB2 := since_step hB hHeld
      cases q with
      | true =>
        go_wp2_with fail
        go_roundw
        case rel => exact ⟨k + 1, by go_num, by omega, by simpa using HXq.out, hB2⟩
        case measure => simp [intOf]; omega
      | false =>
        have hr : risingL ah l = false := by simpa using HXq.out
        have HR := Lib.hid hr
        clear hr
        go_wp2_with fail
        go_ret
        exact ⟨retB HR.out.symm, hB2⟩
    · have hrt : risingL ah l = true := (risingL_iff ah l).2 fun j hj => hno j hj (by omega)
      have HR := Lib.hid hrt
      have hge : ¬ ((k : Int) + 1 < (l.length : Int)) := by omega
      clear hno hrt
      go_wp2_with fail
      go_ret
      exact ⟨retB HR.out.symm, hB⟩
end Go.Proofs.YtahdmomadbbhoaaGreat
end
section
namespace Go.Proofs.YtahdmomadbbhoaaGreat
open Go.ChangeShapes Go.WideShapes Go.ChangeAt Go.RowKit
set_option linter.unusedVariables false
set_option linter.unusedSimpArgs false

structure RowS (α : Type) where
  A : Option Addr
  c : Nat
  l : List α
section
variable {α : Type}
def RowS.cells (s : RowS α) : List Value := [.slice s.A s.l.length s.c]
def RowS.val (s : RowS α) : Value := .slice s.A s.l.length s.c
theorem RowS.len (s : RowS α) : s.cells.length = 1 := rfl
theorem RowS.one (s : RowS α) : ∀ u ∈ s.cells, u.oneCell' = true := by
  intro u hu
  simp only [RowS.cells, List.mem_cons, List.not_mem_nil, or_false] at hu
  subst hu; rfl
def RowS.all (S : List (RowS α)) : List α := (S.map RowS.l).flatten
theorem RowS.all_cons (s : RowS α) (S : List (RowS α)) : RowS.all (s :: S) = s.l ++ RowS.all S := by simp [RowS.all]
theorem RowS.all_append (S T : List (RowS α)) : RowS.all (S ++ T) = RowS.all S ++ RowS.all T := by simp [RowS.all]
theorem RowS.all_take {S : List (RowS α)} {k : Nat} (h : k < S.length) : RowS.all (S.take (k + 1)) = RowS.all (S.take k) ++ S[k].l := by
  rw [List.take_succ_eq_append_getElem h, RowS.all_append]; simp [RowS.all]
def RowsOk (w : World) (f : α → List Value) (S : List (RowS α)) : Prop := ∀ s ∈ S, Sl w s.A (rc f s.l)
theorem RowsOk.below {w w' : World} {f : α → List Value} {S : List (RowS α)} (h : RowsOk w f S) (hb : Below w.heap.size w w') : RowsOk w' f S := fun s hs => (h s hs).below hb
theorem RowsOk.alloc {w : World} {f : α → List Value} {S : List (RowS α)} (h : RowsOk w f S) (o : Obj) : RowsOk (w.alloc o) f S := fun s hs => (h s hs).alloc o
theorem RowsOk.drew {w : World} {f : α → List Value} {S : List (RowS α)} (h : RowsOk w f S) : RowsOk w.drew f S := h
theorem Sl.rowS {w : World} {A : Option Addr} {S : List (RowS α)} (h : Sl w A (rc RowS.cells S)) {k : Nat} (hk : k < S.length) : ∃ b o, A = some ⟨b, o, none⟩ ∧ b < w.heap.size ∧ w.cell? ⟨b, o + k, none⟩ = some (.slice S[k].A S[k].l.length S[k].c) := by
  obtain ⟨b, o, hA, hb, hc⟩ := Sl.elem (m := 1) RowS.len (by decide) h hk
  have := hc 0 _ rfl
  rw [Nat.mul_one] at this
  exact ⟨b, o, hA, hb, this⟩
theorem all_len_le {S : List (RowS α)} {k : Nat} : (RowS.all (S.take k)).length ≤ (RowS.all S).length := by
  have h : RowS.all S = RowS.all (S.take k) ++ RowS.all (S.drop k) := by rw [← RowS.all_append, List.take_append_drop]
  rw [h, List.length_append]; omega
theorem rd_rowsP {w : World} {f : α → List Value} {p : α → Prop} {s : Shape} {A : Option Addr} {n c : Nat} (hf : ∀ r, Rd w s r → ∃ g, r = f g ∧ p g) (h : Rd w (.sl s) [.slice A n c]) :
    ∃ l : List α, l.length = n ∧ n ≤ c ∧ c ≤ maxLen ∧ Sl w A (rc f l) ∧ ∀ y ∈ l, p y := by
  obtain ⟨A', n', c', rows, e, h1, h2, h3, h4, h5⟩ := h
  simp only [List.cons.injEq, Value.slice.injEq, and_true] at e
  obtain ⟨rfl, rfl, rfl⟩ := e
  have key : ∀ rows : List (List Value), (∀ r ∈ rows, Rd w s r) → ∃ l : List α, l.length = rows.length ∧ rows.flatten = rc f l ∧ ∀ y ∈ l, p y := by
    intro rows
    induction rows with
    | nil => intro _; exact ⟨[], rfl, rfl, fun y hy => by cases hy⟩
    | cons r rows ih =>
      intro h
      obtain ⟨l, a1, a2, a3⟩ := ih (fun x hx => h x (by simp [hx]))
      obtain ⟨x, rfl, hx⟩ := hf r (h r (by simp))
      refine ⟨x :: l, by simp [a1], by simp [a2, rc], fun y hy => ?_⟩
      rcases List.mem_cons.1 hy with rfl | hy
      · exact hx
      · exact a3 y hy
  obtain ⟨l, a1, a2, a3⟩ := key rows h5
  rw [a2] at h4
  exact ⟨l, by omega, h1, h2, h4, a3⟩
end
end Go.Proofs.YtahdmomadbbhoaaGreat
end
