import Derived.Test.YtmjndpkfhdoljaaGreatCm03
import Derived.Deep.DeepCutAuto
import Derived.Deep.RegionHeld3
import Derived.Deep.RegionLaw
import Derived.Lib.SliceRun
import Derived.Test.YtmjndpkfhdoljaaGreatCm01
import Derived.Test.YtmjndpkfhdoljaaGreatCm02
set_option maxHeartbeats 16000000
set_option maxRecDepth 100000
set_option linter.unusedVariables false
set_option linter.unusedSimpArgs false
namespace Go.Proofs.YtmjndpkfhdoljaaGreat
open Go.ChangeShapes Go.WideShapes Go.ChangeAt Go.RowKit
section
theorem find_po (A : Option Addr) (cap : Nat) (l : List Po) (F : Nat) (caps : Array Value) (p : Po → Bool) (w : World) (hl : l.length ≤ 1000000) (hs : Sl w A (rc Po.cells l)) (hF : Ent Tryz.prog F) (hp : Po.Tells F caps p w.heap.size w) :
    Calls Tryz.prog 112 #[.slice A l.length cap, .func (.func F) #[] caps] w fun e w' =>
      e = .returned (.tuple #[(pickL p Po.zero l).val, .bool (l.find? p).isSome]) ∧ Below w.heap.size w w' := by
  have hB0 := since_alloc (Below.refl w.heap.size w) (.cells #[.int .i64 0, .int .i64 0, .slice none 0 0] 95)
  have hidx := index_po A cap l F caps p (w.alloc (.cells #[.int .i64 0, .int .i64 0, .slice none 0 0] 95)) hl (hs.alloc _) hF (hp.below hB0 (by simp))
  have Bz := Bk.new w #[.int .i64 0, .int .i64 0, .slice none 0 0] 95
  rcases atL_cases p l with ⟨h0, hno⟩ | ⟨k, hk, h0, hpk, hno⟩
  · rw [h0] at hidx
    have HF1 := Lib.hid (find_none hno)
    clear hno h0
    go_enter Tryz.func112, Tryz.ntmps112
    go_wp2_with fail
    refine hidx.mono ?_
    rintro e w1 ⟨rfl, hb1⟩
    have hB1 := since_step hB0 hb1
    have Bz := Bz.below hb1
    obtain ⟨lb, cb⟩ := id Bz
    have q0 := cb 0
    have q1 := cb 1
    have q2 := cb 2
    simp at q0 q1 q2
    clear cb
    have hfz : ∀ i, w1.frozen? ⟨w.heap.size, i, none⟩ = false := fun i => by rw [(hb1.frozen (p := ⟨w.heap.size, i, none⟩) (by simp))]; simp
    have hcs := @cell_set
    clear hb1 Bz hidx
    go_wp2_with fail
    refine bodyPost_ret (v := .tuple #[Po.zero.val, .bool false]) ?_ rfl ⟨?_, ?_⟩
    · have hca : ∀ (V : World) (o : Obj) (i : Nat), w.heap.size < V.heap.size → (V.alloc o).cell? ⟨w.heap.size, i, none⟩ = V.cell? ⟨w.heap.size, i, none⟩ := fun V o i h => World.cell?_alloc_lt V o ⟨w.heap.size, i, none⟩ h
      simp [results, Tryz.results112, go_sem, q0, q1, q2, hfz, Po.zero, Po.val, hca, lb]
    · rw [pickL, HF1.out]; rfl
    · repeat' (first | with_reducible exact hB1 | with_reducible refine Below.setCell ?_ ?_ _ | with_reducible refine Below.alloc ?_ ?_ _)
      all_goals first | (simp; done) | (simp; omega)
  · rw [h0] at hidx
    have HF1 := Lib.hid (find_some hk hno hpk)
    clear hno h0 hpk
    go_enter Tryz.func112, Tryz.ntmps112
    go_wp2_with fail
    refine hidx.mono ?_
    rintro e w1 ⟨rfl, hb1⟩
    have hB1 := since_step hB0 hb1
    have Bz := Bz.below hb1
    obtain ⟨lb, cb⟩ := id Bz
    have q0 := cb 0
    have q1 := cb 1
    have q2 := cb 2
    simp at q0 q1 q2
    clear cb
    have hfz : ∀ i, w1.frozen? ⟨w.heap.size, i, none⟩ = false := fun i => by rw [(hb1.frozen (p := ⟨w.heap.size, i, none⟩) (by simp))]; simp
    have hcs := @cell_set
    obtain ⟨b, o, rfl, hbw, hgat⟩ := ((hs.alloc (.cells #[.int .i64 0, .int .i64 0, .slice none 0 0] 95)).below hb1).po hk
    clear hb1 Bz hidx hs
    generalize l[k] = g at *
    obtain ⟨g0, g1, g2⟩ := hgat
    go_wp2_with fail
    refine bodyPost_ret (v := .tuple #[g.val, .bool true]) ?_ rfl ⟨?_, ?_⟩
    · simp [results, Tryz.results112, go_sem, q0, q1, q2, hfz, Po.val]
    · rw [pickL, HF1.out]; rfl
    · repeat' (first | with_reducible exact hB1 | with_reducible refine Below.setCell ?_ ?_ _ | with_reducible refine Below.alloc ?_ ?_ _)
      all_goals first | (simp; done) | (simp; omega)
end
section
def Po.Tells2 (F : Nat) (caps : Array Value) (ah : Po → Po → Bool) (B : Nat) (w : World) : Prop :=
  ∀ (a b : Po) (W : World), Below B w W → Calls Tryz.prog F (#[a.val, b.val] ++ caps) W fun e w' => e = .returned (.bool (ah a b)) ∧ Below W.heap.size W w'
theorem Po.Tells2.below {F : Nat} {caps : Array Value} {ah : Po → Po → Bool} {B : Nat} {w w1 : World} (h : Po.Tells2 F caps ah B w) (hb : Below B w w1) {C : Nat} (hC : B ≤ C) : Po.Tells2 F caps ah C w1 :=
  fun a b W hW => h a b W (hb.trans (hW.mono hC))
structure Po.Bx (w : World) (b : Nat) (g : Po) : Prop where
  lt : b < w.heap.size
  at_ : g.at w b 0
  hp : w.heap[b]? = some (.cells g.cells.toArray 95 (0, 0))
theorem Po.Bx.new (w : World) (g : Po) : Po.Bx (w.alloc (.cells g.cells.toArray 95)) w.heap.size g := by
  have h := heap_alloc_new w (.cells g.cells.toArray 95 (0, 0))
  refine ⟨by simp, Po.at_of fun j u hu => ?_, h⟩
  rw [Nat.zero_add, cell_of_row _ _ j g.cells.toArray 95 (0, 0) h]
  simpa using hu
theorem Po.Bx.below {w w' : World} {b : Nat} {g : Po} (h : Po.Bx w b g) (hb : Below w.heap.size w w') : Po.Bx w' b g :=
  ⟨Nat.lt_of_lt_of_le h.lt hb.size, Po.at_keep h.at_ fun i => hb.cell (p := ⟨b, i, none⟩) h.lt, (hb.block b h.lt).trans h.hp⟩
theorem Po.Bx.sl {w : World} {b : Nat} {g : Po} (h : Po.Bx w b g) : Sl w (some ⟨b, 0, none⟩) g.cells := by
  intro _
  refine ⟨b, 0, rfl, fun j u hu => ?_⟩
  rw [Nat.zero_add, cell_of_row _ _ j g.cells.toArray 95 (0, 0) h.hp]
  simpa using hu
theorem Po.Bx.got {w : World} {b : Nat} {g : Po} (h : Po.Bx w b g) : w.cell? ⟨b, 0, none⟩ = some (.int .i64 g.ac) ∧ w.cell? ⟨b, 1, none⟩ = some (.int .i64 g.cl) ∧ w.cell? ⟨b, 2, none⟩ = some (.slice g.lg g.lgL g.lgC) := by
  have := h.at_
  unfold Po.at at this
  simpa only [Nat.zero_add] using this
theorem rising_po (A : Option Addr) (cap : Nat) (l : List Po) (F : Nat) (caps : Array Value) (ah : Po → Po → Bool) (w : World) (hl : l.length ≤ 1000000) (hs : Sl w A (rc Po.cells l)) (hF : Ent Tryz.prog F) (hp : Po.Tells2 F caps ah w.heap.size w) :
    Calls Tryz.prog 49 #[.slice A l.length cap, .func (.func F) #[] caps] w fun e w' => e = .returned (.bool (risingL ah l)) ∧ Below w.heap.size w w' := by
  go_enter Tryz.func49, Tryz.ntmps49
  go_wp2_with fail
  go_loopw [5] (fun i wr => ∃ k : Nat, i = .int .i64 ((k : Int) + 1) ∧ (k ≤ l.length) ∧ (∀ j, (hj : j + 1 < l.length) → j < k → ah (l[j]'(by omega)) l[j + 1] = true) ∧ Below w.heap.size w wr) (fun i _ => l.length + 1 - (intOf i).toNat)
  case atStart => exact ⟨0, by first | rfl | go_num, by omega, fun j hj h => absurd h (by omega), Below.refl _ _⟩
  case round =>
    obtain ⟨k, rfl, hk, hno, hB⟩ := hrel
    by_cases hlt2 : k + 1 < l.length
    · have hkl : k < l.length := by omega
      obtain ⟨b, o, rfl, hbw, hg⟩ := hs.po hkl
      obtain ⟨b', o', e, hbw', hg'⟩ := hs.po hlt2
      injection e with e
      injection e with e1 e2 e3
      subst e1; subst e2
      have hg1 : l[k].at wr b (o + k * 3) := Po.at_keep (w := w) hg fun i => hB.cell (p := ⟨b, i, none⟩) hbw
      have hg2 : l[k + 1].at wr b (o + (k + 1) * 3) := Po.at_keep (w := w) hg' fun i => hB.cell (p := ⟨b, i, none⟩) hbw
      have HG1 := Lib.hid hg1
      have HG2 := Lib.hid hg2
      have hbr : b < wr.heap.size := Nat.lt_of_lt_of_le hbw hB.size
      have HK : Hid (∀ V, Below wr.heap.size wr V → l[k].at V b (o + k * 3) ∧ l[k + 1].at V b (o + (k + 1) * 3)) := Lib.hid fun V hV =>
        ⟨Po.at_keep (w := wr) HG1.out fun i => hV.cell (p := ⟨b, i, none⟩) hbr, Po.at_keep (w := wr) HG2.out fun i => hV.cell (p := ⟨b, i, none⟩) hbr⟩
      have HP : Hid (∀ V, Below wr.heap.size wr V → _) := Lib.hid fun V hV => hp l[k] l[k + 1] V (since_step hB hV)
      obtain ⟨q, hq⟩ : ∃ q, ah l[k] l[k + 1] = q := ⟨_, rfl⟩
      have HXq : Hid (if q then (∀ j, (hj : j + 1 < l.length) → j < k + 1 → ah (l[j]'(by omega)) l[j + 1] = true) else risingL ah l = false) := Lib.hid (by
        cases q with
        | true =>
          intro j hj hjk
          rcases Nat.lt_or_ge j k with h | h
          · exact hno j hj h
          · obtain rfl : j = k := by omega
            exact hq
        | false => exact risingL_false hlt2 hq)
      have HQ := Lib.hid hq
      clear hno hp hg hg' hg1 hg2 HG1 HG2 hq
      generalize l[k] = ga at HK HP HQ
      generalize l[k + 1] = gb at HK HP HQ
      have hw0 : IntKind.i64.wrap (k : Int) = (k : Int) := by rw [IntKind.wrap_i64]; omega
      have hw2 : IntKind.i64.wrap ((k : Int) + 1 + 1) = (k : Int) + 1 + 1 := by rw [IntKind.wrap_i64]; omega
      have hn0 : (0 : Int) ≤ (k : Int) := by omega
      have hn1 : (0 : Int) ≤ (k : Int) + 1 := by omega
      have htn : ((k : Int) + 1).toNat = k + 1 := by omega
      have hlt3 : (k : Int) + 1 < (l.length : Int) := by omega
      clear hs hbw hbw'
      go_wp2_with fail
      refine wp_region_held_drew (S := (fun V => Below wr.heap.size wr V)) (by kernel_rfl) (by exact (Below.refl _ _).drew) (fun hHeld => ?_)
      refine tkI 0 12 rfl (by intro w hSw; obtain ⟨⟨g0, g1, g2⟩, h0, h1, h2⟩ := HK.out _ hSw; go_simp <;> with_reducible rfl) hHeld ?_; simp only [pqZ]
      refine tkI 1 13 rfl (by intro w hSw; obtain ⟨⟨g0, g1, g2⟩, h0, h1, h2⟩ := HK.out _ hSw; go_simp <;> with_reducible rfl) hHeld ?_; simp only [pqZ]
      refine tkI 2 14 rfl (by intro w hSw; obtain ⟨⟨g0, g1, g2⟩, h0, h1, h2⟩ := HK.out _ hSw; go_simp <;> with_reducible rfl) hHeld ?_; simp only [pqZ]
      refine tkI 3 15 rfl (by intro w hSw; obtain ⟨⟨g0, g1, g2⟩, h0, h1, h2⟩ := HK.out _ hSw; go_simp <;> with_reducible rfl) hHeld ?_; simp only [pqZ]
      refine tkI 4 16 rfl (by intro w hSw; obtain ⟨⟨g0, g1, g2⟩, h0, h1, h2⟩ := HK.out _ hSw; go_simp <;> with_reducible rfl) hHeld ?_; simp only [pqZ]
      refine tkI 5 17 rfl (by intro w hSw; obtain ⟨⟨g0, g1, g2⟩, h0, h1, h2⟩ := HK.out _ hSw; go_simp <;> with_reducible rfl) hHeld ?_; simp only [pqZ]
      refine tkI 6 18 rfl (by intro w hSw; obtain ⟨⟨g0, g1, g2⟩, h0, h1, h2⟩ := HK.out _ hSw; go_simp <;> with_reducible rfl) hHeld ?_; simp only [pqZ]
      refine tkI 7 19 rfl (by intro w hSw; obtain ⟨⟨g0, g1, g2⟩, h0, h1, h2⟩ := HK.out _ hSw; go_simp <;> with_reducible rfl) hHeld ?_; simp only [pqZ]
      refine tkI 8 20 rfl (by intro w hSw; obtain ⟨⟨g0, g1, g2⟩, h0, h1, h2⟩ := HK.out _ hSw; go_simp <;> with_reducible rfl) hHeld ?_; simp only [pqZ]
      refine tkI 9 21 rfl (by intro w hSw; obtain ⟨⟨g0, g1, g2⟩, h0, h1, h2⟩ := HK.out _ hSw; go_simp <;> with_reducible rfl) hHeld ?_; simp only [pqZ]
      refine rdZ 10 22 rfl (by kernel_rfl) (fun K hK => ?_)
      go_simp
      rw [hF, Oper.upon_enter]
      refine (HP.out _ hHeld).mono ?_
      rintro e u1 ⟨rfl, hk1⟩
      have hKeep := since_step hHeld hk1
      rw [HQ.out]
      go_wp2_with fail
      refine hK.out _ _ (by (try dsimp only); exact hKeep) (fun hHeld => ?_); clear hK K hKeep; try simp only [pqZ]
      refine tkI 11 23 rfl (by intro w hSw; obtain ⟨⟨g0, g1, g2⟩, h0, h1, h2⟩ := HK.out _ hSw; go_simp <;> with_reducible rfl) hHeld ?_; simp only [pqZ]
      refine wpAnyH_done (by kernel_rfl) ?_ _
      have hB2 := since_step hB hHeld
      cases q with
      | true =>
        go_wp2_with fail
        go_roundw
        case rel => exact ⟨k + 1, by go_num, by omega, by simpa using HXq.out, hB2⟩
        case measure => simp [intOf]; omega
      | false =>
        have hr : risingL ah l = false := by simpa using HXq.out
        have HR := Lib.hid hr
        clear hr
        go_wp2_with fail
        go_ret
        exact ⟨retB HR.out.symm, hB2⟩
    · have hrt : risingL ah l = true := (risingL_iff ah l).2 fun j hj => hno j hj (by omega)
      have HR := Lib.hid hrt
      have hge : ¬ ((k : Int) + 1 < (l.length : Int)) := by omega
      clear hno hrt
      go_wp2_with fail
      go_ret
      exact ⟨retB HR.out.symm, hB⟩
end
section
structure Lg where
  (ins : Int) (qty : Int)
deriving DecidableEq
def Lg.cells (g : Lg) : List Value := [.int .i64 g.ins, .int .i64 g.qty]
def Lg.val (g : Lg) : Value := .agg #[.int .i64 g.ins, .int .i64 g.qty]
def Lg.zero : Lg := ⟨0, 0⟩
theorem Lg.len (g : Lg) : g.cells.length = 2 := rfl
theorem Lg.one (g : Lg) : ∀ u ∈ g.cells, u.oneCell' = true := by
  intro u hu
  simp only [Lg.cells, List.mem_cons, List.not_mem_nil, or_false] at hu
  rcases hu with h | h <;> subst h <;> rfl
def Lg.at (g : Lg) (w : World) (b o : Nat) : Prop :=
  w.cell? ⟨b, o, none⟩ = some (.int .i64 g.ins) ∧ w.cell? ⟨b, o + 1, none⟩ = some (.int .i64 g.qty)
theorem Lg.at_of {w : World} {b o : Nat} {g : Lg} (h : ∀ j u, g.cells[j]? = some u → w.cell? ⟨b, o + j, none⟩ = some u) : g.at w b o :=
  ⟨h 0 _ rfl, h 1 _ rfl⟩
theorem Lg.at_keep {w w' : World} {b o : Nat} {g : Lg} (h : g.at w b o) (k : ∀ i, w'.cell? ⟨b, i, none⟩ = w.cell? ⟨b, i, none⟩) : g.at w' b o := by
  unfold Lg.at at *
  simp only [k]
  exact h
theorem Sl.lg {w : World} {A : Option Addr} {l : List Lg} (h : Sl w A (rc Lg.cells l)) {k : Nat} (hk : k < l.length) : ∃ b o, A = some ⟨b, o, none⟩ ∧ b < w.heap.size ∧ l[k].at w b (o + k * 2) := by
  obtain ⟨b, o, hA, hb, hc⟩ := Sl.elem (m := 2) Lg.len (by decide) h hk
  exact ⟨b, o, hA, hb, Lg.at_of hc⟩
theorem ELg : Elem Tryz.prog 93 151 2 16 := Elem.mk' (z := .agg #[.int .i64 0, .int .i64 0]) (by kernel_rfl) (by kernel_rfl) (by decide) (by decide)
def Lg.Tells (F : Nat) (caps : Array Value) (p : Lg → Bool) (B : Nat) (w : World) : Prop :=
  ∀ (g : Lg) (W : World), Below B w W → Calls Tryz.prog F (#[g.val] ++ caps) W fun e w' => e = .returned (.bool (p g)) ∧ Below W.heap.size W w'
theorem Lg.Tells.below {F : Nat} {caps : Array Value} {p : Lg → Bool} {B : Nat} {w w1 : World} (h : Lg.Tells F caps p B w) (hb : Below B w w1) {C : Nat} (hC : B ≤ C) : Lg.Tells F caps p C w1 :=
  fun g W hW => h g W (hb.trans (hW.mono hC))
theorem clone_lg (A : Option Addr) (cap : Nat) (l : List Lg) (w : World) (hl : l.length ≤ 1000000) (hs : Sl w A (rc Lg.cells l)) :
    Calls Tryz.prog 114 #[.slice A l.length cap] w fun e w' => (∃ A' c', e = .returned (.slice A' l.length c') ∧ w'.ownsRow w.heap.size 151 2 (.slice A' l.length c') l.length (rc Lg.cells l)) ∧ Below w.heap.size w w' := by
  cases A with
  | none =>
    have hn : l = [] := by
      cases l with
      | nil => rfl
      | cons g m => obtain ⟨b, o, e, _⟩ := hs.lg (k := 0) (by simp); cases e
    subst hn
    have hnil := fun w : World => Go.Lib.run_eql_slice_nil (P := Tryz.prog) w 93 151 none 0 cap 0 0 ELg.und
    go_enter Tryz.func114, Tryz.ntmps114
    go_wp2_with fail
    go_ret
    exact ⟨⟨none, 0, rfl, own_nil _ _ _⟩, Below.refl _ _⟩
  | some ad =>
    have hnil := fun w : World => Go.Lib.run_eql_slice_nil (P := Tryz.prog) w 93 151 (some ad) l.length cap 0 0 ELg.und
    go_enter Tryz.func114, Tryz.ntmps114
    go_wp2_with (first
      | (at_builtin; refine wpList_app rfl (.tmp 5) (.tmp 6) rfl ELg rfl rfl (World.ownsRow_made (w := w) #[] 0 (Nat.le_refl _) (Nat.zero_le _) rfl) (rc_length Lg.len l) (hs.alloc _) (rc_one Lg.one l) (by unfold maxLen; omega) (by omega) (by simp) ?_; intro A2 c2 w2 hown2 hg2 hb2; simp only [Nat.zero_add, List.nil_append] at hown2)
      | fail)
    refine bodyPost_ret (results_tmp rfl _ _ _) rfl ⟨⟨A2, c2, by simp, by simpa using hown2⟩, ?_⟩
    exact Below.trans ((Below.refl _ _).alloc (Nat.le_refl _) _) hb2
end
section
def Lg.Tells2 (F : Nat) (caps : Array Value) (ah : Lg → Lg → Bool) (B : Nat) (w : World) : Prop :=
  ∀ (a b : Lg) (W : World), Below B w W → Calls Tryz.prog F (#[a.val, b.val] ++ caps) W fun e w' => e = .returned (.bool (ah a b)) ∧ Below W.heap.size W w'
theorem Lg.Tells2.below {F : Nat} {caps : Array Value} {ah : Lg → Lg → Bool} {B : Nat} {w w1 : World} (h : Lg.Tells2 F caps ah B w) (hb : Below B w w1) {C : Nat} (hC : B ≤ C) : Lg.Tells2 F caps ah C w1 :=
  fun a b W hW => h a b W (hb.trans (hW.mono hC))
structure Lg.Bx (w : World) (b : Nat) (g : Lg) : Prop where
  lt : b < w.heap.size
  at_ : g.at w b 0
  hp : w.heap[b]? = some (.cells g.cells.toArray 151 (0, 0))
theorem Lg.Bx.new (w : World) (g : Lg) : Lg.Bx (w.alloc (.cells g.cells.toArray 151)) w.heap.size g := by
  have h := heap_alloc_new w (.cells g.cells.toArray 151 (0, 0))
  refine ⟨by simp, Lg.at_of fun j u hu => ?_, h⟩
  rw [Nat.zero_add, cell_of_row _ _ j g.cells.toArray 151 (0, 0) h]
  simpa using hu
theorem Lg.Bx.below {w w' : World} {b : Nat} {g : Lg} (h : Lg.Bx w b g) (hb : Below w.heap.size w w') : Lg.Bx w' b g :=
  ⟨Nat.lt_of_lt_of_le h.lt hb.size, Lg.at_keep h.at_ fun i => hb.cell (p := ⟨b, i, none⟩) h.lt, (hb.block b h.lt).trans h.hp⟩
theorem Lg.Bx.sl {w : World} {b : Nat} {g : Lg} (h : Lg.Bx w b g) : Sl w (some ⟨b, 0, none⟩) g.cells := by
  intro _
  refine ⟨b, 0, rfl, fun j u hu => ?_⟩
  rw [Nat.zero_add, cell_of_row _ _ j g.cells.toArray 151 (0, 0) h.hp]
  simpa using hu
theorem Lg.Bx.got {w : World} {b : Nat} {g : Lg} (h : Lg.Bx w b g) : w.cell? ⟨b, 0, none⟩ = some (.int .i64 g.ins) ∧ w.cell? ⟨b, 1, none⟩ = some (.int .i64 g.qty) := by
  have := h.at_
  unfold Lg.at at this
  simpa only [Nat.zero_add] using this
theorem rising_lg (A : Option Addr) (cap : Nat) (l : List Lg) (F : Nat) (caps : Array Value) (ah : Lg → Lg → Bool) (w : World) (hl : l.length ≤ 1000000) (hs : Sl w A (rc Lg.cells l)) (hF : Ent Tryz.prog F) (hp : Lg.Tells2 F caps ah w.heap.size w) :
    Calls Tryz.prog 89 #[.slice A l.length cap, .func (.func F) #[] caps] w fun e w' => e = .returned (.bool (risingL ah l)) ∧ Below w.heap.size w w' := by
  go_enter Tryz.func89, Tryz.ntmps89
  go_wp2_with fail
  go_loopw [5] (fun i wr => ∃ k : Nat, i = .int .i64 ((k : Int) + 1) ∧ (k ≤ l.length) ∧ (∀ j, (hj : j + 1 < l.length) → j < k → ah (l[j]'(by omega)) l[j + 1] = true) ∧ Below w.heap.size w wr) (fun i _ => l.length + 1 - (intOf i).toNat)
  case atStart => exact ⟨0, by first | rfl | go_num, by omega, fun j hj h => absurd h (by omega), Below.refl _ _⟩
  case round =>
    obtain ⟨k, rfl, hk, hno, hB⟩ := hrel
    by_cases hlt2 : k + 1 < l.length
    · have hkl : k < l.length := by omega
      obtain ⟨b, o, rfl, hbw, hg⟩ := hs.lg hkl
      obtain ⟨b', o', e, hbw', hg'⟩ := hs.lg hlt2
      injection e with e
      injection e with e1 e2 e3
      subst e1; subst e2
      have hg1 : l[k].at wr b (o + k * 2) := Lg.at_keep (w := w) hg fun i => hB.cell (p := ⟨b, i, none⟩) hbw
      have hg2 : l[k + 1].at wr b (o + (k + 1) * 2) := Lg.at_keep (w := w) hg' fun i => hB.cell (p := ⟨b, i, none⟩) hbw
      have HG1 := Lib.hid hg1
      have HG2 := Lib.hid hg2
      have hbr : b < wr.heap.size := Nat.lt_of_lt_of_le hbw hB.size
      have HK : Hid (∀ V, Below wr.heap.size wr V → l[k].at V b (o + k * 2) ∧ l[k + 1].at V b (o + (k + 1) * 2)) := Lib.hid fun V hV =>
        ⟨Lg.at_keep (w := wr) HG1.out fun i => hV.cell (p := ⟨b, i, none⟩) hbr, Lg.at_keep (w := wr) HG2.out fun i => hV.cell (p := ⟨b, i, none⟩) hbr⟩
      have HP : Hid (∀ V, Below wr.heap.size wr V → _) := Lib.hid fun V hV => hp l[k] l[k + 1] V (since_step hB hV)
      obtain ⟨q, hq⟩ : ∃ q, ah l[k] l[k + 1] = q := ⟨_, rfl⟩
      have HXq : Hid (if q then (∀ j, (hj : j + 1 < l.length) → j < k + 1 → ah (l[j]'(by omega)) l[j + 1] = true) else risingL ah l = false) := Lib.hid (by
        cases q with
        | true =>
          intro j hj hjk
          rcases Nat.lt_or_ge j k with h | h
          · exact hno j hj h
          · obtain rfl : j = k := by omega
            exact hq
        | false => exact risingL_false hlt2 hq)
      have HQ := Lib.hid hq
      clear hno hp hg hg' hg1 hg2 HG1 HG2 hq
      generalize l[k] = ga at HK HP HQ
      generalize l[k + 1] = gb at HK HP HQ
      have hw0 : IntKind.i64.wrap (k : Int) = (k : Int) := by rw [IntKind.wrap_i64]; omega
      have hw2 : IntKind.i64.wrap ((k : Int) + 1 + 1) = (k : Int) + 1 + 1 := by rw [IntKind.wrap_i64]; omega
      have hn0 : (0 : Int) ≤ (k : Int) := by omega
      have hn1 : (0 : Int) ≤ (k : Int) + 1 := by omega
      have htn : ((k : Int) + 1).toNat = k + 1 := by omega
      have hlt3 : (k : Int) + 1 < (l.length : Int) := by omega
      clear hs hbw hbw'
      go_wp2_with fail
      refine wp_region_held_drew (S := (fun V => Below wr.heap.size wr V)) (by kernel_rfl) (by exact (Below.refl _ _).drew) (fun hHeld => ?_)
      refine tkI 0 12 rfl (by intro w hSw; obtain ⟨⟨g0, g1⟩, h0, h1⟩ := HK.out _ hSw; go_simp <;> with_reducible rfl) hHeld ?_; simp only [pqZ]
      refine tkI 1 13 rfl (by intro w hSw; obtain ⟨⟨g0, g1⟩, h0, h1⟩ := HK.out _ hSw; go_simp <;> with_reducible rfl) hHeld ?_; simp only [pqZ]
      refine tkI 2 14 rfl (by intro w hSw; obtain ⟨⟨g0, g1⟩, h0, h1⟩ := HK.out _ hSw; go_simp <;> with_reducible rfl) hHeld ?_; simp only [pqZ]
      refine tkI 3 15 rfl (by intro w hSw; obtain ⟨⟨g0, g1⟩, h0, h1⟩ := HK.out _ hSw; go_simp <;> with_reducible rfl) hHeld ?_; simp only [pqZ]
      refine tkI 4 16 rfl (by intro w hSw; obtain ⟨⟨g0, g1⟩, h0, h1⟩ := HK.out _ hSw; go_simp <;> with_reducible rfl) hHeld ?_; simp only [pqZ]
      refine tkI 5 17 rfl (by intro w hSw; obtain ⟨⟨g0, g1⟩, h0, h1⟩ := HK.out _ hSw; go_simp <;> with_reducible rfl) hHeld ?_; simp only [pqZ]
      refine tkI 6 18 rfl (by intro w hSw; obtain ⟨⟨g0, g1⟩, h0, h1⟩ := HK.out _ hSw; go_simp <;> with_reducible rfl) hHeld ?_; simp only [pqZ]
      refine tkI 7 19 rfl (by intro w hSw; obtain ⟨⟨g0, g1⟩, h0, h1⟩ := HK.out _ hSw; go_simp <;> with_reducible rfl) hHeld ?_; simp only [pqZ]
      refine tkI 8 20 rfl (by intro w hSw; obtain ⟨⟨g0, g1⟩, h0, h1⟩ := HK.out _ hSw; go_simp <;> with_reducible rfl) hHeld ?_; simp only [pqZ]
      refine tkI 9 21 rfl (by intro w hSw; obtain ⟨⟨g0, g1⟩, h0, h1⟩ := HK.out _ hSw; go_simp <;> with_reducible rfl) hHeld ?_; simp only [pqZ]
      refine rdZ 10 22 rfl (by kernel_rfl) (fun K hK => ?_)
      go_simp
      rw [hF, Oper.upon_enter]
      refine (HP.out _ hHeld).mono ?_
      rintro e u1 ⟨rfl, hk1⟩
      have hKeep := since_step hHeld hk1
      rw [HQ.out]
      go_wp2_with fail
      refine hK.out _ _ (by (try dsimp only); exact hKeep) (fun hHeld => ?_); clear hK K hKeep; try simp only [pqZ]
      refine tkI 11 23 rfl (by intro w hSw; obtain ⟨⟨g0, g1⟩, h0, h1⟩ := HK.out _ hSw; go_simp <;> with_reducible rfl) hHeld ?_; simp only [pqZ]
      refine wpAnyH_done (by kernel_rfl) ?_ _
      have hB2 := since_step hB hHeld
      cases q with
      | true =>
        go_wp2_with fail
        go_roundw
        case rel => exact ⟨k + 1, by go_num, by omega, by simpa using HXq.out, hB2⟩
        case measure => simp [intOf]; omega
      | false =>
        have hr : risingL ah l = false := by simpa using HXq.out
        have HR := Lib.hid hr
        clear hr
        go_wp2_with fail
        go_ret
        exact ⟨retB HR.out.symm, hB2⟩
    · have hrt : risingL ah l = true := (risingL_iff ah l).2 fun j hj => hno j hj (by omega)
      have HR := Lib.hid hrt
      have hge : ¬ ((k : Int) + 1 < (l.length : Int)) := by omega
      clear hno hrt
      go_wp2_with fail
      go_ret
      exact ⟨retB HR.out.symm, hB⟩
end
section
theorem own_kept_types {w w' : World} {B B' e e' s s' : Nat} {v v' : Value} {n n' : Nat} {xs ys : List Value} (hne : e ≠ e') (h : w.ownsRow B e s v n xs) (ho : w.ownsRow B' e' s' v' n' ys) (hg : w.grownBy w' v'.ownBlock) : w'.ownsRow B e s v n xs := by
  refine h.kept hg ?_
  rcases h.2 with ⟨rfl, _⟩ | ⟨g, cap, cur, rfl, _, hh, _⟩
  · exact .inl rfl
  · right
    rcases ho.2 with ⟨rfl, _⟩ | ⟨g', cap', cur', rfl, _, hh', _⟩
    · simp [Value.ownBlock]
    · simp only [Value.ownBlock, ne_eq, Option.some.injEq]
      intro e
      subst e
      rw [hh] at hh'
      injection hh' with hh'
      injection hh' with _ e
      exact absurd e hne
theorem own_setFar' {w : World} {B e size n : Nat} {v : Value} {xs : List Value} (h : w.ownsRow B e size v n xs) {p : Addr} (hp : p.block < B) (u : Value) : (w.setCell p u).ownsRow B e size v n xs := by
  obtain ⟨h1, h2⟩ := h
  refine ⟨h1, ?_⟩
  rcases h2 with h2 | ⟨g, cap, cur, hv, hg, hh, hr⟩
  · exact .inl h2
  · refine .inr ⟨g, cap, cur, hv, hg, ?_, hr⟩
    have hne : p.block ≠ g := by omega
    rw [← hh]
    unfold World.setCell
    simp [Array.getElem?_modify, hne]
end
end Go.Proofs.YtmjndpkfhdoljaaGreat
