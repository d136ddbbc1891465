import Derived.Test.YtmjndpkfhdoljaaGreatCm35
import Derived.Deep.DeepCutAuto
import Derived.Deep.RegionHeld3
import Derived.Test.YtmjndpkfhdoljaaGreatCm02
import Derived.Test.YtmjndpkfhdoljaaGreatCm04
import Derived.Test.YtmjndpkfhdoljaaGreatCm26
import Derived.Test.YtmjndpkfhdoljaaGreatCm31
import Derived.Test.YtmjndpkfhdoljaaGreatCm12
import Derived.Test.YtmjndpkfhdoljaaGreatCm19
set_option maxHeartbeats 16000000
set_option maxRecDepth 100000
set_option linter.unusedVariables false
set_option linter.unusedSimpArgs false
namespace Go.Proofs.YtmjndpkfhdoljaaGreat
open Go.ChangeShapes Go.WideShapes Go.ChangeAt Go.RowKit
section
theorem find_hd (A : Option Addr) (cap : Nat) (l : List Hd) (F : Nat) (caps : Array Value) (p : Hd → Bool) (w : World) (hl : l.length ≤ 1000000) (hs : Sl w A (rc Hd.cells l)) (hF : Ent Tryz.prog F) (hp : Hd.Tells F caps p w.heap.size w) :
    Calls Tryz.prog 60 #[.slice A l.length cap, .func (.func F) #[] caps] w fun e w' =>
      e = .returned (.tuple #[(pickL p Hd.zero l).val, .bool (l.find? p).isSome]) ∧ Below w.heap.size w w' := by
  have hB0 := since_alloc (Below.refl w.heap.size w) (.cells #[.int .i64 0, .int .i64 0, .slice none 0 0] 98)
  have hidx := index_hd A cap l F caps p (w.alloc (.cells #[.int .i64 0, .int .i64 0, .slice none 0 0] 98)) hl (hs.alloc _) hF (hp.below hB0 (by simp))
  have Bz := Bk.new w #[.int .i64 0, .int .i64 0, .slice none 0 0] 98
  rcases atL_cases p l with ⟨h0, hno⟩ | ⟨k, hk, h0, hpk, hno⟩
  · rw [h0] at hidx
    have HF1 := Lib.hid (find_none hno)
    clear hno h0
    go_enter Tryz.func60, Tryz.ntmps60
    go_wp2_with fail
    refine hidx.mono ?_
    rintro e w1 ⟨rfl, hb1⟩
    have hB1 := since_step hB0 hb1
    have Bz := Bz.below hb1
    obtain ⟨lb, cb⟩ := id Bz
    have q0 := cb 0
    have q1 := cb 1
    have q2 := cb 2
    simp at q0 q1 q2
    clear cb
    have hfz : ∀ i, w1.frozen? ⟨w.heap.size, i, none⟩ = false := fun i => by rw [(hb1.frozen (p := ⟨w.heap.size, i, none⟩) (by simp))]; simp
    have hcs := @cell_set
    clear hb1 Bz hidx
    go_wp2_with fail
    refine bodyPost_ret (v := .tuple #[Hd.zero.val, .bool false]) ?_ rfl ⟨?_, ?_⟩
    · have hca : ∀ (V : World) (o : Obj) (i : Nat), w.heap.size < V.heap.size → (V.alloc o).cell? ⟨w.heap.size, i, none⟩ = V.cell? ⟨w.heap.size, i, none⟩ := fun V o i h => World.cell?_alloc_lt V o ⟨w.heap.size, i, none⟩ h
      simp [results, Tryz.results60, go_sem, q0, q1, q2, hfz, Hd.zero, Hd.val, hca, lb]
    · rw [pickL, HF1.out]; rfl
    · repeat' (first | with_reducible exact hB1 | with_reducible refine Below.setCell ?_ ?_ _ | with_reducible refine Below.alloc ?_ ?_ _)
      all_goals first | (simp; done) | (simp; omega)
  · rw [h0] at hidx
    have HF1 := Lib.hid (find_some hk hno hpk)
    clear hno h0 hpk
    go_enter Tryz.func60, Tryz.ntmps60
    go_wp2_with fail
    refine hidx.mono ?_
    rintro e w1 ⟨rfl, hb1⟩
    have hB1 := since_step hB0 hb1
    have Bz := Bz.below hb1
    obtain ⟨lb, cb⟩ := id Bz
    have q0 := cb 0
    have q1 := cb 1
    have q2 := cb 2
    simp at q0 q1 q2
    clear cb
    have hfz : ∀ i, w1.frozen? ⟨w.heap.size, i, none⟩ = false := fun i => by rw [(hb1.frozen (p := ⟨w.heap.size, i, none⟩) (by simp))]; simp
    have hcs := @cell_set
    obtain ⟨b, o, rfl, hbw, hgat⟩ := ((hs.alloc (.cells #[.int .i64 0, .int .i64 0, .slice none 0 0] 98)).below hb1).hd hk
    clear hb1 Bz hidx hs
    generalize l[k] = g at *
    obtain ⟨g0, g1, g2⟩ := hgat
    go_wp2_with fail
    refine bodyPost_ret (v := .tuple #[g.val, .bool true]) ?_ rfl ⟨?_, ?_⟩
    · simp [results, Tryz.results60, go_sem, q0, q1, q2, hfz, Hd.val]
    · rw [pickL, HF1.out]; rfl
    · repeat' (first | with_reducible exact hB1 | with_reducible refine Below.setCell ?_ ?_ _ | with_reducible refine Below.alloc ?_ ?_ _)
      all_goals first | (simp; done) | (simp; omega)
end
section
def Hd.Tells2 (F : Nat) (caps : Array Value) (ah : Hd → Hd → Bool) (B : Nat) (w : World) : Prop :=
  ∀ (a b : Hd) (W : World), Below B w W → Calls Tryz.prog F (#[a.val, b.val] ++ caps) W fun e w' => e = .returned (.bool (ah a b)) ∧ Below W.heap.size W w'
theorem Hd.Tells2.below {F : Nat} {caps : Array Value} {ah : Hd → Hd → Bool} {B : Nat} {w w1 : World} (h : Hd.Tells2 F caps ah B w) (hb : Below B w w1) {C : Nat} (hC : B ≤ C) : Hd.Tells2 F caps ah C w1 :=
  fun a b W hW => h a b W (hb.trans (hW.mono hC))
structure Hd.Bx (w : World) (b : Nat) (g : Hd) : Prop where
  lt : b < w.heap.size
  at_ : g.at w b 0
  hp : w.heap[b]? = some (.cells g.cells.toArray 98 (0, 0))
theorem Hd.Bx.new (w : World) (g : Hd) : Hd.Bx (w.alloc (.cells g.cells.toArray 98)) w.heap.size g := by
  have h := heap_alloc_new w (.cells g.cells.toArray 98 (0, 0))
  refine ⟨by simp, Hd.at_of fun j u hu => ?_, h⟩
  rw [Nat.zero_add, cell_of_row _ _ j g.cells.toArray 98 (0, 0) h]
  simpa using hu
theorem Hd.Bx.below {w w' : World} {b : Nat} {g : Hd} (h : Hd.Bx w b g) (hb : Below w.heap.size w w') : Hd.Bx w' b g :=
  ⟨Nat.lt_of_lt_of_le h.lt hb.size, Hd.at_keep h.at_ fun i => hb.cell (p := ⟨b, i, none⟩) h.lt, (hb.block b h.lt).trans h.hp⟩
theorem Hd.Bx.sl {w : World} {b : Nat} {g : Hd} (h : Hd.Bx w b g) : Sl w (some ⟨b, 0, none⟩) g.cells := by
  intro _
  refine ⟨b, 0, rfl, fun j u hu => ?_⟩
  rw [Nat.zero_add, cell_of_row _ _ j g.cells.toArray 98 (0, 0) h.hp]
  simpa using hu
theorem Hd.Bx.got {w : World} {b : Nat} {g : Hd} (h : Hd.Bx w b g) : w.cell? ⟨b, 0, none⟩ = some (.int .i64 g.ac) ∧ w.cell? ⟨b, 1, none⟩ = some (.int .i64 g.cl) ∧ w.cell? ⟨b, 2, none⟩ = some (.slice g.lt g.ltL g.ltC) := by
  have := h.at_
  unfold Hd.at at this
  simpa only [Nat.zero_add] using this
theorem rising_hd (A : Option Addr) (cap : Nat) (l : List Hd) (F : Nat) (caps : Array Value) (ah : Hd → Hd → Bool) (w : World) (hl : l.length ≤ 1000000) (hs : Sl w A (rc Hd.cells l)) (hF : Ent Tryz.prog F) (hp : Hd.Tells2 F caps ah w.heap.size w) :
    Calls Tryz.prog 54 #[.slice A l.length cap, .func (.func F) #[] caps] w fun e w' => e = .returned (.bool (risingL ah l)) ∧ Below w.heap.size w w' := by
  go_enter Tryz.func54, Tryz.ntmps54
  go_wp2_with fail
  go_loopw [5] (fun i wr => ∃ k : Nat, i = .int .i64 ((k : Int) + 1) ∧ (k ≤ l.length) ∧ (∀ j, (hj : j + 1 < l.length) → j < k → ah (l[j]'(by omega)) l[j + 1] = true) ∧ Below w.heap.size w wr) (fun i _ => l.length + 1 - (intOf i).toNat)
  case atStart => exact ⟨0, by first | rfl | go_num, by omega, fun j hj h => absurd h (by omega), Below.refl _ _⟩
  case round =>
    obtain ⟨k, rfl, hk, hno, hB⟩ := hrel
    by_cases hlt2 : k + 1 < l.length
    · have hkl : k < l.length := by omega
      obtain ⟨b, o, rfl, hbw, hg⟩ := hs.hd hkl
      obtain ⟨b', o', e, hbw', hg'⟩ := hs.hd hlt2
      injection e with e
      injection e with e1 e2 e3
      subst e1; subst e2
      have hg1 : l[k].at wr b (o + k * 3) := Hd.at_keep (w := w) hg fun i => hB.cell (p := ⟨b, i, none⟩) hbw
      have hg2 : l[k + 1].at wr b (o + (k + 1) * 3) := Hd.at_keep (w := w) hg' fun i => hB.cell (p := ⟨b, i, none⟩) hbw
      have HG1 := Lib.hid hg1
      have HG2 := Lib.hid hg2
      have hbr : b < wr.heap.size := Nat.lt_of_lt_of_le hbw hB.size
      have HK : Hid (∀ V, Below wr.heap.size wr V → l[k].at V b (o + k * 3) ∧ l[k + 1].at V b (o + (k + 1) * 3)) := Lib.hid fun V hV =>
        ⟨Hd.at_keep (w := wr) HG1.out fun i => hV.cell (p := ⟨b, i, none⟩) hbr, Hd.at_keep (w := wr) HG2.out fun i => hV.cell (p := ⟨b, i, none⟩) hbr⟩
      have HP : Hid (∀ V, Below wr.heap.size wr V → _) := Lib.hid fun V hV => hp l[k] l[k + 1] V (since_step hB hV)
      obtain ⟨q, hq⟩ : ∃ q, ah l[k] l[k + 1] = q := ⟨_, rfl⟩
      have HXq : Hid (if q then (∀ j, (hj : j + 1 < l.length) → j < k + 1 → ah (l[j]'(by omega)) l[j + 1] = true) else risingL ah l = false) := Lib.hid (by
        cases q with
        | true =>
          intro j hj hjk
          rcases Nat.lt_or_ge j k with h | h
          · exact hno j hj h
          · obtain rfl : j = k := by omega
            exact hq
        | false => exact risingL_false hlt2 hq)
      have HQ := Lib.hid hq
      clear hno hp hg hg' hg1 hg2 HG1 HG2 hq
      generalize l[k] = ga at HK HP HQ
      generalize l[k + 1] = gb at HK HP HQ
      have hw0 : IntKind.i64.wrap (k : Int) = (k : Int) := by rw [IntKind.wrap_i64]; omega
      have hw2 : IntKind.i64.wrap ((k : Int) + 1 + 1) = (k : Int) + 1 + 1 := by rw [IntKind.wrap_i64]; omega
      have hn0 : (0 : Int) ≤ (k : Int) := by omega
      have hn1 : (0 : Int) ≤ (k : Int) + 1 := by omega
      have htn : ((k : Int) + 1).toNat = k + 1 := by omega
      have hlt3 : (k : Int) + 1 < (l.length : Int) := by omega
      clear hs hbw hbw'
      go_wp2_with fail
      refine wp_region_held_drew (S := (fun V => Below wr.heap.size wr V)) (by kernel_rfl) (by exact (Below.refl _ _).drew) (fun hHeld => ?_)
      refine tkI 0 12 rfl (by intro w hSw; obtain ⟨⟨g0, g1, g2⟩, h0, h1, h2⟩ := HK.out _ hSw; go_simp <;> with_reducible rfl) hHeld ?_; simp only [pqZ]
      refine tkI 1 13 rfl (by intro w hSw; obtain ⟨⟨g0, g1, g2⟩, h0, h1, h2⟩ := HK.out _ hSw; go_simp <;> with_reducible rfl) hHeld ?_; simp only [pqZ]
      refine tkI 2 14 rfl (by intro w hSw; obtain ⟨⟨g0, g1, g2⟩, h0, h1, h2⟩ := HK.out _ hSw; go_simp <;> with_reducible rfl) hHeld ?_; simp only [pqZ]
      refine tkI 3 15 rfl (by intro w hSw; obtain ⟨⟨g0, g1, g2⟩, h0, h1, h2⟩ := HK.out _ hSw; go_simp <;> with_reducible rfl) hHeld ?_; simp only [pqZ]
      refine tkI 4 16 rfl (by intro w hSw; obtain ⟨⟨g0, g1, g2⟩, h0, h1, h2⟩ := HK.out _ hSw; go_simp <;> with_reducible rfl) hHeld ?_; simp only [pqZ]
      refine tkI 5 17 rfl (by intro w hSw; obtain ⟨⟨g0, g1, g2⟩, h0, h1, h2⟩ := HK.out _ hSw; go_simp <;> with_reducible rfl) hHeld ?_; simp only [pqZ]
      refine tkI 6 18 rfl (by intro w hSw; obtain ⟨⟨g0, g1, g2⟩, h0, h1, h2⟩ := HK.out _ hSw; go_simp <;> with_reducible rfl) hHeld ?_; simp only [pqZ]
      refine tkI 7 19 rfl (by intro w hSw; obtain ⟨⟨g0, g1, g2⟩, h0, h1, h2⟩ := HK.out _ hSw; go_simp <;> with_reducible rfl) hHeld ?_; simp only [pqZ]
      refine tkI 8 20 rfl (by intro w hSw; obtain ⟨⟨g0, g1, g2⟩, h0, h1, h2⟩ := HK.out _ hSw; go_simp <;> with_reducible rfl) hHeld ?_; simp only [pqZ]
      refine tkI 9 21 rfl (by intro w hSw; obtain ⟨⟨g0, g1, g2⟩, h0, h1, h2⟩ := HK.out _ hSw; go_simp <;> with_reducible rfl) hHeld ?_; simp only [pqZ]
      refine rdZ 10 22 rfl (by kernel_rfl) (fun K hK => ?_)
      go_simp
      rw [hF, Oper.upon_enter]
      refine (HP.out _ hHeld).mono ?_
      rintro e u1 ⟨rfl, hk1⟩
      have hKeep := since_step hHeld hk1
      rw [HQ.out]
      go_wp2_with fail
      refine hK.out _ _ (by (try dsimp only); exact hKeep) (fun hHeld => ?_); clear hK K hKeep; try simp only [pqZ]
      refine tkI 11 23 rfl (by intro w hSw; obtain ⟨⟨g0, g1, g2⟩, h0, h1, h2⟩ := HK.out _ hSw; go_simp <;> with_reducible rfl) hHeld ?_; simp only [pqZ]
      refine wpAnyH_done (by kernel_rfl) ?_ _
      have hB2 := since_step hB hHeld
      cases q with
      | true =>
        go_wp2_with fail
        go_roundw
        case rel => exact ⟨k + 1, by go_num, by omega, by simpa using HXq.out, hB2⟩
        case measure => simp [intOf]; omega
      | false =>
        have hr : risingL ah l = false := by simpa using HXq.out
        have HR := Lib.hid hr
        clear hr
        go_wp2_with fail
        go_ret
        exact ⟨retB HR.out.symm, hB2⟩
    · have hrt : risingL ah l = true := (risingL_iff ah l).2 fun j hj => hno j hj (by omega)
      have HR := Lib.hid hrt
      have hge : ¬ ((k : Int) + 1 < (l.length : Int)) := by omega
      clear hno hrt
      go_wp2_with fail
      go_ret
      exact ⟨retB HR.out.symm, hB⟩
end
section
structure Hc where
  ac : Int
  cl : Int
  L : List Lt
deriving DecidableEq
structure HdIs (w : World) (g : Hd) (c : Hc) : Prop where
  ac : g.ac = c.ac
  cl : g.cl = c.cl
  len : g.ltL = c.L.length
  sl : Sl w g.lt (rc Lt.cells c.L)
theorem HdIs.below {w w' : World} {g : Hd} {c : Hc} (h : HdIs w g c) (hb : Below w.heap.size w w') : HdIs w' g c := ⟨h.ac, h.cl, h.len, h.sl.below hb⟩
def HdTab (w : World) (l : List Hd) (cs : List Hc) : Prop := l.length = cs.length ∧ ∀ i, (h : i < l.length) → (h2 : i < cs.length) → HdIs w l[i] cs[i]
theorem HdTab.below {w w' : World} {l : List Hd} {cs : List Hc} (h : HdTab w l cs) (hb : Below w.heap.size w w') : HdTab w' l cs := ⟨h.1, fun i h1 h2 => (h.2 i h1 h2).below hb⟩
theorem HdTab.nil (w : World) : HdTab w [] [] := ⟨rfl, fun i h => by simp at h⟩
theorem HdTab.cons {w : World} {g : Hd} {c : Hc} {l : List Hd} {cs : List Hc} : HdTab w (g :: l) (c :: cs) ↔ HdIs w g c ∧ HdTab w l cs := by
  constructor
  · rintro ⟨h1, h2⟩
    exact ⟨h2 0 (by simp) (by simp), by simpa using h1, fun i a b => h2 (i + 1) (by simpa using a) (by simpa using b)⟩
  · rintro ⟨h0, h1, h2⟩
    refine ⟨by simpa using h1, fun i a b => ?_⟩
    cases i with
    | zero => exact h0
    | succ i => exact h2 i (by simpa using a) (by simpa using b)
theorem HdTab.app {w : World} {l : List Hd} {cs : List Hc} {g : Hd} {c : Hc} (h : HdTab w l cs) (hg : HdIs w g c) : HdTab w (l ++ [g]) (cs ++ [c]) := by
  refine ⟨by simp [h.1], fun i h1 h2 => ?_⟩
  have hl := h.1
  rcases Nat.lt_or_ge i l.length with hi | hi
  · rw [List.getElem_append_left hi, List.getElem_append_left (by omega)]; exact h.2 i hi (by omega)
  · have : i = l.length := by simp at h1; omega
    subst this
    simp [hl]
    exact hg
theorem HdTab.append {w : World} : ∀ {l m : List Hd} {cs ds : List Hc}, HdTab w l cs → HdTab w m ds → HdTab w (l ++ m) (cs ++ ds)
  | [], m, [], ds, _, h => h
  | [], _, _ :: _, _, h, _ => by have := h.1; simp at this
  | _ :: _, _, [], _, h, _ => by have := h.1; simp at this
  | a :: l, m, d :: cs, ds, h, k => by
    obtain ⟨h1, h2⟩ := HdTab.cons.1 h
    exact HdTab.cons.2 ⟨h1, HdTab.append h2 k⟩
theorem HdTab.take {w : World} {l : List Hd} {cs : List Hc} (h : HdTab w l cs) (k : Nat) : HdTab w (l.take k) (cs.take k) := by
  refine ⟨by simp [h.1], fun i h1 h2 => ?_⟩
  rw [List.getElem_take, List.getElem_take]
  exact h.2 i (by simp at h1; omega) (by simp at h2; omega)
theorem HdTab.drop {w : World} {l : List Hd} {cs : List Hc} (h : HdTab w l cs) (k : Nat) : HdTab w (l.drop k) (cs.drop k) := by
  refine ⟨by simp [h.1], fun i h1 h2 => ?_⟩
  rw [List.getElem_drop, List.getElem_drop]
  exact h.2 _ (by simp at h1; omega) (by simp at h2; omega)
theorem HdTab.filter {w : World} {p : Hd → Bool} {q : Hc → Bool} (hpq : ∀ g c, HdIs w g c → p g = q c) : ∀ {l : List Hd} {cs : List Hc}, HdTab w l cs → HdTab w (l.filter p) (cs.filter q)
  | [], [], _ => HdTab.nil w
  | [], _ :: _, h => by have := h.1; simp at this
  | _ :: _, [], h => by have := h.1; simp at this
  | a :: l, d :: cs, h => by
    obtain ⟨h1, h2⟩ := HdTab.cons.1 h
    rw [List.filter_cons, List.filter_cons, hpq a d h1]
    split
    · exact HdTab.cons.2 ⟨h1, HdTab.filter hpq h2⟩
    · exact HdTab.filter hpq h2
theorem HdTab.put {w : World} {g : Hd} {c : Hc} {ah : Hd → Hd → Bool} {ac : Hc → Hc → Bool} (hah : ∀ g c g' c', HdIs w g c → HdIs w g' c' → ah g g' = ac c c') (hg : HdIs w g c) : ∀ {l : List Hd} {cs : List Hc}, HdTab w l cs → HdTab w (putR ah l g) (putR ac cs c)
  | [], [], _ => HdTab.cons.2 ⟨hg, HdTab.nil w⟩
  | [], _ :: _, h => by have := h.1; simp at this
  | _ :: _, [], h => by have := h.1; simp at this
  | a :: l, d :: cs, h => by
    obtain ⟨h1, h2⟩ := HdTab.cons.1 h
    unfold putR
    rw [hah a d g c h1 hg, hah g c a d hg h1]
    split
    · exact HdTab.cons.2 ⟨h1, HdTab.put hah hg h2⟩
    · split
      · exact HdTab.cons.2 ⟨hg, HdTab.cons.2 ⟨h1, h2⟩⟩
      · exact HdTab.cons.2 ⟨hg, h2⟩
theorem HdTab.set {w : World} {l : List Hd} {cs : List Hc} {g : Hd} {c : Hc} (h : HdTab w l cs) (hg : HdIs w g c) (k : Nat) : HdTab w (l.set k g) (cs.set k c) := by
  refine ⟨by simp [h.1], fun i h1 h2 => ?_⟩
  rw [List.getElem_set, List.getElem_set]
  split
  · exact hg
  · exact h.2 i (by simpa using h1) (by simpa using h2)
theorem HdTab.find {w : World} {p : Hd → Bool} {q : Hc → Bool} (hpq : ∀ g c, HdIs w g c → p g = q c) : ∀ {l : List Hd} {cs : List Hc}, HdTab w l cs → (l.find? p = none ∧ cs.find? q = none) ∨ (∃ g c, l.find? p = some g ∧ cs.find? q = some c ∧ HdIs w g c)
  | [], [], _ => .inl ⟨rfl, rfl⟩
  | [], _ :: _, h => by have := h.1; simp at this
  | _ :: _, [], h => by have := h.1; simp at this
  | a :: l, d :: cs, h => by
    obtain ⟨h1, h2⟩ := HdTab.cons.1 h
    rw [List.find?_cons, List.find?_cons, hpq a d h1]
    cases q d with
    | true => exact .inr ⟨a, d, rfl, rfl, h1⟩
    | false => exact HdTab.find hpq h2
theorem HdTab.rising {w : World} {ah : Hd → Hd → Bool} {ac : Hc → Hc → Bool} (hah : ∀ g c g' c', HdIs w g c → HdIs w g' c' → ah g g' = ac c c') : ∀ {l : List Hd} {cs : List Hc}, HdTab w l cs → risingL ah l = risingL ac cs
  | [], [], _ => rfl
  | [], _ :: _, h => by have := h.1; simp at this
  | _ :: _, [], h => by have := h.1; simp at this
  | [a], [d], h => rfl
  | [a], _ :: _ :: _, h => by have := h.1; simp at this
  | _ :: _ :: _, [d], h => by have := h.1; simp at this
  | a :: b :: l, d :: e :: cs, h => by
    obtain ⟨h1, h2⟩ := HdTab.cons.1 h
    obtain ⟨h3, h4⟩ := HdTab.cons.1 h2
    simp only [risingL]
    rw [hah a d b e h1 h3, HdTab.rising hah h2]
structure HdOwn (B : Nat) (w : World) (g : Hd) (c : Hc) : Prop where
  ac : g.ac = c.ac
  cl : g.cl = c.cl
  len : g.ltL = c.L.length
  own : w.ownsRow B 33 3 (.slice g.lt c.L.length g.ltC) c.L.length (rc Lt.cells c.L)
theorem HdOwn.is {B : Nat} {w : World} {g : Hd} {c : Hc} (h : HdOwn B w g c) : HdIs w g c := ⟨h.ac, h.cl, h.len, Sl.of_own h.own⟩
theorem HdOwn.below {B : Nat} {w w' : World} {g : Hd} {c : Hc} (h : HdOwn B w g c) (hb : Below w.heap.size w w') : HdOwn B w' g c := ⟨h.ac, h.cl, h.len, own_below h.own hb⟩
theorem own_kept_hd {w w' : World} {B B' : Nat} {v v' : Value} {n n' : Nat} {xs ys : List Value} (h : w.ownsRow B 33 3 v n xs) (ho : w.ownsRow B' 98 3 v' n' ys) (hg : w.grownBy w' v'.ownBlock) : w'.ownsRow B 33 3 v n xs := own_kept_types (by decide) h ho hg
theorem HdOwn.kept {w w' : World} {B B' : Nat} {g : Hd} {c : Hc} {v' : Value} {n' : Nat} {ys : List Value} (h : HdOwn B w g c) (ho : w.ownsRow B' 98 3 v' n' ys) (hg : w.grownBy w' v'.ownBlock) : HdOwn B w' g c := ⟨h.ac, h.cl, h.len, own_kept_hd h.own ho hg⟩
def HdOTab (B : Nat) (w : World) (l : List Hd) (cs : List Hc) : Prop := l.length = cs.length ∧ ∀ i, (h : i < l.length) → (h2 : i < cs.length) → HdOwn B w l[i] cs[i]
theorem HdOTab.tab {B : Nat} {w : World} {l : List Hd} {cs : List Hc} (h : HdOTab B w l cs) : HdTab w l cs := ⟨h.1, fun i h1 h2 => (h.2 i h1 h2).is⟩
theorem HdOTab.below {B : Nat} {w w' : World} {l : List Hd} {cs : List Hc} (h : HdOTab B w l cs) (hb : Below w.heap.size w w') : HdOTab B w' l cs := ⟨h.1, fun i h1 h2 => (h.2 i h1 h2).below hb⟩
theorem HdOTab.kept {w w' : World} {B B' : Nat} {l : List Hd} {cs : List Hc} {v' : Value} {n' : Nat} {ys : List Value} (h : HdOTab B w l cs) (ho : w.ownsRow B' 98 3 v' n' ys) (hg : w.grownBy w' v'.ownBlock) : HdOTab B w' l cs := ⟨h.1, fun i h1 h2 => (h.2 i h1 h2).kept ho hg⟩
theorem HdOTab.app {B : Nat} {w : World} {l : List Hd} {cs : List Hc} {g : Hd} {c : Hc} (h : HdOTab B w l cs) (hg : HdOwn B w g c) : HdOTab B w (l ++ [g]) (cs ++ [c]) := by
  refine ⟨by simp [h.1], fun i h1 h2 => ?_⟩
  have hl := h.1
  rcases Nat.lt_or_ge i l.length with hi | hi
  · rw [List.getElem_append_left hi, List.getElem_append_left (by omega)]; exact h.2 i hi (by omega)
  · have : i = l.length := by simp at h1; omega
    subst this
    simp [hl]
    exact hg
structure BzHd (w : World) (b : Nat) : Prop where
  bk : Bk w b #[.int .i64 0, .int .i64 0, .slice none 0 0]
  fz : ∀ i, w.frozen? ⟨b, i, none⟩ = false
theorem BzHd.new (w : World) : BzHd (w.alloc (.cells #[.int .i64 0, .int .i64 0, .slice none 0 0] 98)) w.heap.size := ⟨Bk.new w _ _, fun i => by simp⟩
theorem BzHd.below {w w' : World} {b : Nat} (h : BzHd w b) (hb : Below w.heap.size w w') : BzHd w' b := ⟨h.bk.below hb, fun i => by rw [hb.frozen (p := ⟨b, i, none⟩) h.bk.1]; exact h.fz i⟩
theorem BzHd.got {w : World} {b : Nat} (h : BzHd w b) : w.cell? ⟨b, 0, none⟩ = some (.int .i64 0) ∧ w.cell? ⟨b, 1, none⟩ = some (.int .i64 0) ∧ w.cell? ⟨b, 2, none⟩ = some (.slice none 0 0) := by
  have h1 := h.bk.2
  exact ⟨h1 0, h1 1, h1 2⟩
structure AfHd (w : World) (b : Nat) (g : Hd) : Prop where
  bx : Hd.Bx w b g
  fz : ∀ i, w.frozen? ⟨b, i, none⟩ = false
theorem AfHd.below {w w' : World} {b : Nat} {g : Hd} (h : AfHd w b g) (hb : Below w.heap.size w w') : AfHd w' b g := ⟨h.bx.below hb, fun i => by rw [hb.frozen (p := ⟨b, i, none⟩) h.bx.lt]; exact h.fz i⟩
end
section
section
variable {P : Program} {w : World}
end
def Apart_Lots10 (v u : Value) : Prop := ∀ g, v.ownBlock = some g → u.ownBlock ≠ some g
theorem Apart_Lots10.symm {v u : Value} (h : Apart_Lots10 v u) : Apart_Lots10 u v := fun g h1 h2 => h g h2 h1
theorem Apart_Lots10.none (u : Value) : Apart_Lots10 (.slice none 0 0) u := fun g h => by simp [Value.ownBlock] at h
theorem Apart_Lots10.grow {w : World} {base e size n : Nat} {v v' u : Value} {xs : List Value} (h : Apart_Lots10 v u) (hu : w.ownsRow base e size u n xs) (hv : v'.ownBlock = v.ownBlock ∨ v'.ownBlock = some w.heap.size) : Apart_Lots10 v' u := by
  intro g h1 h2
  rcases hv with hv | hv
  · exact h g (hv ▸ h1) h2
  · rw [hv] at h1
    injection h1 with h1
    subst h1
    rcases hu.2 with ⟨rfl, _⟩ | ⟨g', cap, cur, rfl, _, hh, _⟩
    · simp [Value.ownBlock] at h2
    · simp only [Value.ownBlock, Option.some.injEq] at h2
      subst h2
      rw [Array.getElem?_eq_none (Nat.le_refl _)] at hh
      cases hh
end
section
theorem Lt.Bx.far {w : World} {b : Nat} {g : Lt} (h : Lt.Bx w b g) {p : Addr} (hp : p.block ≠ b) (v : Value) : Lt.Bx (w.setCell p v) b g := by
  obtain ⟨h0, h1, h2⟩ := h
  refine ⟨by simpa using h0, ?_, ?_⟩
  · exact Lt.at_keep h1 fun i => by rw [cell_set, if_neg (fun e => hp (by rw [e]))]
  · rw [Below.heap_setCell _ _ _ _ (fun e => hp e.symm)]; exact h2
theorem Lt.Bx.grown {w w' : World} {b base n : Nat} {g : Lt} {v : Value} {xs : List Value} (h : Lt.Bx w b g) (o : Obj) (hv : w.ownsRow base 33 3 v n xs) (hg : (w.alloc o).grownBy w' v.ownBlock) (hne : v.ownBlock ≠ some b) : Lt.Bx w' b g := by
  have h1 := h.below ((Below.refl _ _).alloc (Nat.le_refl _) o)
  have hk := hg.block b h1.lt (fun e => hne e.symm)
  exact ⟨Nat.lt_of_lt_of_le h1.lt hg.size, Lt.at_keep h1.at_ fun i => World.cell?_of_block (a := ⟨b, i, none⟩) hk, hk.trans h1.hp⟩
end
end Go.Proofs.YtmjndpkfhdoljaaGreat
