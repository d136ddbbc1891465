import Derived.Test.YtmjndpkfhdoljaaGreatCm02
import Derived.Test.YtmjndpkfhdoljaaGreatCm04
import Derived.Deep.RegionLaw
import Derived.Lib.SliceRun
import Derived.Test.YtmjndpkfhdoljaaGreatCm01
import Derived.Deep.DeepCutAuto
import Derived.Deep.RegionHeld3
set_option maxHeartbeats 16000000
set_option maxRecDepth 100000
set_option linter.unusedVariables false
set_option linter.unusedSimpArgs false
namespace Go.Proofs.YtmjndpkfhdoljaaGreat
open Go.ChangeShapes Go.WideShapes Go.ChangeAt Go.RowKit
section
structure Pc where
  ac : Int
  cl : Int
  L : List Lg
deriving DecidableEq
structure PoIs (w : World) (g : Po) (c : Pc) : Prop where
  ac : g.ac = c.ac
  cl : g.cl = c.cl
  len : g.lgL = c.L.length
  sl : Sl w g.lg (rc Lg.cells c.L)
theorem PoIs.below {w w' : World} {g : Po} {c : Pc} (h : PoIs w g c) (hb : Below w.heap.size w w') : PoIs w' g c := ⟨h.ac, h.cl, h.len, h.sl.below hb⟩
def PoTab (w : World) (l : List Po) (cs : List Pc) : Prop := l.length = cs.length ∧ ∀ i, (h : i < l.length) → (h2 : i < cs.length) → PoIs w l[i] cs[i]
theorem PoTab.below {w w' : World} {l : List Po} {cs : List Pc} (h : PoTab w l cs) (hb : Below w.heap.size w w') : PoTab w' l cs := ⟨h.1, fun i h1 h2 => (h.2 i h1 h2).below hb⟩
theorem PoTab.nil (w : World) : PoTab w [] [] := ⟨rfl, fun i h => by simp at h⟩
theorem PoTab.cons {w : World} {g : Po} {c : Pc} {l : List Po} {cs : List Pc} : PoTab w (g :: l) (c :: cs) ↔ PoIs w g c ∧ PoTab w l cs := by
  constructor
  · rintro ⟨h1, h2⟩
    exact ⟨h2 0 (by simp) (by simp), by simpa using h1, fun i a b => h2 (i + 1) (by simpa using a) (by simpa using b)⟩
  · rintro ⟨h0, h1, h2⟩
    refine ⟨by simpa using h1, fun i a b => ?_⟩
    cases i with
    | zero => exact h0
    | succ i => exact h2 i (by simpa using a) (by simpa using b)
theorem PoTab.app {w : World} {l : List Po} {cs : List Pc} {g : Po} {c : Pc} (h : PoTab w l cs) (hg : PoIs w g c) : PoTab w (l ++ [g]) (cs ++ [c]) := by
  refine ⟨by simp [h.1], fun i h1 h2 => ?_⟩
  have hl := h.1
  rcases Nat.lt_or_ge i l.length with hi | hi
  · rw [List.getElem_append_left hi, List.getElem_append_left (by omega)]; exact h.2 i hi (by omega)
  · have : i = l.length := by simp at h1; omega
    subst this
    simp [hl]
    exact hg
theorem PoTab.append {w : World} : ∀ {l m : List Po} {cs ds : List Pc}, PoTab w l cs → PoTab w m ds → PoTab w (l ++ m) (cs ++ ds)
  | [], m, [], ds, _, h => h
  | [], _, _ :: _, _, h, _ => by have := h.1; simp at this
  | _ :: _, _, [], _, h, _ => by have := h.1; simp at this
  | a :: l, m, d :: cs, ds, h, k => by
    obtain ⟨h1, h2⟩ := PoTab.cons.1 h
    exact PoTab.cons.2 ⟨h1, PoTab.append h2 k⟩
theorem PoTab.take {w : World} {l : List Po} {cs : List Pc} (h : PoTab w l cs) (k : Nat) : PoTab w (l.take k) (cs.take k) := by
  refine ⟨by simp [h.1], fun i h1 h2 => ?_⟩
  rw [List.getElem_take, List.getElem_take]
  exact h.2 i (by simp at h1; omega) (by simp at h2; omega)
theorem PoTab.drop {w : World} {l : List Po} {cs : List Pc} (h : PoTab w l cs) (k : Nat) : PoTab w (l.drop k) (cs.drop k) := by
  refine ⟨by simp [h.1], fun i h1 h2 => ?_⟩
  rw [List.getElem_drop, List.getElem_drop]
  exact h.2 _ (by simp at h1; omega) (by simp at h2; omega)
theorem PoTab.filter {w : World} {p : Po → Bool} {q : Pc → Bool} (hpq : ∀ g c, PoIs w g c → p g = q c) : ∀ {l : List Po} {cs : List Pc}, PoTab w l cs → PoTab w (l.filter p) (cs.filter q)
  | [], [], _ => PoTab.nil w
  | [], _ :: _, h => by have := h.1; simp at this
  | _ :: _, [], h => by have := h.1; simp at this
  | a :: l, d :: cs, h => by
    obtain ⟨h1, h2⟩ := PoTab.cons.1 h
    rw [List.filter_cons, List.filter_cons, hpq a d h1]
    split
    · exact PoTab.cons.2 ⟨h1, PoTab.filter hpq h2⟩
    · exact PoTab.filter hpq h2
theorem PoTab.put {w : World} {g : Po} {c : Pc} {ah : Po → Po → Bool} {ac : Pc → Pc → Bool} (hah : ∀ g c g' c', PoIs w g c → PoIs w g' c' → ah g g' = ac c c') (hg : PoIs w g c) : ∀ {l : List Po} {cs : List Pc}, PoTab w l cs → PoTab w (putR ah l g) (putR ac cs c)
  | [], [], _ => PoTab.cons.2 ⟨hg, PoTab.nil w⟩
  | [], _ :: _, h => by have := h.1; simp at this
  | _ :: _, [], h => by have := h.1; simp at this
  | a :: l, d :: cs, h => by
    obtain ⟨h1, h2⟩ := PoTab.cons.1 h
    unfold putR
    rw [hah a d g c h1 hg, hah g c a d hg h1]
    split
    · exact PoTab.cons.2 ⟨h1, PoTab.put hah hg h2⟩
    · split
      · exact PoTab.cons.2 ⟨hg, PoTab.cons.2 ⟨h1, h2⟩⟩
      · exact PoTab.cons.2 ⟨hg, h2⟩
theorem PoTab.set {w : World} {l : List Po} {cs : List Pc} {g : Po} {c : Pc} (h : PoTab w l cs) (hg : PoIs w g c) (k : Nat) : PoTab w (l.set k g) (cs.set k c) := by
  refine ⟨by simp [h.1], fun i h1 h2 => ?_⟩
  rw [List.getElem_set, List.getElem_set]
  split
  · exact hg
  · exact h.2 i (by simpa using h1) (by simpa using h2)
theorem PoTab.find {w : World} {p : Po → Bool} {q : Pc → Bool} (hpq : ∀ g c, PoIs w g c → p g = q c) : ∀ {l : List Po} {cs : List Pc}, PoTab w l cs → (l.find? p = none ∧ cs.find? q = none) ∨ (∃ g c, l.find? p = some g ∧ cs.find? q = some c ∧ PoIs w g c)
  | [], [], _ => .inl ⟨rfl, rfl⟩
  | [], _ :: _, h => by have := h.1; simp at this
  | _ :: _, [], h => by have := h.1; simp at this
  | a :: l, d :: cs, h => by
    obtain ⟨h1, h2⟩ := PoTab.cons.1 h
    rw [List.find?_cons, List.find?_cons, hpq a d h1]
    cases q d with
    | true => exact .inr ⟨a, d, rfl, rfl, h1⟩
    | false => exact PoTab.find hpq h2
theorem PoTab.rising {w : World} {ah : Po → Po → Bool} {ac : Pc → Pc → Bool} (hah : ∀ g c g' c', PoIs w g c → PoIs w g' c' → ah g g' = ac c c') : ∀ {l : List Po} {cs : List Pc}, PoTab w l cs → risingL ah l = risingL ac cs
  | [], [], _ => rfl
  | [], _ :: _, h => by have := h.1; simp at this
  | _ :: _, [], h => by have := h.1; simp at this
  | [a], [d], h => rfl
  | [a], _ :: _ :: _, h => by have := h.1; simp at this
  | _ :: _ :: _, [d], h => by have := h.1; simp at this
  | a :: b :: l, d :: e :: cs, h => by
    obtain ⟨h1, h2⟩ := PoTab.cons.1 h
    obtain ⟨h3, h4⟩ := PoTab.cons.1 h2
    simp only [risingL]
    rw [hah a d b e h1 h3, PoTab.rising hah h2]
structure PoOwn (B : Nat) (w : World) (g : Po) (c : Pc) : Prop where
  ac : g.ac = c.ac
  cl : g.cl = c.cl
  len : g.lgL = c.L.length
  own : w.ownsRow B 151 2 (.slice g.lg c.L.length g.lgC) c.L.length (rc Lg.cells c.L)
theorem PoOwn.is {B : Nat} {w : World} {g : Po} {c : Pc} (h : PoOwn B w g c) : PoIs w g c := ⟨h.ac, h.cl, h.len, Sl.of_own h.own⟩
theorem PoOwn.below {B : Nat} {w w' : World} {g : Po} {c : Pc} (h : PoOwn B w g c) (hb : Below w.heap.size w w') : PoOwn B w' g c := ⟨h.ac, h.cl, h.len, own_below h.own hb⟩
theorem own_kept_po {w w' : World} {B B' : Nat} {v v' : Value} {n n' : Nat} {xs ys : List Value} (h : w.ownsRow B 151 2 v n xs) (ho : w.ownsRow B' 95 3 v' n' ys) (hg : w.grownBy w' v'.ownBlock) : w'.ownsRow B 151 2 v n xs := own_kept_types (by decide) h ho hg
theorem PoOwn.kept {w w' : World} {B B' : Nat} {g : Po} {c : Pc} {v' : Value} {n' : Nat} {ys : List Value} (h : PoOwn B w g c) (ho : w.ownsRow B' 95 3 v' n' ys) (hg : w.grownBy w' v'.ownBlock) : PoOwn B w' g c := ⟨h.ac, h.cl, h.len, own_kept_po h.own ho hg⟩
def PoOTab (B : Nat) (w : World) (l : List Po) (cs : List Pc) : Prop := l.length = cs.length ∧ ∀ i, (h : i < l.length) → (h2 : i < cs.length) → PoOwn B w l[i] cs[i]
theorem PoOTab.tab {B : Nat} {w : World} {l : List Po} {cs : List Pc} (h : PoOTab B w l cs) : PoTab w l cs := ⟨h.1, fun i h1 h2 => (h.2 i h1 h2).is⟩
theorem PoOTab.below {B : Nat} {w w' : World} {l : List Po} {cs : List Pc} (h : PoOTab B w l cs) (hb : Below w.heap.size w w') : PoOTab B w' l cs := ⟨h.1, fun i h1 h2 => (h.2 i h1 h2).below hb⟩
theorem PoOTab.kept {w w' : World} {B B' : Nat} {l : List Po} {cs : List Pc} {v' : Value} {n' : Nat} {ys : List Value} (h : PoOTab B w l cs) (ho : w.ownsRow B' 95 3 v' n' ys) (hg : w.grownBy w' v'.ownBlock) : PoOTab B w' l cs := ⟨h.1, fun i h1 h2 => (h.2 i h1 h2).kept ho hg⟩
theorem PoOTab.app {B : Nat} {w : World} {l : List Po} {cs : List Pc} {g : Po} {c : Pc} (h : PoOTab B w l cs) (hg : PoOwn B w g c) : PoOTab B w (l ++ [g]) (cs ++ [c]) := by
  refine ⟨by simp [h.1], fun i h1 h2 => ?_⟩
  have hl := h.1
  rcases Nat.lt_or_ge i l.length with hi | hi
  · rw [List.getElem_append_left hi, List.getElem_append_left (by omega)]; exact h.2 i hi (by omega)
  · have : i = l.length := by simp at h1; omega
    subst this
    simp [hl]
    exact hg
structure BzPo (w : World) (b : Nat) : Prop where
  bk : Bk w b #[.int .i64 0, .int .i64 0, .slice none 0 0]
  fz : ∀ i, w.frozen? ⟨b, i, none⟩ = false
theorem BzPo.new (w : World) : BzPo (w.alloc (.cells #[.int .i64 0, .int .i64 0, .slice none 0 0] 95)) w.heap.size := ⟨Bk.new w _ _, fun i => by simp⟩
theorem BzPo.below {w w' : World} {b : Nat} (h : BzPo w b) (hb : Below w.heap.size w w') : BzPo w' b := ⟨h.bk.below hb, fun i => by rw [hb.frozen (p := ⟨b, i, none⟩) h.bk.1]; exact h.fz i⟩
theorem BzPo.got {w : World} {b : Nat} (h : BzPo w b) : w.cell? ⟨b, 0, none⟩ = some (.int .i64 0) ∧ w.cell? ⟨b, 1, none⟩ = some (.int .i64 0) ∧ w.cell? ⟨b, 2, none⟩ = some (.slice none 0 0) := by
  have h1 := h.bk.2
  exact ⟨h1 0, h1 1, h1 2⟩
structure AfPo (w : World) (b : Nat) (g : Po) : Prop where
  bx : Po.Bx w b g
  fz : ∀ i, w.frozen? ⟨b, i, none⟩ = false
theorem AfPo.below {w w' : World} {b : Nat} {g : Po} (h : AfPo w b g) (hb : Below w.heap.size w w') : AfPo w' b g := ⟨h.bx.below hb, fun i => by rw [hb.frozen (p := ⟨b, i, none⟩) h.bx.lt]; exact h.fz i⟩
end
section
structure Fw where
  (ac : Int) (cl : Int) (amt : Int)
deriving DecidableEq
def Fw.cells (g : Fw) : List Value := [.int .i64 g.ac, .int .i64 g.cl, .int .i64 g.amt]
def Fw.val (g : Fw) : Value := .agg #[.int .i64 g.ac, .int .i64 g.cl, .int .i64 g.amt]
def Fw.zero : Fw := ⟨0, 0, 0⟩
theorem Fw.len (g : Fw) : g.cells.length = 3 := rfl
theorem Fw.one (g : Fw) : ∀ u ∈ g.cells, u.oneCell' = true := by
  intro u hu
  simp only [Fw.cells, List.mem_cons, List.not_mem_nil, or_false] at hu
  rcases hu with h | h | h <;> subst h <;> rfl
def Fw.at (g : Fw) (w : World) (b o : Nat) : Prop :=
  w.cell? ⟨b, o, none⟩ = some (.int .i64 g.ac) ∧ w.cell? ⟨b, o + 1, none⟩ = some (.int .i64 g.cl) ∧ w.cell? ⟨b, o + 2, none⟩ = some (.int .i64 g.amt)
theorem Fw.at_of {w : World} {b o : Nat} {g : Fw} (h : ∀ j u, g.cells[j]? = some u → w.cell? ⟨b, o + j, none⟩ = some u) : g.at w b o :=
  ⟨h 0 _ rfl, h 1 _ rfl, h 2 _ rfl⟩
theorem Fw.at_keep {w w' : World} {b o : Nat} {g : Fw} (h : g.at w b o) (k : ∀ i, w'.cell? ⟨b, i, none⟩ = w.cell? ⟨b, i, none⟩) : g.at w' b o := by
  unfold Fw.at at *
  simp only [k]
  exact h
theorem Sl.fw {w : World} {A : Option Addr} {l : List Fw} (h : Sl w A (rc Fw.cells l)) {k : Nat} (hk : k < l.length) : ∃ b o, A = some ⟨b, o, none⟩ ∧ b < w.heap.size ∧ l[k].at w b (o + k * 3) := by
  obtain ⟨b, o, hA, hb, hc⟩ := Sl.elem (m := 3) Fw.len (by decide) h hk
  exact ⟨b, o, hA, hb, Fw.at_of hc⟩
theorem EFw : Elem Tryz.prog 25 50 3 24 := Elem.mk' (z := .agg #[.int .i64 0, .int .i64 0, .int .i64 0]) (by kernel_rfl) (by kernel_rfl) (by decide) (by decide)
def Fw.Tells (F : Nat) (caps : Array Value) (p : Fw → Bool) (B : Nat) (w : World) : Prop :=
  ∀ (g : Fw) (W : World), Below B w W → Calls Tryz.prog F (#[g.val] ++ caps) W fun e w' => e = .returned (.bool (p g)) ∧ Below W.heap.size W w'
theorem Fw.Tells.below {F : Nat} {caps : Array Value} {p : Fw → Bool} {B : Nat} {w w1 : World} (h : Fw.Tells F caps p B w) (hb : Below B w w1) {C : Nat} (hC : B ≤ C) : Fw.Tells F caps p C w1 :=
  fun g W hW => h g W (hb.trans (hW.mono hC))
theorem index_fw (A : Option Addr) (cap : Nat) (l : List Fw) (F : Nat) (caps : Array Value) (p : Fw → Bool) (w : World) (hl : l.length ≤ 1000000) (hs : Sl w A (rc Fw.cells l)) (hF : Ent Tryz.prog F) (hp : Fw.Tells F caps p w.heap.size w) :
    Calls Tryz.prog 101 #[.slice A l.length cap, .func (.func F) #[] caps] w fun e w' => e = .returned (.int .i64 (atL p l)) ∧ Below w.heap.size w w' := by
  go_enter Tryz.func101, Tryz.ntmps101
  go_wp2
  go_loopw [8] (fun i wr => ∃ k : Nat, k ≤ l.length ∧ i = .int .i64 k ∧ (∀ j, (hj : j < l.length) → j < k → p l[j] = false) ∧ Below w.heap.size w wr) (fun i _ => l.length - (intOf i).toNat)
  case atStart => exact ⟨0, by omega, rfl, fun j hj h => absurd h (by omega), Below.refl _ _⟩
  case round =>
    obtain ⟨k, hk, rfl, hno, hB⟩ := hrel
    by_cases hlt2 : k < l.length
    · obtain ⟨b, o, rfl, hbw, hg⟩ := hs.fw hlt2
      have hg1 : l[k].at wr b (o + k * 3) := Fw.at_keep (w := w) hg fun i => hB.cell (p := ⟨b, i, none⟩) hbw
      obtain ⟨g0, g1, g2⟩ := hg1
      have hbr : b < wr.heap.size := Nat.lt_of_lt_of_le hbw hB.size
      have step := hp l[k] wr hB
      cases hq : p l[k] with
      | true =>
        have HQ := Lib.hid hq
        go_wp2_with fail
        rw [hF, Oper.upon_enter]
        refine step.mono ?_
        rintro e w1 ⟨rfl, hb1⟩
        have hB1 := since_step hB hb1
        clear hb1
        rw [HQ.out]
        go_wp2
        go_ret
        exact ⟨retI (atL_some hlt2 (fun j hj => hno j (by omega) hj) HQ.out).symm, hB1⟩
      | false =>
        have HQ := Lib.hid hq
        go_wp2_with fail
        rw [hF, Oper.upon_enter]
        refine step.mono ?_
        rintro e w1 ⟨rfl, hb1⟩
        have hB1 := since_step hB hb1
        clear hb1
        rw [HQ.out]
        go_wp2
        go_roundw
        case rel =>
          refine ⟨k + 1, by omega, by go_num, fun j hj hjk => ?_, hB1⟩
          rcases Nat.lt_or_ge j k with h | h
          · exact hno j hj h
          · obtain rfl : j = k := by omega
            exact HQ.out
        case measure => simp [intOf]; omega
    · go_wp2
      go_ret
      exact ⟨retI (atL_none fun j hj => hno j hj (by omega)).symm, hB⟩
end
section
theorem find_fw (A : Option Addr) (cap : Nat) (l : List Fw) (F : Nat) (caps : Array Value) (p : Fw → Bool) (w : World) (hl : l.length ≤ 1000000) (hs : Sl w A (rc Fw.cells l)) (hF : Ent Tryz.prog F) (hp : Fw.Tells F caps p w.heap.size w) :
    Calls Tryz.prog 63 #[.slice A l.length cap, .func (.func F) #[] caps] w fun e w' =>
      e = .returned (.tuple #[(pickL p Fw.zero l).val, .bool (l.find? p).isSome]) ∧ Below w.heap.size w w' := by
  have hB0 := since_alloc (Below.refl w.heap.size w) (.cells #[.int .i64 0, .int .i64 0, .int .i64 0] 50)
  have hidx := index_fw A cap l F caps p (w.alloc (.cells #[.int .i64 0, .int .i64 0, .int .i64 0] 50)) hl (hs.alloc _) hF (hp.below hB0 (by simp))
  have Bz := Bk.new w #[.int .i64 0, .int .i64 0, .int .i64 0] 50
  rcases atL_cases p l with ⟨h0, hno⟩ | ⟨k, hk, h0, hpk, hno⟩
  · rw [h0] at hidx
    have HF1 := Lib.hid (find_none hno)
    clear hno h0
    go_enter Tryz.func63, Tryz.ntmps63
    go_wp2_with fail
    refine hidx.mono ?_
    rintro e w1 ⟨rfl, hb1⟩
    have hB1 := since_step hB0 hb1
    have Bz := Bz.below hb1
    obtain ⟨lb, cb⟩ := id Bz
    have q0 := cb 0
    have q1 := cb 1
    have q2 := cb 2
    simp at q0 q1 q2
    clear cb
    have hfz : ∀ i, w1.frozen? ⟨w.heap.size, i, none⟩ = false := fun i => by rw [(hb1.frozen (p := ⟨w.heap.size, i, none⟩) (by simp))]; simp
    have hcs := @cell_set
    clear hb1 Bz hidx
    go_wp2_with fail
    refine bodyPost_ret (v := .tuple #[Fw.zero.val, .bool false]) ?_ rfl ⟨?_, ?_⟩
    · have hca : ∀ (V : World) (o : Obj) (i : Nat), w.heap.size < V.heap.size → (V.alloc o).cell? ⟨w.heap.size, i, none⟩ = V.cell? ⟨w.heap.size, i, none⟩ := fun V o i h => World.cell?_alloc_lt V o ⟨w.heap.size, i, none⟩ h
      simp [results, Tryz.results63, go_sem, q0, q1, q2, hfz, Fw.zero, Fw.val, hca, lb]
    · rw [pickL, HF1.out]; rfl
    · repeat' (first | with_reducible exact hB1 | with_reducible refine Below.setCell ?_ ?_ _ | with_reducible refine Below.alloc ?_ ?_ _)
      all_goals first | (simp; done) | (simp; omega)
  · rw [h0] at hidx
    have HF1 := Lib.hid (find_some hk hno hpk)
    clear hno h0 hpk
    go_enter Tryz.func63, Tryz.ntmps63
    go_wp2_with fail
    refine hidx.mono ?_
    rintro e w1 ⟨rfl, hb1⟩
    have hB1 := since_step hB0 hb1
    have Bz := Bz.below hb1
    obtain ⟨lb, cb⟩ := id Bz
    have q0 := cb 0
    have q1 := cb 1
    have q2 := cb 2
    simp at q0 q1 q2
    clear cb
    have hfz : ∀ i, w1.frozen? ⟨w.heap.size, i, none⟩ = false := fun i => by rw [(hb1.frozen (p := ⟨w.heap.size, i, none⟩) (by simp))]; simp
    have hcs := @cell_set
    obtain ⟨b, o, rfl, hbw, hgat⟩ := ((hs.alloc (.cells #[.int .i64 0, .int .i64 0, .int .i64 0] 50)).below hb1).fw hk
    clear hb1 Bz hidx hs
    generalize l[k] = g at *
    obtain ⟨g0, g1, g2⟩ := hgat
    go_wp2_with fail
    refine bodyPost_ret (v := .tuple #[g.val, .bool true]) ?_ rfl ⟨?_, ?_⟩
    · simp [results, Tryz.results63, go_sem, q0, q1, q2, hfz, Fw.val]
    · rw [pickL, HF1.out]; rfl
    · repeat' (first | with_reducible exact hB1 | with_reducible refine Below.setCell ?_ ?_ _ | with_reducible refine Below.alloc ?_ ?_ _)
      all_goals first | (simp; done) | (simp; omega)
end
section
def Fw.Tells2 (F : Nat) (caps : Array Value) (ah : Fw → Fw → Bool) (B : Nat) (w : World) : Prop :=
  ∀ (a b : Fw) (W : World), Below B w W → Calls Tryz.prog F (#[a.val, b.val] ++ caps) W fun e w' => e = .returned (.bool (ah a b)) ∧ Below W.heap.size W w'
theorem Fw.Tells2.below {F : Nat} {caps : Array Value} {ah : Fw → Fw → Bool} {B : Nat} {w w1 : World} (h : Fw.Tells2 F caps ah B w) (hb : Below B w w1) {C : Nat} (hC : B ≤ C) : Fw.Tells2 F caps ah C w1 :=
  fun a b W hW => h a b W (hb.trans (hW.mono hC))
structure Fw.Bx (w : World) (b : Nat) (g : Fw) : Prop where
  lt : b < w.heap.size
  at_ : g.at w b 0
  hp : w.heap[b]? = some (.cells g.cells.toArray 50 (0, 0))
theorem Fw.Bx.new (w : World) (g : Fw) : Fw.Bx (w.alloc (.cells g.cells.toArray 50)) w.heap.size g := by
  have h := heap_alloc_new w (.cells g.cells.toArray 50 (0, 0))
  refine ⟨by simp, Fw.at_of fun j u hu => ?_, h⟩
  rw [Nat.zero_add, cell_of_row _ _ j g.cells.toArray 50 (0, 0) h]
  simpa using hu
theorem Fw.Bx.below {w w' : World} {b : Nat} {g : Fw} (h : Fw.Bx w b g) (hb : Below w.heap.size w w') : Fw.Bx w' b g :=
  ⟨Nat.lt_of_lt_of_le h.lt hb.size, Fw.at_keep h.at_ fun i => hb.cell (p := ⟨b, i, none⟩) h.lt, (hb.block b h.lt).trans h.hp⟩
theorem Fw.Bx.sl {w : World} {b : Nat} {g : Fw} (h : Fw.Bx w b g) : Sl w (some ⟨b, 0, none⟩) g.cells := by
  intro _
  refine ⟨b, 0, rfl, fun j u hu => ?_⟩
  rw [Nat.zero_add, cell_of_row _ _ j g.cells.toArray 50 (0, 0) h.hp]
  simpa using hu
theorem Fw.Bx.got {w : World} {b : Nat} {g : Fw} (h : Fw.Bx w b g) : w.cell? ⟨b, 0, none⟩ = some (.int .i64 g.ac) ∧ w.cell? ⟨b, 1, none⟩ = some (.int .i64 g.cl) ∧ w.cell? ⟨b, 2, none⟩ = some (.int .i64 g.amt) := by
  have := h.at_
  unfold Fw.at at this
  simpa only [Nat.zero_add] using this
theorem rising_fw (A : Option Addr) (cap : Nat) (l : List Fw) (F : Nat) (caps : Array Value) (ah : Fw → Fw → Bool) (w : World) (hl : l.length ≤ 1000000) (hs : Sl w A (rc Fw.cells l)) (hF : Ent Tryz.prog F) (hp : Fw.Tells2 F caps ah w.heap.size w) :
    Calls Tryz.prog 51 #[.slice A l.length cap, .func (.func F) #[] caps] w fun e w' => e = .returned (.bool (risingL ah l)) ∧ Below w.heap.size w w' := by
  go_enter Tryz.func51, Tryz.ntmps51
  go_wp2_with fail
  go_loopw [5] (fun i wr => ∃ k : Nat, i = .int .i64 ((k : Int) + 1) ∧ (k ≤ l.length) ∧ (∀ j, (hj : j + 1 < l.length) → j < k → ah (l[j]'(by omega)) l[j + 1] = true) ∧ Below w.heap.size w wr) (fun i _ => l.length + 1 - (intOf i).toNat)
  case atStart => exact ⟨0, by first | rfl | go_num, by omega, fun j hj h => absurd h (by omega), Below.refl _ _⟩
  case round =>
    obtain ⟨k, rfl, hk, hno, hB⟩ := hrel
    by_cases hlt2 : k + 1 < l.length
    · have hkl : k < l.length := by omega
      obtain ⟨b, o, rfl, hbw, hg⟩ := hs.fw hkl
      obtain ⟨b', o', e, hbw', hg'⟩ := hs.fw hlt2
      injection e with e
      injection e with e1 e2 e3
      subst e1; subst e2
      have hg1 : l[k].at wr b (o + k * 3) := Fw.at_keep (w := w) hg fun i => hB.cell (p := ⟨b, i, none⟩) hbw
      have hg2 : l[k + 1].at wr b (o + (k + 1) * 3) := Fw.at_keep (w := w) hg' fun i => hB.cell (p := ⟨b, i, none⟩) hbw
      have HG1 := Lib.hid hg1
      have HG2 := Lib.hid hg2
      have hbr : b < wr.heap.size := Nat.lt_of_lt_of_le hbw hB.size
      have HK : Hid (∀ V, Below wr.heap.size wr V → l[k].at V b (o + k * 3) ∧ l[k + 1].at V b (o + (k + 1) * 3)) := Lib.hid fun V hV =>
        ⟨Fw.at_keep (w := wr) HG1.out fun i => hV.cell (p := ⟨b, i, none⟩) hbr, Fw.at_keep (w := wr) HG2.out fun i => hV.cell (p := ⟨b, i, none⟩) hbr⟩
      have HP : Hid (∀ V, Below wr.heap.size wr V → _) := Lib.hid fun V hV => hp l[k] l[k + 1] V (since_step hB hV)
      obtain ⟨q, hq⟩ : ∃ q, ah l[k] l[k + 1] = q := ⟨_, rfl⟩
      have HXq : Hid (if q then (∀ j, (hj : j + 1 < l.length) → j < k + 1 → ah (l[j]'(by omega)) l[j + 1] = true) else risingL ah l = false) := Lib.hid (by
        cases q with
        | true =>
          intro j hj hjk
          rcases Nat.lt_or_ge j k with h | h
          · exact hno j hj h
          · obtain rfl : j = k := by omega
            exact hq
        | false => exact risingL_false hlt2 hq)
      have HQ := Lib.hid hq
      clear hno hp hg hg' hg1 hg2 HG1 HG2 hq
      generalize l[k] = ga at HK HP HQ
      generalize l[k + 1] = gb at HK HP HQ
      have hw0 : IntKind.i64.wrap (k : Int) = (k : Int) := by rw [IntKind.wrap_i64]; omega
      have hw2 : IntKind.i64.wrap ((k : Int) + 1 + 1) = (k : Int) + 1 + 1 := by rw [IntKind.wrap_i64]; omega
      have hn0 : (0 : Int) ≤ (k : Int) := by omega
      have hn1 : (0 : Int) ≤ (k : Int) + 1 := by omega
      have htn : ((k : Int) + 1).toNat = k + 1 := by omega
      have hlt3 : (k : Int) + 1 < (l.length : Int) := by omega
      clear hs hbw hbw'
      go_wp2_with fail
      refine wp_region_held_drew (S := (fun V => Below wr.heap.size wr V)) (by kernel_rfl) (by exact (Below.refl _ _).drew) (fun hHeld => ?_)
      refine tkI 0 12 rfl (by intro w hSw; obtain ⟨⟨g0, g1, g2⟩, h0, h1, h2⟩ := HK.out _ hSw; go_simp <;> with_reducible rfl) hHeld ?_; simp only [pqZ]
      refine tkI 1 13 rfl (by intro w hSw; obtain ⟨⟨g0, g1, g2⟩, h0, h1, h2⟩ := HK.out _ hSw; go_simp <;> with_reducible rfl) hHeld ?_; simp only [pqZ]
      refine tkI 2 14 rfl (by intro w hSw; obtain ⟨⟨g0, g1, g2⟩, h0, h1, h2⟩ := HK.out _ hSw; go_simp <;> with_reducible rfl) hHeld ?_; simp only [pqZ]
      refine tkI 3 15 rfl (by intro w hSw; obtain ⟨⟨g0, g1, g2⟩, h0, h1, h2⟩ := HK.out _ hSw; go_simp <;> with_reducible rfl) hHeld ?_; simp only [pqZ]
      refine tkI 4 16 rfl (by intro w hSw; obtain ⟨⟨g0, g1, g2⟩, h0, h1, h2⟩ := HK.out _ hSw; go_simp <;> with_reducible rfl) hHeld ?_; simp only [pqZ]
      refine tkI 5 17 rfl (by intro w hSw; obtain ⟨⟨g0, g1, g2⟩, h0, h1, h2⟩ := HK.out _ hSw; go_simp <;> with_reducible rfl) hHeld ?_; simp only [pqZ]
      refine tkI 6 18 rfl (by intro w hSw; obtain ⟨⟨g0, g1, g2⟩, h0, h1, h2⟩ := HK.out _ hSw; go_simp <;> with_reducible rfl) hHeld ?_; simp only [pqZ]
      refine tkI 7 19 rfl (by intro w hSw; obtain ⟨⟨g0, g1, g2⟩, h0, h1, h2⟩ := HK.out _ hSw; go_simp <;> with_reducible rfl) hHeld ?_; simp only [pqZ]
      refine tkI 8 20 rfl (by intro w hSw; obtain ⟨⟨g0, g1, g2⟩, h0, h1, h2⟩ := HK.out _ hSw; go_simp <;> with_reducible rfl) hHeld ?_; simp only [pqZ]
      refine tkI 9 21 rfl (by intro w hSw; obtain ⟨⟨g0, g1, g2⟩, h0, h1, h2⟩ := HK.out _ hSw; go_simp <;> with_reducible rfl) hHeld ?_; simp only [pqZ]
      refine rdZ 10 22 rfl (by kernel_rfl) (fun K hK => ?_)
      go_simp
      rw [hF, Oper.upon_enter]
      refine (HP.out _ hHeld).mono ?_
      rintro e u1 ⟨rfl, hk1⟩
      have hKeep := since_step hHeld hk1
      rw [HQ.out]
      go_wp2_with fail
      refine hK.out _ _ (by (try dsimp only); exact hKeep) (fun hHeld => ?_); clear hK K hKeep; try simp only [pqZ]
      refine tkI 11 23 rfl (by intro w hSw; obtain ⟨⟨g0, g1, g2⟩, h0, h1, h2⟩ := HK.out _ hSw; go_simp <;> with_reducible rfl) hHeld ?_; simp only [pqZ]
      refine wpAnyH_done (by kernel_rfl) ?_ _
      have hB2 := since_step hB hHeld
      cases q with
      | true =>
        go_wp2_with fail
        go_roundw
        case rel => exact ⟨k + 1, by go_num, by omega, by simpa using HXq.out, hB2⟩
        case measure => simp [intOf]; omega
      | false =>
        have hr : risingL ah l = false := by simpa using HXq.out
        have HR := Lib.hid hr
        clear hr
        go_wp2_with fail
        go_ret
        exact ⟨retB HR.out.symm, hB2⟩
    · have hrt : risingL ah l = true := (risingL_iff ah l).2 fun j hj => hno j hj (by omega)
      have HR := Lib.hid hrt
      have hge : ¬ ((k : Int) + 1 < (l.length : Int)) := by omega
      clear hno hrt
      go_wp2_with fail
      go_ret
      exact ⟨retB HR.out.symm, hB⟩
end
end Go.Proofs.YtmjndpkfhdoljaaGreat
