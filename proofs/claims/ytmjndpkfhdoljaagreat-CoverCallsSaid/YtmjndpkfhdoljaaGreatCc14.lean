import Derived.Deep.RegionLaw
import Derived.Lib.SliceRun
import Derived.Test.YtmjndpkfhdoljaaGreatCc01
import Derived.Deep.DeepCutAuto
import Derived.Deep.RegionHeld3
import Derived.Test.YtmjndpkfhdoljaaGreatCc02
import Derived.Test.YtmjndpkfhdoljaaGreatCc06
set_option maxHeartbeats 16000000
set_option maxRecDepth 100000
set_option linter.unusedVariables false
set_option linter.unusedSimpArgs false
namespace Go.Proofs.YtmjndpkfhdoljaaGreat
open Go.ChangeShapes Go.WideShapes Go.ChangeAt Go.RowKit
section
structure Iq where
  (id : Int) (mult : Int) (price : Int) (nxt : Int) (mv : Option Addr) (mvL mvC : Nat)
deriving DecidableEq
def Iq.cells (g : Iq) : List Value := [.int .i64 g.id, .int .i64 g.mult, .int .i64 g.price, .int .i64 g.nxt, .slice g.mv g.mvL g.mvC]
def Iq.val (g : Iq) : Value := .agg #[.int .i64 g.id, .int .i64 g.mult, .int .i64 g.price, .int .i64 g.nxt, .slice g.mv g.mvL g.mvC]
def Iq.zero : Iq := ⟨0, 0, 0, 0, none, 0, 0⟩
theorem Iq.len (g : Iq) : g.cells.length = 5 := rfl
theorem Iq.one (g : Iq) : ∀ u ∈ g.cells, u.oneCell' = true := by
  intro u hu
  simp only [Iq.cells, List.mem_cons, List.not_mem_nil, or_false] at hu
  rcases hu with h | h | h | h | h <;> subst h <;> rfl
def Iq.at (g : Iq) (w : World) (b o : Nat) : Prop :=
  w.cell? ⟨b, o, none⟩ = some (.int .i64 g.id) ∧ w.cell? ⟨b, o + 1, none⟩ = some (.int .i64 g.mult) ∧ w.cell? ⟨b, o + 2, none⟩ = some (.int .i64 g.price) ∧ w.cell? ⟨b, o + 3, none⟩ = some (.int .i64 g.nxt) ∧ w.cell? ⟨b, o + 4, none⟩ = some (.slice g.mv g.mvL g.mvC)
theorem Iq.at_of {w : World} {b o : Nat} {g : Iq} (h : ∀ j u, g.cells[j]? = some u → w.cell? ⟨b, o + j, none⟩ = some u) : g.at w b o :=
  ⟨h 0 _ rfl, h 1 _ rfl, h 2 _ rfl, h 3 _ rfl, h 4 _ rfl⟩
theorem Iq.at_keep {w w' : World} {b o : Nat} {g : Iq} (h : g.at w b o) (k : ∀ i, w'.cell? ⟨b, i, none⟩ = w.cell? ⟨b, i, none⟩) : g.at w' b o := by
  unfold Iq.at at *
  simp only [k]
  exact h
theorem Sl.iq {w : World} {A : Option Addr} {l : List Iq} (h : Sl w A (rc Iq.cells l)) {k : Nat} (hk : k < l.length) : ∃ b o, A = some ⟨b, o, none⟩ ∧ b < w.heap.size ∧ l[k].at w b (o + k * 5) := by
  obtain ⟨b, o, hA, hb, hc⟩ := Sl.elem (m := 5) Iq.len (by decide) h hk
  exact ⟨b, o, hA, hb, Iq.at_of hc⟩
theorem EIq : Elem Tryz.prog 23 92 5 56 := Elem.mk' (z := .agg #[.int .i64 0, .int .i64 0, .int .i64 0, .int .i64 0, .slice none 0 0]) (by kernel_rfl) (by kernel_rfl) (by decide) (by decide)
def Iq.Tells (F : Nat) (caps : Array Value) (p : Iq → Bool) (B : Nat) (w : World) : Prop :=
  ∀ (g : Iq) (W : World), Below B w W → Calls Tryz.prog F (#[g.val] ++ caps) W fun e w' => e = .returned (.bool (p g)) ∧ Below W.heap.size W w'
theorem Iq.Tells.below {F : Nat} {caps : Array Value} {p : Iq → Bool} {B : Nat} {w w1 : World} (h : Iq.Tells F caps p B w) (hb : Below B w w1) {C : Nat} (hC : B ≤ C) : Iq.Tells F caps p C w1 :=
  fun g W hW => h g W (hb.trans (hW.mono hC))
theorem index_iq (A : Option Addr) (cap : Nat) (l : List Iq) (F : Nat) (caps : Array Value) (p : Iq → Bool) (w : World) (hl : l.length ≤ 1000000) (hs : Sl w A (rc Iq.cells l)) (hF : Ent Tryz.prog F) (hp : Iq.Tells F caps p w.heap.size w) :
    Calls Tryz.prog 137 #[.slice A l.length cap, .func (.func F) #[] caps] w fun e w' => e = .returned (.int .i64 (atL p l)) ∧ Below w.heap.size w w' := by
  go_enter Tryz.func137, Tryz.ntmps137
  go_wp2
  go_loopw [8] (fun i wr => ∃ k : Nat, k ≤ l.length ∧ i = .int .i64 k ∧ (∀ j, (hj : j < l.length) → j < k → p l[j] = false) ∧ Below w.heap.size w wr) (fun i _ => l.length - (intOf i).toNat)
  case atStart => exact ⟨0, by omega, rfl, fun j hj h => absurd h (by omega), Below.refl _ _⟩
  case round =>
    obtain ⟨k, hk, rfl, hno, hB⟩ := hrel
    by_cases hlt2 : k < l.length
    · obtain ⟨b, o, rfl, hbw, hg⟩ := hs.iq hlt2
      have hg1 : l[k].at wr b (o + k * 5) := Iq.at_keep (w := w) hg fun i => hB.cell (p := ⟨b, i, none⟩) hbw
      obtain ⟨g0, g1, g2, g3, g4⟩ := hg1
      have hbr : b < wr.heap.size := Nat.lt_of_lt_of_le hbw hB.size
      have step := hp l[k] wr hB
      cases hq : p l[k] with
      | true =>
        have HQ := Lib.hid hq
        go_wp2_with fail
        rw [hF, Oper.upon_enter]
        refine step.mono ?_
        rintro e w1 ⟨rfl, hb1⟩
        have hB1 := since_step hB hb1
        clear hb1
        rw [HQ.out]
        go_wp2
        go_ret
        exact ⟨retI (atL_some hlt2 (fun j hj => hno j (by omega) hj) HQ.out).symm, hB1⟩
      | false =>
        have HQ := Lib.hid hq
        go_wp2_with fail
        rw [hF, Oper.upon_enter]
        refine step.mono ?_
        rintro e w1 ⟨rfl, hb1⟩
        have hB1 := since_step hB hb1
        clear hb1
        rw [HQ.out]
        go_wp2
        go_roundw
        case rel =>
          refine ⟨k + 1, by omega, by go_num, fun j hj hjk => ?_, hB1⟩
          rcases Nat.lt_or_ge j k with h | h
          · exact hno j hj h
          · obtain rfl : j = k := by omega
            exact HQ.out
        case measure => simp [intOf]; omega
    · go_wp2
      go_ret
      exact ⟨retI (atL_none fun j hj => hno j hj (by omega)).symm, hB⟩
end
section
def Iq.Tells2 (F : Nat) (caps : Array Value) (ah : Iq → Iq → Bool) (B : Nat) (w : World) : Prop :=
  ∀ (a b : Iq) (W : World), Below B w W → Calls Tryz.prog F (#[a.val, b.val] ++ caps) W fun e w' => e = .returned (.bool (ah a b)) ∧ Below W.heap.size W w'
theorem Iq.Tells2.below {F : Nat} {caps : Array Value} {ah : Iq → Iq → Bool} {B : Nat} {w w1 : World} (h : Iq.Tells2 F caps ah B w) (hb : Below B w w1) {C : Nat} (hC : B ≤ C) : Iq.Tells2 F caps ah C w1 :=
  fun a b W hW => h a b W (hb.trans (hW.mono hC))
structure Iq.Bx (w : World) (b : Nat) (g : Iq) : Prop where
  lt : b < w.heap.size
  at_ : g.at w b 0
  hp : w.heap[b]? = some (.cells g.cells.toArray 92 (0, 0))
theorem Iq.Bx.new (w : World) (g : Iq) : Iq.Bx (w.alloc (.cells g.cells.toArray 92)) w.heap.size g := by
  have h := heap_alloc_new w (.cells g.cells.toArray 92 (0, 0))
  refine ⟨by simp, Iq.at_of fun j u hu => ?_, h⟩
  rw [Nat.zero_add, cell_of_row _ _ j g.cells.toArray 92 (0, 0) h]
  simpa using hu
theorem Iq.Bx.below {w w' : World} {b : Nat} {g : Iq} (h : Iq.Bx w b g) (hb : Below w.heap.size w w') : Iq.Bx w' b g :=
  ⟨Nat.lt_of_lt_of_le h.lt hb.size, Iq.at_keep h.at_ fun i => hb.cell (p := ⟨b, i, none⟩) h.lt, (hb.block b h.lt).trans h.hp⟩
theorem Iq.Bx.sl {w : World} {b : Nat} {g : Iq} (h : Iq.Bx w b g) : Sl w (some ⟨b, 0, none⟩) g.cells := by
  intro _
  refine ⟨b, 0, rfl, fun j u hu => ?_⟩
  rw [Nat.zero_add, cell_of_row _ _ j g.cells.toArray 92 (0, 0) h.hp]
  simpa using hu
theorem Iq.Bx.got {w : World} {b : Nat} {g : Iq} (h : Iq.Bx w b g) : w.cell? ⟨b, 0, none⟩ = some (.int .i64 g.id) ∧ w.cell? ⟨b, 1, none⟩ = some (.int .i64 g.mult) ∧ w.cell? ⟨b, 2, none⟩ = some (.int .i64 g.price) ∧ w.cell? ⟨b, 3, none⟩ = some (.int .i64 g.nxt) ∧ w.cell? ⟨b, 4, none⟩ = some (.slice g.mv g.mvL g.mvC) := by
  have := h.at_
  unfold Iq.at at this
  simpa only [Nat.zero_add] using this
end
section
structure Sx where
  (n : Int)
deriving DecidableEq
def Sx.cells (g : Sx) : List Value := [.int .i64 g.n]
def Sx.val (g : Sx) : Value := .int .i64 g.n
def Sx.zero : Sx := ⟨0⟩
theorem Sx.len (g : Sx) : g.cells.length = 1 := rfl
theorem Sx.one (g : Sx) : ∀ u ∈ g.cells, u.oneCell' = true := by
  intro u hu
  simp only [Sx.cells, List.mem_cons, List.not_mem_nil, or_false] at hu
  subst hu; rfl
def Sx.at (g : Sx) (w : World) (b o : Nat) : Prop :=
  w.cell? ⟨b, o, none⟩ = some (.int .i64 g.n) ∧ True
theorem Sx.at_of {w : World} {b o : Nat} {g : Sx} (h : ∀ j u, g.cells[j]? = some u → w.cell? ⟨b, o + j, none⟩ = some u) : g.at w b o :=
  ⟨h 0 _ rfl, trivial⟩
theorem Sx.at_keep {w w' : World} {b o : Nat} {g : Sx} (h : g.at w b o) (k : ∀ i, w'.cell? ⟨b, i, none⟩ = w.cell? ⟨b, i, none⟩) : g.at w' b o := by
  unfold Sx.at at *
  simp only [k]
  exact h
theorem Sl.sx {w : World} {A : Option Addr} {l : List Sx} (h : Sl w A (rc Sx.cells l)) {k : Nat} (hk : k < l.length) : ∃ b o, A = some ⟨b, o, none⟩ ∧ b < w.heap.size ∧ l[k].at w b (o + k) := by
  obtain ⟨b, o, hA, hb, hc⟩ := Sl.elem (m := 1) Sx.len (by decide) h hk
  exact ⟨b, o, hA, hb, Sx.at_of (by simpa only [Nat.mul_one] using hc)⟩
theorem ESx : Elem Tryz.prog 71 2 1 8 := Elem.mk' (z := .int .i64 0) (by kernel_rfl) (by kernel_rfl) (by decide) (by decide)
def Sx.Tells (F : Nat) (caps : Array Value) (p : Sx → Bool) (B : Nat) (w : World) : Prop :=
  ∀ (g : Sx) (W : World), Below B w W → Calls Tryz.prog F (#[g.val] ++ caps) W fun e w' => e = .returned (.bool (p g)) ∧ Below W.heap.size W w'
theorem Sx.Tells.below {F : Nat} {caps : Array Value} {p : Sx → Bool} {B : Nat} {w w1 : World} (h : Sx.Tells F caps p B w) (hb : Below B w w1) {C : Nat} (hC : B ≤ C) : Sx.Tells F caps p C w1 :=
  fun g W hW => h g W (hb.trans (hW.mono hC))
theorem clone_sx (A : Option Addr) (cap : Nat) (l : List Sx) (w : World) (hl : l.length ≤ 1000000) (hs : Sl w A (rc Sx.cells l)) :
    Calls Tryz.prog 139 #[.slice A l.length cap] w fun e w' => (∃ A' c', e = .returned (.slice A' l.length c') ∧ w'.ownsRow w.heap.size 2 1 (.slice A' l.length c') l.length (rc Sx.cells l)) ∧ Below w.heap.size w w' := by
  cases A with
  | none =>
    have hn : l = [] := by
      cases l with
      | nil => rfl
      | cons g m => obtain ⟨b, o, e, _⟩ := hs.sx (k := 0) (by simp); cases e
    subst hn
    have hnil := fun w : World => Go.Lib.run_eql_slice_nil (P := Tryz.prog) w 71 2 none 0 cap 0 0 ESx.und
    go_enter Tryz.func139, Tryz.ntmps139
    go_wp2_with fail
    go_ret
    exact ⟨⟨none, 0, rfl, own_nil _ _ _⟩, Below.refl _ _⟩
  | some ad =>
    have hnil := fun w : World => Go.Lib.run_eql_slice_nil (P := Tryz.prog) w 71 2 (some ad) l.length cap 0 0 ESx.und
    go_enter Tryz.func139, Tryz.ntmps139
    go_wp2_with (first
      | (at_builtin; refine wpList_app rfl (.tmp 5) (.tmp 6) rfl ESx rfl rfl (World.ownsRow_made (w := w) #[] 0 (Nat.le_refl _) (Nat.zero_le _) rfl) (rc_length Sx.len l) (hs.alloc _) (rc_one Sx.one l) (by unfold maxLen; omega) (by omega) (by simp) ?_; intro A2 c2 w2 hown2 hg2 hb2; simp only [Nat.zero_add, List.nil_append] at hown2)
      | fail)
    refine bodyPost_ret (results_tmp rfl _ _ _) rfl ⟨⟨A2, c2, by simp, by simpa using hown2⟩, ?_⟩
    exact Below.trans ((Below.refl _ _).alloc (Nat.le_refl _) _) hb2
end
section
def Sx.Tells2 (F : Nat) (caps : Array Value) (ah : Sx → Sx → Bool) (B : Nat) (w : World) : Prop :=
  ∀ (a b : Sx) (W : World), Below B w W → Calls Tryz.prog F (#[a.val, b.val] ++ caps) W fun e w' => e = .returned (.bool (ah a b)) ∧ Below W.heap.size W w'
theorem Sx.Tells2.below {F : Nat} {caps : Array Value} {ah : Sx → Sx → Bool} {B : Nat} {w w1 : World} (h : Sx.Tells2 F caps ah B w) (hb : Below B w w1) {C : Nat} (hC : B ≤ C) : Sx.Tells2 F caps ah C w1 :=
  fun a b W hW => h a b W (hb.trans (hW.mono hC))
structure Sx.Bx (w : World) (b : Nat) (g : Sx) : Prop where
  lt : b < w.heap.size
  at_ : g.at w b 0
  hp : w.heap[b]? = some (.cells g.cells.toArray 2 (0, 0))
theorem Sx.Bx.new (w : World) (g : Sx) : Sx.Bx (w.alloc (.cells g.cells.toArray 2)) w.heap.size g := by
  have h := heap_alloc_new w (.cells g.cells.toArray 2 (0, 0))
  refine ⟨by simp, Sx.at_of fun j u hu => ?_, h⟩
  rw [Nat.zero_add, cell_of_row _ _ j g.cells.toArray 2 (0, 0) h]
  simpa using hu
theorem Sx.Bx.below {w w' : World} {b : Nat} {g : Sx} (h : Sx.Bx w b g) (hb : Below w.heap.size w w') : Sx.Bx w' b g :=
  ⟨Nat.lt_of_lt_of_le h.lt hb.size, Sx.at_keep h.at_ fun i => hb.cell (p := ⟨b, i, none⟩) h.lt, (hb.block b h.lt).trans h.hp⟩
theorem Sx.Bx.sl {w : World} {b : Nat} {g : Sx} (h : Sx.Bx w b g) : Sl w (some ⟨b, 0, none⟩) g.cells := by
  intro _
  refine ⟨b, 0, rfl, fun j u hu => ?_⟩
  rw [Nat.zero_add, cell_of_row _ _ j g.cells.toArray 2 (0, 0) h.hp]
  simpa using hu
theorem Sx.Bx.got {w : World} {b : Nat} {g : Sx} (h : Sx.Bx w b g) : w.cell? ⟨b, 0, none⟩ = some (.int .i64 g.n) ∧ True := by
  have := h.at_
  unfold Sx.at at this
  simpa only [Nat.zero_add] using this
end
section
structure Ic where
  id : Int
  mult : Int
  price : Int
  nxt : Int
  L : List Sx
deriving DecidableEq
structure IqIs (w : World) (g : Iq) (c : Ic) : Prop where
  id : g.id = c.id
  mult : g.mult = c.mult
  price : g.price = c.price
  nxt : g.nxt = c.nxt
  len : g.mvL = c.L.length
  sl : Sl w g.mv (rc Sx.cells c.L)
theorem IqIs.below {w w' : World} {g : Iq} {c : Ic} (h : IqIs w g c) (hb : Below w.heap.size w w') : IqIs w' g c := ⟨h.id, h.mult, h.price, h.nxt, h.len, h.sl.below hb⟩
theorem IqIs.eq {w : World} {g : Iq} {c : Ic} (h : IqIs w g c) : g = ⟨c.id, c.mult, c.price, c.nxt, g.mv, c.L.length, g.mvC⟩ := by
  obtain ⟨a0, a1, a2, a3, e, f, k⟩ := g
  obtain ⟨h0, h1, h2, h3, h9, _⟩ := h
  simp only at h0 h1 h2 h3 h9
  subst h0; subst h1; subst h2; subst h3; subst h9; rfl
def IqTab (w : World) (l : List Iq) (cs : List Ic) : Prop := l.length = cs.length ∧ ∀ i, (h : i < l.length) → (h2 : i < cs.length) → IqIs w l[i] cs[i]
theorem IqTab.below {w w' : World} {l : List Iq} {cs : List Ic} (h : IqTab w l cs) (hb : Below w.heap.size w w') : IqTab w' l cs := ⟨h.1, fun i h1 h2 => (h.2 i h1 h2).below hb⟩
theorem IqTab.nil (w : World) : IqTab w [] [] := ⟨rfl, fun i h => by simp at h⟩
theorem IqTab.cons {w : World} {g : Iq} {c : Ic} {l : List Iq} {cs : List Ic} : IqTab w (g :: l) (c :: cs) ↔ IqIs w g c ∧ IqTab w l cs := by
  constructor
  · rintro ⟨h1, h2⟩
    exact ⟨h2 0 (by simp) (by simp), by simpa using h1, fun i a b => h2 (i + 1) (by simpa using a) (by simpa using b)⟩
  · rintro ⟨h0, h1, h2⟩
    refine ⟨by simpa using h1, fun i a b => ?_⟩
    cases i with
    | zero => exact h0
    | succ i => exact h2 i (by simpa using a) (by simpa using b)
theorem IqTab.app {w : World} {l : List Iq} {cs : List Ic} {g : Iq} {c : Ic} (h : IqTab w l cs) (hg : IqIs w g c) : IqTab w (l ++ [g]) (cs ++ [c]) := by
  refine ⟨by simp [h.1], fun i h1 h2 => ?_⟩
  have hl := h.1
  rcases Nat.lt_or_ge i l.length with hi | hi
  · rw [List.getElem_append_left hi, List.getElem_append_left (by omega)]; exact h.2 i hi (by omega)
  · have : i = l.length := by simp at h1; omega
    subst this
    simp [hl]
    exact hg
theorem IqTab.append {w : World} : ∀ {l m : List Iq} {cs ds : List Ic}, IqTab w l cs → IqTab w m ds → IqTab w (l ++ m) (cs ++ ds)
  | [], m, [], ds, _, h => h
  | [], _, _ :: _, _, h, _ => by have := h.1; simp at this
  | _ :: _, _, [], _, h, _ => by have := h.1; simp at this
  | a :: l, m, d :: cs, ds, h, k => by
    obtain ⟨h1, h2⟩ := IqTab.cons.1 h
    exact IqTab.cons.2 ⟨h1, IqTab.append h2 k⟩
theorem IqTab.take {w : World} {l : List Iq} {cs : List Ic} (h : IqTab w l cs) (k : Nat) : IqTab w (l.take k) (cs.take k) := by
  refine ⟨by simp [h.1], fun i h1 h2 => ?_⟩
  rw [List.getElem_take, List.getElem_take]
  exact h.2 i (by simp at h1; omega) (by simp at h2; omega)
theorem IqTab.drop {w : World} {l : List Iq} {cs : List Ic} (h : IqTab w l cs) (k : Nat) : IqTab w (l.drop k) (cs.drop k) := by
  refine ⟨by simp [h.1], fun i h1 h2 => ?_⟩
  rw [List.getElem_drop, List.getElem_drop]
  exact h.2 _ (by simp at h1; omega) (by simp at h2; omega)
theorem IqTab.filter {w : World} {p : Iq → Bool} {q : Ic → Bool} (hpq : ∀ g c, IqIs w g c → p g = q c) : ∀ {l : List Iq} {cs : List Ic}, IqTab w l cs → IqTab w (l.filter p) (cs.filter q)
  | [], [], _ => IqTab.nil w
  | [], _ :: _, h => by have := h.1; simp at this
  | _ :: _, [], h => by have := h.1; simp at this
  | a :: l, d :: cs, h => by
    obtain ⟨h1, h2⟩ := IqTab.cons.1 h
    rw [List.filter_cons, List.filter_cons, hpq a d h1]
    split
    · exact IqTab.cons.2 ⟨h1, IqTab.filter hpq h2⟩
    · exact IqTab.filter hpq h2
theorem IqTab.put {w : World} {g : Iq} {c : Ic} {ah : Iq → Iq → Bool} {ac : Ic → Ic → Bool} (hah : ∀ g c g' c', IqIs w g c → IqIs w g' c' → ah g g' = ac c c') (hg : IqIs w g c) : ∀ {l : List Iq} {cs : List Ic}, IqTab w l cs → IqTab w (putR ah l g) (putR ac cs c)
  | [], [], _ => IqTab.cons.2 ⟨hg, IqTab.nil w⟩
  | [], _ :: _, h => by have := h.1; simp at this
  | _ :: _, [], h => by have := h.1; simp at this
  | a :: l, d :: cs, h => by
    obtain ⟨h1, h2⟩ := IqTab.cons.1 h
    unfold putR
    rw [hah a d g c h1 hg, hah g c a d hg h1]
    split
    · exact IqTab.cons.2 ⟨h1, IqTab.put hah hg h2⟩
    · split
      · exact IqTab.cons.2 ⟨hg, IqTab.cons.2 ⟨h1, h2⟩⟩
      · exact IqTab.cons.2 ⟨hg, h2⟩
theorem IqTab.set {w : World} {l : List Iq} {cs : List Ic} {g : Iq} {c : Ic} (h : IqTab w l cs) (hg : IqIs w g c) (k : Nat) : IqTab w (l.set k g) (cs.set k c) := by
  refine ⟨by simp [h.1], fun i h1 h2 => ?_⟩
  rw [List.getElem_set, List.getElem_set]
  split
  · exact hg
  · exact h.2 i (by simpa using h1) (by simpa using h2)
theorem IqTab.find {w : World} {p : Iq → Bool} {q : Ic → Bool} (hpq : ∀ g c, IqIs w g c → p g = q c) : ∀ {l : List Iq} {cs : List Ic}, IqTab w l cs → (l.find? p = none ∧ cs.find? q = none) ∨ (∃ g c, l.find? p = some g ∧ cs.find? q = some c ∧ IqIs w g c)
  | [], [], _ => .inl ⟨rfl, rfl⟩
  | [], _ :: _, h => by have := h.1; simp at this
  | _ :: _, [], h => by have := h.1; simp at this
  | a :: l, d :: cs, h => by
    obtain ⟨h1, h2⟩ := IqTab.cons.1 h
    rw [List.find?_cons, List.find?_cons, hpq a d h1]
    cases q d with
    | true => exact .inr ⟨a, d, rfl, rfl, h1⟩
    | false => exact IqTab.find hpq h2
theorem IqTab.rising {w : World} {ah : Iq → Iq → Bool} {ac : Ic → Ic → Bool} (hah : ∀ g c g' c', IqIs w g c → IqIs w g' c' → ah g g' = ac c c') : ∀ {l : List Iq} {cs : List Ic}, IqTab w l cs → risingL ah l = risingL ac cs
  | [], [], _ => rfl
  | [], _ :: _, h => by have := h.1; simp at this
  | _ :: _, [], h => by have := h.1; simp at this
  | [a], [d], h => rfl
  | [a], _ :: _ :: _, h => by have := h.1; simp at this
  | _ :: _ :: _, [d], h => by have := h.1; simp at this
  | a :: b :: l, d :: e :: cs, h => by
    obtain ⟨h1, h2⟩ := IqTab.cons.1 h
    obtain ⟨h3, h4⟩ := IqTab.cons.1 h2
    simp only [risingL]
    rw [hah a d b e h1 h3, IqTab.rising hah h2]
structure IqOwn (B : Nat) (w : World) (g : Iq) (c : Ic) : Prop where
  id : g.id = c.id
  mult : g.mult = c.mult
  price : g.price = c.price
  nxt : g.nxt = c.nxt
  len : g.mvL = c.L.length
  own : w.ownsRow B 2 1 (.slice g.mv c.L.length g.mvC) c.L.length (rc Sx.cells c.L)
theorem IqOwn.is {B : Nat} {w : World} {g : Iq} {c : Ic} (h : IqOwn B w g c) : IqIs w g c := ⟨h.id, h.mult, h.price, h.nxt, h.len, Sl.of_own h.own⟩
theorem IqOwn.below {B : Nat} {w w' : World} {g : Iq} {c : Ic} (h : IqOwn B w g c) (hb : Below w.heap.size w w') : IqOwn B w' g c := ⟨h.id, h.mult, h.price, h.nxt, h.len, own_below h.own hb⟩
theorem own_kept_iq {w w' : World} {B B' : Nat} {v v' : Value} {n n' : Nat} {xs ys : List Value} (h : w.ownsRow B 2 1 v n xs) (ho : w.ownsRow B' 92 5 v' n' ys) (hg : w.grownBy w' v'.ownBlock) : w'.ownsRow B 2 1 v n xs := own_kept_types (by decide) h ho hg
theorem IqOwn.kept {w w' : World} {B B' : Nat} {g : Iq} {c : Ic} {v' : Value} {n' : Nat} {ys : List Value} (h : IqOwn B w g c) (ho : w.ownsRow B' 92 5 v' n' ys) (hg : w.grownBy w' v'.ownBlock) : IqOwn B w' g c := ⟨h.id, h.mult, h.price, h.nxt, h.len, own_kept_iq h.own ho hg⟩
def IqOTab (B : Nat) (w : World) (l : List Iq) (cs : List Ic) : Prop := l.length = cs.length ∧ ∀ i, (h : i < l.length) → (h2 : i < cs.length) → IqOwn B w l[i] cs[i]
theorem IqOTab.tab {B : Nat} {w : World} {l : List Iq} {cs : List Ic} (h : IqOTab B w l cs) : IqTab w l cs := ⟨h.1, fun i h1 h2 => (h.2 i h1 h2).is⟩
theorem IqOTab.below {B : Nat} {w w' : World} {l : List Iq} {cs : List Ic} (h : IqOTab B w l cs) (hb : Below w.heap.size w w') : IqOTab B w' l cs := ⟨h.1, fun i h1 h2 => (h.2 i h1 h2).below hb⟩
theorem IqOTab.kept {w w' : World} {B B' : Nat} {l : List Iq} {cs : List Ic} {v' : Value} {n' : Nat} {ys : List Value} (h : IqOTab B w l cs) (ho : w.ownsRow B' 92 5 v' n' ys) (hg : w.grownBy w' v'.ownBlock) : IqOTab B w' l cs := ⟨h.1, fun i h1 h2 => (h.2 i h1 h2).kept ho hg⟩
theorem IqOTab.app {B : Nat} {w : World} {l : List Iq} {cs : List Ic} {g : Iq} {c : Ic} (h : IqOTab B w l cs) (hg : IqOwn B w g c) : IqOTab B w (l ++ [g]) (cs ++ [c]) := by
  refine ⟨by simp [h.1], fun i h1 h2 => ?_⟩
  have hl := h.1
  rcases Nat.lt_or_ge i l.length with hi | hi
  · rw [List.getElem_append_left hi, List.getElem_append_left (by omega)]; exact h.2 i hi (by omega)
  · have : i = l.length := by simp at h1; omega
    subst this
    simp [hl]
    exact hg
structure BzIq (w : World) (b : Nat) : Prop where
  bk : Bk w b #[.int .i64 0, .int .i64 0, .int .i64 0, .int .i64 0, .slice none 0 0]
  fz : ∀ i, w.frozen? ⟨b, i, none⟩ = false
theorem BzIq.new (w : World) : BzIq (w.alloc (.cells #[.int .i64 0, .int .i64 0, .int .i64 0, .int .i64 0, .slice none 0 0] 92)) w.heap.size := ⟨Bk.new w _ _, fun i => by simp⟩
theorem BzIq.below {w w' : World} {b : Nat} (h : BzIq w b) (hb : Below w.heap.size w w') : BzIq w' b := ⟨h.bk.below hb, fun i => by rw [hb.frozen (p := ⟨b, i, none⟩) h.bk.1]; exact h.fz i⟩
theorem BzIq.got {w : World} {b : Nat} (h : BzIq w b) : w.cell? ⟨b, 0, none⟩ = some (.int .i64 0) ∧ w.cell? ⟨b, 1, none⟩ = some (.int .i64 0) ∧ w.cell? ⟨b, 2, none⟩ = some (.int .i64 0) ∧ w.cell? ⟨b, 3, none⟩ = some (.int .i64 0) ∧ w.cell? ⟨b, 4, none⟩ = some (.slice none 0 0) := by
  have h1 := h.bk.2
  exact ⟨h1 0, h1 1, h1 2, h1 3, h1 4⟩
structure AfIq (w : World) (b : Nat) (g : Iq) : Prop where
  bx : Iq.Bx w b g
  fz : ∀ i, w.frozen? ⟨b, i, none⟩ = false
theorem AfIq.below {w w' : World} {b : Nat} {g : Iq} (h : AfIq w b g) (hb : Below w.heap.size w w') : AfIq w' b g := ⟨h.bx.below hb, fun i => by rw [hb.frozen (p := ⟨b, i, none⟩) h.bx.lt]; exact h.fz i⟩
theorem dup1_iq (id : Int) (mult : Int) (price : Int) (nxt : Int) (A : Option Addr) (cap : Nat) (L : List Sx) (w : World) (hl : L.length ≤ 900000) (hs : Sl w A (rc Sx.cells L)) :
    Calls Tryz.prog 133 #[.agg #[.int .i64 id, .int .i64 mult, .int .i64 price, .int .i64 nxt, .slice A L.length cap]] w fun e w' => (∃ A' c', e = .returned (.agg #[.int .i64 id, .int .i64 mult, .int .i64 price, .int .i64 nxt, .slice A' L.length c']) ∧ w'.ownsRow w.heap.size 2 1 (.slice A' L.length c') L.length (rc Sx.cells L)) ∧ Below w.heap.size w w' := by
  have hB0 := since_alloc (since_alloc (Below.refl _ w) (.cells #[.int .i64 id, .int .i64 mult, .int .i64 price, .int .i64 nxt, .slice A L.length cap] 92)) (.cells #[.int .i64 0, .int .i64 0, .int .i64 0, .int .i64 0, .slice none 0 0] 92)
  have hV0 : AfIq ((w.alloc (.cells #[.int .i64 id, .int .i64 mult, .int .i64 price, .int .i64 nxt, .slice A L.length cap] 92)).alloc (.cells #[.int .i64 0, .int .i64 0, .int .i64 0, .int .i64 0, .slice none 0 0] 92)) w.heap.size ⟨id, mult, price, nxt, A, L.length, cap⟩ := ⟨(Iq.Bx.new w ⟨id, mult, price, nxt, A, L.length, cap⟩).below ((Below.refl _ _).alloc (Nat.le_refl _) (.cells #[.int .i64 0, .int .i64 0, .int .i64 0, .int .i64 0, .slice none 0 0] 92)), fun i => by simp⟩
  have hZ0 : BzIq ((w.alloc (.cells #[.int .i64 id, .int .i64 mult, .int .i64 price, .int .i64 nxt, .slice A L.length cap] 92)).alloc (.cells #[.int .i64 0, .int .i64 0, .int .i64 0, .int .i64 0, .slice none 0 0] 92)) (w.heap.size + 1) := by have h := BzIq.new (w.alloc (.cells #[.int .i64 id, .int .i64 mult, .int .i64 price, .int .i64 nxt, .slice A L.length cap] 92)); rw [World.size_alloc] at h; exact h
  have hs0 := (hs.alloc (.cells #[.int .i64 id, .int .i64 mult, .int .i64 price, .int .i64 nxt, .slice A L.length cap] 92)).alloc (.cells #[.int .i64 0, .int .i64 0, .int .i64 0, .int .i64 0, .slice none 0 0] 92)
  clear hs
  go_enter Tryz.func133, Tryz.ntmps133
  go_upto_region 1 with fail
  generalize hWW : (w.alloc (.cells #[.int .i64 id, .int .i64 mult, .int .i64 price, .int .i64 nxt, .slice A L.length cap] 92)).alloc (.cells #[.int .i64 0, .int .i64 0, .int .i64 0, .int .i64 0, .slice none 0 0] 92) = w0 at *
  clear hWW
  have hcs := @cell_set
  obtain ⟨q0, q1, q2, q3, q4⟩ := (hV0.bx).got
  simp only at q0 q1 q2 q3 q4
  obtain ⟨z0, z1, z2, z3, z4⟩ := hZ0.got
  have fq := hV0.fz
  have fz := hZ0.fz
  have lq := hV0.bx.lt
  have lz := hZ0.bk.1
  have hzl := hZ0.bk.1
  go_wp2_with fail
  refine (clone_sx A cap L _ (by omega) hs0).mono ?_
  rintro e w1 ⟨⟨A1, c1, rfl, hown⟩, hb⟩
  have hV1 := hV0.below hb
  have hZ1 := hZ0.below hb
  have hB1 := since_step hB0 hb
  clear hb q0 q1 q2 q3 q4 z0 z1 z2 z3 z4 fq fz lq lz
  obtain ⟨q0, q1, q2, q3, q4⟩ := (hV1.bx).got
  simp only at q0 q1 q2 q3 q4
  obtain ⟨z0, z1, z2, z3, z4⟩ := hZ1.got
  have fq := hV1.fz
  have fz := hZ1.fz
  have lq := hV1.bx.lt
  have lz := hZ1.bk.1
  go_wp2_with fail
  refine bodyPost_ret (v := .agg #[.int .i64 id, .int .i64 mult, .int .i64 price, .int .i64 nxt, .slice A1 L.length c1]) ?_ rfl ⟨⟨A1, c1, rfl, own_base ?_ hB0.size⟩, ?_⟩
  · simp [results, Tryz.results133, go_sem, z0, z1, z2, z3, z4, q0, q1, q2, q3, q4, fz, fq, hcs]
  · repeat' (first | with_reducible exact hown | with_reducible refine own_setFar' ?_ ?_ _)
    all_goals first | (simp; done) | (simp; omega)
  · repeat' (first | with_reducible exact hB1 | with_reducible refine Below.setCell ?_ ?_ _ | with_reducible refine Below.alloc ?_ ?_ _)
    all_goals first | (simp; done) | (simp; omega)
end
end Go.Proofs.YtmjndpkfhdoljaaGreat
