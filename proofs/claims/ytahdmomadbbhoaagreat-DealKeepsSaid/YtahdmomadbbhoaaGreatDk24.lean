import Derived.Test.YtahdmomadbbhoaaGreatDk03
import Derived.Test.YtahdmomadbbhoaaGreatDk15
import Derived.Test.YtahdmomadbbhoaaGreatDk23
section
namespace Go.Proofs.YtahdmomadbbhoaaGreat
open Go.ChangeShapes Go.WideShapes Go.ChangeAt Go.RowKit
set_option linter.unusedVariables false
set_option linter.unusedSimpArgs false

structure Pc where
  ac : Int
  cl : Int
  L : List Lg
deriving DecidableEq
structure PoIs (w : World) (g : Po) (c : Pc) : Prop where
  ac : g.ac = c.ac
  cl : g.cl = c.cl
  len : g.lgL = c.L.length
  sl : Sl w g.lg (rc Lg.cells c.L)
theorem PoIs.below {w w' : World} {g : Po} {c : Pc} (h : PoIs w g c) (hb : Below w.heap.size w w') : PoIs w' g c := ⟨h.ac, h.cl, h.len, h.sl.below hb⟩
theorem PoIs.eq {w : World} {g : Po} {c : Pc} (h : PoIs w g c) : g = ⟨c.ac, c.cl, g.lg, c.L.length, g.lgC⟩ := by
  obtain ⟨a0, a1, e, f, k⟩ := g
  obtain ⟨h0, h1, h9, _⟩ := h
  simp only at h0 h1 h9
  subst h0; subst h1; subst h9; rfl
def PoTab (w : World) (l : List Po) (cs : List Pc) : Prop := l.length = cs.length ∧ ∀ i, (h : i < l.length) → (h2 : i < cs.length) → PoIs w l[i] cs[i]
theorem PoTab.below {w w' : World} {l : List Po} {cs : List Pc} (h : PoTab w l cs) (hb : Below w.heap.size w w') : PoTab w' l cs := ⟨h.1, fun i h1 h2 => (h.2 i h1 h2).below hb⟩
theorem PoTab.nil (w : World) : PoTab w [] [] := ⟨rfl, fun i h => by simp at h⟩
theorem PoTab.cons {w : World} {g : Po} {c : Pc} {l : List Po} {cs : List Pc} : PoTab w (g :: l) (c :: cs) ↔ PoIs w g c ∧ PoTab w l cs := by
  constructor
  · rintro ⟨h1, h2⟩
    exact ⟨h2 0 (by simp) (by simp), by simpa using h1, fun i a b => h2 (i + 1) (by simpa using a) (by simpa using b)⟩
  · rintro ⟨h0, h1, h2⟩
    refine ⟨by simpa using h1, fun i a b => ?_⟩
    cases i with
    | zero => exact h0
    | succ i => exact h2 i (by simpa using a) (by simpa using b)
theorem PoTab.app {w : World} {l : List Po} {cs : List Pc} {g : Po} {c : Pc} (h : PoTab w l cs) (hg : PoIs w g c) : PoTab w (l ++ [g]) (cs ++ [c]) := by
  refine ⟨by simp [h.1], fun i h1 h2 => ?_⟩
  have hl := h.1
  rcases Nat.lt_or_ge i l.length with hi | hi
  · rw [List.getElem_append_left hi, List.getElem_append_left (by omega)]; exact h.2 i hi (by omega)
  · have : i = l.length := by simp at h1; omega
    subst this
    simp [hl]
    exact hg
theorem PoTab.append {w : World} : ∀ {l m : List Po} {cs ds : List Pc}, PoTab w l cs → PoTab w m ds → PoTab w (l ++ m) (cs ++ ds)
  | [], m, [], ds, _, h => h
  | [], _, _ :: _, _, h, _ => by have := h.1; simp at this
  | _ :: _, _, [], _, h, _ => by have := h.1; simp at this
  | a :: l, m, d :: cs, ds, h, k => by
    obtain ⟨h1, h2⟩ := PoTab.cons.1 h
    exact PoTab.cons.2 ⟨h1, PoTab.append h2 k⟩
theorem PoTab.take {w : World} {l : List Po} {cs : List Pc} (h : PoTab w l cs) (k : Nat) : PoTab w (l.take k) (cs.take k) := by
  refine ⟨by simp [h.1], fun i h1 h2 => ?_⟩
  rw [List.getElem_take, List.getElem_take]
  exact h.2 i (by simp at h1; omega) (by simp at h2; omega)
theorem PoTab.drop {w : World} {l : List Po} {cs : List Pc} (h : PoTab w l cs) (k : Nat) : PoTab w (l.drop k) (cs.drop k) := by
  refine ⟨by simp [h.1], fun i h1 h2 => ?_⟩
  rw [List.getElem_drop, List.getElem_drop]
  exact h.2 _ (by simp at h1; omega) (by simp at h2; omega)
theorem PoTab.filter {w : World} {p : Po → Bool} {q : Pc → Bool} (hpq : ∀ g c, PoIs w g c → p g = q c) : ∀ {l : List Po} {cs : List Pc}, PoTab w l cs → PoTab w (l.filter p) (cs.filter q)
  | [], [], _ => PoTab.nil w
  | [], _ :: _, h => by have := h.1; simp at this
  | _ :: _, [], h => by have := h.1; simp at this
  | a :: l, d :: cs, h => by
    obtain ⟨h1, h2⟩ := PoTab.cons.1 h
    rw [List.filter_cons, List.filter_cons, hpq a d h1]
    split
    · exact PoTab.cons.2 ⟨h1, PoTab.filter hpq h2⟩
    · exact PoTab.filter hpq h2
theorem PoTab.put {w : World} {g : Po} {c : Pc} {ah : Po → Po → Bool} {ac : Pc → Pc → Bool} (hah : ∀ g c g' c', PoIs w g c → PoIs w g' c' → ah g g' = ac c c') (hg : PoIs w g c) : ∀ {l : List Po} {cs : List Pc}, PoTab w l cs → PoTab w (putR ah l g) (putR ac cs c)
  | [], [], _ => PoTab.cons.2 ⟨hg, PoTab.nil w⟩
  | [], _ :: _, h => by have := h.1; simp at this
  | _ :: _, [], h => by have := h.1; simp at this
  | a :: l, d :: cs, h => by
    obtain ⟨h1, h2⟩ := PoTab.cons.1 h
    unfold putR
    rw [hah a d g c h1 hg, hah g c a d hg h1]
    split
    · exact PoTab.cons.2 ⟨h1, PoTab.put hah hg h2⟩
    · split
      · exact PoTab.cons.2 ⟨hg, PoTab.cons.2 ⟨h1, h2⟩⟩
      · exact PoTab.cons.2 ⟨hg, h2⟩
theorem PoTab.set {w : World} {l : List Po} {cs : List Pc} {g : Po} {c : Pc} (h : PoTab w l cs) (hg : PoIs w g c) (k : Nat) : PoTab w (l.set k g) (cs.set k c) := by
  refine ⟨by simp [h.1], fun i h1 h2 => ?_⟩
  rw [List.getElem_set, List.getElem_set]
  split
  · exact hg
  · exact h.2 i (by simpa using h1) (by simpa using h2)
theorem PoTab.find {w : World} {p : Po → Bool} {q : Pc → Bool} (hpq : ∀ g c, PoIs w g c → p g = q c) : ∀ {l : List Po} {cs : List Pc}, PoTab w l cs → (l.find? p = none ∧ cs.find? q = none) ∨ (∃ g c, l.find? p = some g ∧ cs.find? q = some c ∧ PoIs w g c)
  | [], [], _ => .inl ⟨rfl, rfl⟩
  | [], _ :: _, h => by have := h.1; simp at this
  | _ :: _, [], h => by have := h.1; simp at this
  | a :: l, d :: cs, h => by
    obtain ⟨h1, h2⟩ := PoTab.cons.1 h
    rw [List.find?_cons, List.find?_cons, hpq a d h1]
    cases q d with
    | true => exact .inr ⟨a, d, rfl, rfl, h1⟩
    | false => exact PoTab.find hpq h2
theorem PoTab.rising {w : World} {ah : Po → Po → Bool} {ac : Pc → Pc → Bool} (hah : ∀ g c g' c', PoIs w g c → PoIs w g' c' → ah g g' = ac c c') : ∀ {l : List Po} {cs : List Pc}, PoTab w l cs → risingL ah l = risingL ac cs
  | [], [], _ => rfl
  | [], _ :: _, h => by have := h.1; simp at this
  | _ :: _, [], h => by have := h.1; simp at this
  | [a], [d], h => rfl
  | [a], _ :: _ :: _, h => by have := h.1; simp at this
  | _ :: _ :: _, [d], h => by have := h.1; simp at this
  | a :: b :: l, d :: e :: cs, h => by
    obtain ⟨h1, h2⟩ := PoTab.cons.1 h
    obtain ⟨h3, h4⟩ := PoTab.cons.1 h2
    simp only [risingL]
    rw [hah a d b e h1 h3, PoTab.rising hah h2]
structure PoOwn (B : Nat) (w : World) (g : Po) (c : Pc) : Prop where
  ac : g.ac = c.ac
  cl : g.cl = c.cl
  len : g.lgL = c.L.length
  own : w.ownsRow B 75 2 (.slice g.lg c.L.length g.lgC) c.L.length (rc Lg.cells c.L)
theorem PoOwn.is {B : Nat} {w : World} {g : Po} {c : Pc} (h : PoOwn B w g c) : PoIs w g c := ⟨h.ac, h.cl, h.len, Sl.of_own h.own⟩
theorem PoOwn.below {B : Nat} {w w' : World} {g : Po} {c : Pc} (h : PoOwn B w g c) (hb : Below w.heap.size w w') : PoOwn B w' g c := ⟨h.ac, h.cl, h.len, own_below h.own hb⟩
theorem own_kept_po {w w' : World} {B B' : Nat} {v v' : Value} {n n' : Nat} {xs ys : List Value} (h : w.ownsRow B 75 2 v n xs) (ho : w.ownsRow B' 97 3 v' n' ys) (hg : w.grownBy w' v'.ownBlock) : w'.ownsRow B 75 2 v n xs := own_kept_types (by decide) h ho hg
theorem PoOwn.kept {w w' : World} {B B' : Nat} {g : Po} {c : Pc} {v' : Value} {n' : Nat} {ys : List Value} (h : PoOwn B w g c) (ho : w.ownsRow B' 97 3 v' n' ys) (hg : w.grownBy w' v'.ownBlock) : PoOwn B w' g c := ⟨h.ac, h.cl, h.len, own_kept_po h.own ho hg⟩
def PoOTab (B : Nat) (w : World) (l : List Po) (cs : List Pc) : Prop := l.length = cs.length ∧ ∀ i, (h : i < l.length) → (h2 : i < cs.length) → PoOwn B w l[i] cs[i]
theorem PoOTab.tab {B : Nat} {w : World} {l : List Po} {cs : List Pc} (h : PoOTab B w l cs) : PoTab w l cs := ⟨h.1, fun i h1 h2 => (h.2 i h1 h2).is⟩
theorem PoOTab.below {B : Nat} {w w' : World} {l : List Po} {cs : List Pc} (h : PoOTab B w l cs) (hb : Below w.heap.size w w') : PoOTab B w' l cs := ⟨h.1, fun i h1 h2 => (h.2 i h1 h2).below hb⟩
theorem PoOTab.kept {w w' : World} {B B' : Nat} {l : List Po} {cs : List Pc} {v' : Value} {n' : Nat} {ys : List Value} (h : PoOTab B w l cs) (ho : w.ownsRow B' 97 3 v' n' ys) (hg : w.grownBy w' v'.ownBlock) : PoOTab B w' l cs := ⟨h.1, fun i h1 h2 => (h.2 i h1 h2).kept ho hg⟩
theorem PoOTab.app {B : Nat} {w : World} {l : List Po} {cs : List Pc} {g : Po} {c : Pc} (h : PoOTab B w l cs) (hg : PoOwn B w g c) : PoOTab B w (l ++ [g]) (cs ++ [c]) := by
  refine ⟨by simp [h.1], fun i h1 h2 => ?_⟩
  have hl := h.1
  rcases Nat.lt_or_ge i l.length with hi | hi
  · rw [List.getElem_append_left hi, List.getElem_append_left (by omega)]; exact h.2 i hi (by omega)
  · have : i = l.length := by simp at h1; omega
    subst this
    simp [hl]
    exact hg
structure BzPo (w : World) (b : Nat) : Prop where
  bk : Bk w b #[.int .i64 0, .int .i64 0, .slice none 0 0]
  fz : ∀ i, w.frozen? ⟨b, i, none⟩ = false
theorem BzPo.new (w : World) : BzPo (w.alloc (.cells #[.int .i64 0, .int .i64 0, .slice none 0 0] 97)) w.heap.size := ⟨Bk.new w _ _, fun i => by simp⟩
theorem BzPo.below {w w' : World} {b : Nat} (h : BzPo w b) (hb : Below w.heap.size w w') : BzPo w' b := ⟨h.bk.below hb, fun i => by rw [hb.frozen (p := ⟨b, i, none⟩) h.bk.1]; exact h.fz i⟩
theorem BzPo.got {w : World} {b : Nat} (h : BzPo w b) : w.cell? ⟨b, 0, none⟩ = some (.int .i64 0) ∧ w.cell? ⟨b, 1, none⟩ = some (.int .i64 0) ∧ w.cell? ⟨b, 2, none⟩ = some (.slice none 0 0) := by
  have h1 := h.bk.2
  exact ⟨h1 0, h1 1, h1 2⟩
structure AfPo (w : World) (b : Nat) (g : Po) : Prop where
  bx : Po.Bx w b g
  fz : ∀ i, w.frozen? ⟨b, i, none⟩ = false
theorem AfPo.below {w w' : World} {b : Nat} {g : Po} (h : AfPo w b g) (hb : Below w.heap.size w w') : AfPo w' b g := ⟨h.bx.below hb, fun i => by rw [hb.frozen (p := ⟨b, i, none⟩) h.bx.lt]; exact h.fz i⟩
set_option maxHeartbeats 4000000 in
set_option maxRecDepth 100000 in
theorem dup1_po (ac : Int) (cl : Int) (A : Option Addr) (cap : Nat) (L : List Lg) (w : World) (hl : L.length ≤ 900000) (hs : Sl w A (rc Lg.cells L)) :
    Calls Tryz.prog 115 #[.agg #[.int .i64 ac, .int .i64 cl, .slice A L.length cap]] w fun e w' => (∃ A' c', e = .returned (.agg #[.int .i64 ac, .int .i64 cl, .slice A' L.length c']) ∧ w'.ownsRow w.heap.size 75 2 (.slice A' L.length c') L.length (rc Lg.cells L)) ∧ Below w.heap.size w w' := by
  have hB0 := since_alloc (since_alloc (Below.refl _ w) (.cells #[.int .i64 ac, .int .i64 cl, .slice A L.length cap] 97)) (.cells #[.int .i64 0, .int .i64 0, .slice none 0 0] 97)
  have hV0 : AfPo ((w.alloc (.cells #[.int .i64 ac, .int .i64 cl, .slice A L.length cap] 97)).alloc (.cells #[.int .i64 0, .int .i64 0, .slice none 0 0] 97)) w.heap.size ⟨ac, cl, A, L.length, cap⟩ := ⟨(Po.Bx.new w ⟨ac, cl, A, L.length, cap⟩).below ((Below.refl _ _).alloc (Nat.le_refl _) (.cells #[.int .i64 0, .int .i64 0, .slice none 0 0] 97)), fun i => by simp⟩
  have hZ0 : BzPo ((w.alloc (.cells #[.int .i64 ac, .int .i64 cl, .slice A L.length cap] 97)).alloc (.cells #[.int .i64 0, .int .i64 0, .slice none 0 0] 97)) (w.heap.size + 1) := by have h := BzPo.new (w.alloc (.cells #[.int .i64 ac, .int .i64 cl, .slice A L.length cap] 97)); rw [World.size_alloc] at h; exact h
  have hs0 := (hs.alloc (.cells #[.int .i64 ac, .int .i64 cl, .slice A L.length cap] 97)).alloc (.cells #[.int .i64 0, .int .i64 0, .slice none 0 0] 97)
  clear hs
  go_enter Tryz.func115, Tryz.ntmps115
  go_upto_region 1 with fail
  generalize hWW : (w.alloc (.cells #[.int .i64 ac, .int .i64 cl, .slice A L.length cap] 97)).alloc (.cells #[.int .i64 0, .int .i64 0, .slice none 0 0] 97) = w0 at *
  clear hWW
  have hcs := @cell_set
  obtain ⟨q0, q1, q2⟩ := (hV0.bx).got
  simp only at q0 q1 q2
  obtain ⟨z0, z1, z2⟩ := hZ0.got
  have fq := hV0.fz
  have fz := hZ0.fz
  have lq := hV0.bx.lt
  have lz := hZ0.bk.1
  have hzl := hZ0.bk.1
  go_wp2_with fail
  refine (clone_lg A cap L _ (by omega) hs0).mono ?_
  rintro e w1 ⟨⟨A1, c1, rfl, hown⟩, hb⟩
  have hV1 := hV0.below hb
  have hZ1 := hZ0.below hb
  have hB1 := since_step hB0 hb
  clear hb q0 q1 q2 z0 z1 z2 fq fz lq lz
  obtain ⟨q0, q1, q2⟩ := (hV1.bx).got
  simp only at q0 q1 q2
  obtain ⟨z0, z1, z2⟩ := hZ1.got
  have fq := hV1.fz
  have fz := hZ1.fz
  have lq := hV1.bx.lt
  have lz := hZ1.bk.1
  go_wp2_with fail
  refine bodyPost_ret (v := .agg #[.int .i64 ac, .int .i64 cl, .slice A1 L.length c1]) ?_ rfl ⟨⟨A1, c1, rfl, own_base ?_ hB0.size⟩, ?_⟩
  · simp [results, Tryz.results115, go_sem, z0, z1, z2, q0, q1, q2, fz, fq, hcs]
  · repeat' (first | with_reducible exact hown | with_reducible refine own_setFar' ?_ ?_ _)
    all_goals first | (simp; done) | (simp; omega)
  · repeat' (first | with_reducible exact hB1 | with_reducible refine Below.setCell ?_ ?_ _ | with_reducible refine Below.alloc ?_ ?_ _)
    all_goals first | (simp; done) | (simp; omega)
def DupResPo (w w' : World) (e : Ending) (cs : List Pc) : Prop :=
  ∃ (l : List Po) (A' : Option Addr) (c' : Nat), e = .returned (.slice A' l.length c') ∧ w'.ownsRow w.heap.size 97 3 (.slice A' l.length c') l.length (rc Po.cells l) ∧ PoOTab w.heap.size w' l cs
def DRelPo (cs : List Pc) (W : World) (out i : Value) (wr : World) : Prop :=
  ∃ (k : Nat) (l : List Po) (A' : Option Addr) (c' : Nat), k ≤ cs.length ∧ i = .int .i64 k ∧ l.length ≤ k ∧ out = .slice A' l.length c' ∧ wr.ownsRow W.heap.size 97 3 (.slice A' l.length c') l.length (rc Po.cells l) ∧ PoOTab W.heap.size wr l (cs.take k) ∧ Below W.heap.size W wr
set_option maxHeartbeats 4000000 in
set_option maxRecDepth 100000 in
theorem each_po (A : Option Addr) (cap : Nat) (l : List Po) (cs : List Pc) (w : World) (hl : l.length ≤ 900000) (hcl : ∀ c ∈ cs, c.L.length ≤ 900000) (hs : Sl w A (rc Po.cells l)) (ht : PoTab w l cs) :
    Calls Tryz.prog 114 #[.slice A l.length cap, .func (.func 115) #[] #[]] w fun e w' => DupResPo w w' e cs ∧ Below w.heap.size w w' := by
  have HLC := Lib.hid ht.1
  go_enter Tryz.func114, Tryz.ntmps114
  go_wp2_with (first
    | (at_make; refine wpList_mk rfl (.const (.int .i64 0)) (.tmp 9) rfl EPo l.length rfl rfl rfl (by omega) (by unfold maxLen; omega) (Nat.le_refl _) ?_; intro W2 hownW hbW)
    | fail)
  go_loopw [5, 13] (fun out i wr => DRelPo cs w out i wr) (fun _ i _ => l.length - (intOf i).toNat)
  case atStart => exact ⟨0, [], _, _, by omega, rfl, by simp, rfl, by simpa [rc] using hownW, ⟨rfl, fun i h => by simp at h⟩, hbW⟩
  case round =>
    obtain ⟨k, m, A', c', hk, rfl, hmk, rfl, hown, hot, hB⟩ := hrel
    clear hownW hbW
    by_cases hlt : k < l.length
    · obtain ⟨b, o, rfl, hbw, hg⟩ := (hs.below hB).po hlt
      have hltc : k < cs.length := by have := HLC.out; omega
      have hi := ht.2 k hlt hltc
      have hcl2 := hcl _ (List.getElem_mem hltc)
      have HT : Hid (cs.take (k + 1) = cs.take k ++ [cs[k]'hltc]) := Lib.hid (take_snoc cs k hltc)
      have hlk : (k : Int) < (l.length : Int) := by omega
      have hsz := hB.size
      obtain ⟨c, hc⟩ : ∃ c, (cs[k]'hltc) = c := ⟨_, rfl⟩
      rw [hc] at hi HT hcl2
      clear hc hs ht hcl
      have hge := hi.eq
      rw [hge] at hg
      clear hge
      obtain ⟨g0, g1, g2⟩ := hg
      simp only at g0 g1 g2
      have hsl := (hi.sl.below hB)
      clear hi
      generalize l[k].lg = cl at *
      generalize l[k].lgC = cc at *
      have hA := since_alloc hB (.cells #[.int .i64 c.ac, .int .i64 c.cl, .slice cl c.L.length cc] 97)
      have HD := Lib.hid (dup1_po c.ac c.cl cl cc c.L _ hcl2 (hsl.alloc (.cells #[.int .i64 c.ac, .int .i64 c.cl, .slice cl c.L.length cc] 97)))
      have hown1 := hown.alloc (.cells #[.int .i64 c.ac, .int .i64 c.cl, .slice cl c.L.length cc] 97)
      have hot1 := hot.below ((Below.refl wr.heap.size wr).alloc (Nat.le_refl _) (.cells #[.int .i64 c.ac, .int .i64 c.cl, .slice cl c.L.length cc] 97))
      have hm9 : m.length ≤ 900000 := by omega
      clear hown hot hsl
      go_wp2_with fail
      refine HD.out.mono ?_
      rintro e w1 ⟨⟨A1, c1, rfl, ownL⟩, hb1⟩
      have hB1 := since_step hA hb1
      have hown2 := own_below hown1 hb1
      have hot2 := hot1.below hb1
      have hsz1 := hB1.size
      have ownL := own_base ownL hA.size
      clear hown1 hot1 hb1
      go_wp2_with (first
        | (at_builtin; refine wpList_app rfl (.tmp 17) (.tmp 21) rfl EPo rfl rfl (hown2.alloc _) (m := 1) (news := (⟨c.ac, c.cl, A1, c.L.length, c1⟩ : Po).cells) rfl (Sl.new_ _ _ _) (Po.one _) (by unfold maxLen; omega) (by omega) (by simp only [World.size_alloc]; omega) ?_; intro A2 c2 w3 hown3 hg3 hb3)
        | fail)
      have hot3 := ((hot2.app (g := ⟨c.ac, c.cl, A1, c.L.length, c1⟩) (c := c) ⟨rfl, rfl, rfl, ownL⟩).below ((Below.refl w1.heap.size w1).alloc (Nat.le_refl _) (.cells (⟨c.ac, c.cl, A1, c.L.length, c1⟩ : Po).cells.toArray 97))).kept (hown2.alloc _) hg3
      go_roundw
      case rel =>
        refine ⟨k + 1, m ++ [⟨c.ac, c.cl, A1, c.L.length, c1⟩], A2, c2, by omega, by go_num, by simp; omega, by simp, ?_, ?_, (hB1.alloc hsz1 _).trans hb3⟩
        · rw [rc_append]; simpa [rc] using hown3
        · rw [HT.out]; exact hot3
      case measure => simp [intOf]; omega
    · have hkl : k = cs.length := by have := HLC.out; omega
      subst hkl
      rw [List.take_length] at hot
      have hge : ¬ ((cs.length : Int) < (l.length : Int)) := by have := HLC.out; omega
      clear hs ht hcl
      go_wp2_with fail
      go_ret
      exact ⟨⟨m, A', c', rfl, hown, hot⟩, hB⟩
set_option maxHeartbeats 1000000 in
set_option maxRecDepth 100000 in
theorem dups_po (A : Option Addr) (cap : Nat) (l : List Po) (cs : List Pc) (w : World) (hl : l.length ≤ 900000) (hcl : ∀ c ∈ cs, c.L.length ≤ 900000) (hs : Sl w A (rc Po.cells l)) (ht : PoTab w l cs) :
    Calls Tryz.prog 93 #[.slice A l.length cap] w fun e w' => DupResPo w w' e cs ∧ Below w.heap.size w w' := by
  go_enter Tryz.func93, Tryz.ntmps93
  go_wp2_with fail
  refine (each_po A cap l cs _ hl hcl hs ht).mono ?_
  rintro e w1 ⟨⟨m, A1, c1, rfl, h1, h2⟩, hb1⟩
  go_wp2_with fail
  go_ret
  exact ⟨⟨m, A1, c1, rfl, h1, h2⟩, hb1⟩
end Go.Proofs.YtahdmomadbbhoaaGreat
end
