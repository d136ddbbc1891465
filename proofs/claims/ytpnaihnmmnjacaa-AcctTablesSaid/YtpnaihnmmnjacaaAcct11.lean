/-
  Layer 15, eleventh part: what accounts hold; dup.Account, dup.Accounts; place; Same of tables (laid by gen_acct11.py).
-/
import Derived.Test.YtpnaihnmmnjacaaAcct10
namespace Go.Proofs.Ytpnaihnmmnjacaa
open Go.ChangeShapes Go.WideShapes Go.ChangeAt Go.RowKit
set_option linter.unusedVariables false
set_option linter.unusedSimpArgs false

/-- what an account holds -/
structure Cn where
  id : Int
  mem : Int
  kind : Int
  L : List Nt
deriving DecidableEq
structure AcIs (w : World) (g : Ac) (c : Cn) : Prop where
  id : g.id = c.id
  mem : g.mem = c.mem
  kind : g.kind = c.kind
  len : g.clL = c.L.length
  sl : Sl w g.cl (rc Nt.cells c.L)
theorem AcIs.below {w w' : World} {g : Ac} {c : Cn} (h : AcIs w g c) (hb : Below w.heap.size w w') : AcIs w' g c := ⟨h.id, h.mem, h.kind, h.len, h.sl.below hb⟩
theorem AcIs.eq {w : World} {g : Ac} {c : Cn} (h : AcIs w g c) : g = ⟨c.id, c.mem, c.kind, g.cl, c.L.length, g.clC⟩ := by
  obtain ⟨a, b, d, e, f, k⟩ := g
  obtain ⟨h1, h2, h3, h4, _⟩ := h
  simp only at h1 h2 h3 h4
  subst h1; subst h2; subst h3; subst h4; rfl
/-- a table of accounts, by what it holds -/
def Tab (w : World) (l : List Ac) (cs : List Cn) : Prop := l.length = cs.length ∧ ∀ i, (h : i < l.length) → (h2 : i < cs.length) → AcIs w l[i] cs[i]
theorem Tab.below {w w' : World} {l : List Ac} {cs : List Cn} (h : Tab w l cs) (hb : Below w.heap.size w w') : Tab w' l cs := ⟨h.1, fun i h1 h2 => (h.2 i h1 h2).below hb⟩
theorem Tab.nil (w : World) : Tab w [] [] := ⟨rfl, fun i h => by simp at h⟩
theorem Tab.cons {w : World} {g : Ac} {c : Cn} {l : List Ac} {cs : List Cn} : Tab w (g :: l) (c :: cs) ↔ AcIs w g c ∧ Tab w l cs := by
  constructor
  · rintro ⟨h1, h2⟩
    exact ⟨h2 0 (by simp) (by simp), by simpa using h1, fun i a b => h2 (i + 1) (by simpa using a) (by simpa using b)⟩
  · rintro ⟨h0, h1, h2⟩
    refine ⟨by simpa using h1, fun i a b => ?_⟩
    cases i with
    | zero => exact h0
    | succ i => exact h2 i (by simpa using a) (by simpa using b)
theorem Tab.app {w : World} {l : List Ac} {cs : List Cn} {g : Ac} {c : Cn} (h : Tab w l cs) (hg : AcIs w g c) : Tab w (l ++ [g]) (cs ++ [c]) := by
  refine ⟨by simp [h.1], fun i h1 h2 => ?_⟩
  have hl := h.1
  rcases Nat.lt_or_ge i l.length with hi | hi
  · rw [List.getElem_append_left hi, List.getElem_append_left (by omega)]; exact h.2 i hi (by omega)
  · have : i = l.length := by simp at h1; omega
    subst this
    simp [hl]
    exact hg
def ahC (x y : Cn) : Bool := decide (x.id < y.id)
theorem Tab.put {w : World} {g : Ac} {c : Cn} (hg : AcIs w g c) : ∀ {l : List Ac} {cs : List Cn}, Tab w l cs → Tab w (putR ahQ l g) (putR ahC cs c)
  | [], [], _ => Tab.cons.2 ⟨hg, Tab.nil w⟩
  | [], _ :: _, h => by have := h.1; simp at this
  | _ :: _, [], h => by have := h.1; simp at this
  | a :: l, d :: cs, h => by
    obtain ⟨h1, h2⟩ := Tab.cons.1 h
    have e1 : ahQ a g = ahC d c := by simp only [ahQ, ahC, h1.id, hg.id]
    have e2 : ahQ g a = ahC c d := by simp only [ahQ, ahC, h1.id, hg.id]
    unfold putR
    rw [e1, e2]
    split
    · exact Tab.cons.2 ⟨h1, Tab.put hg h2⟩
    · split
      · exact Tab.cons.2 ⟨hg, Tab.cons.2 ⟨h1, h2⟩⟩
      · exact Tab.cons.2 ⟨hg, h2⟩
theorem Tab.set {w : World} {l : List Ac} {cs : List Cn} {g : Ac} {c : Cn} (h : Tab w l cs) (hg : AcIs w g c) (k : Nat) : Tab w (l.set k g) (cs.set k c) := by
  refine ⟨by simp [h.1], fun i h1 h2 => ?_⟩
  rw [List.getElem_set, List.getElem_set]
  split
  · exact hg
  · exact h.2 i (by simpa using h1) (by simpa using h2)
def findC (cs : List Cn) (id : Int) : Option Cn := cs.find? fun c => c.id == id
theorem Tab.find {w : World} (id : Int) : ∀ {l : List Ac} {cs : List Cn}, Tab w l cs → (hasQ l id = false ∧ findC cs id = none) ∨ (∃ c, hasQ l id = true ∧ findC cs id = some c ∧ AcIs w (findQ l id) c ∧ c.id = id)
  | [], [], _ => .inl ⟨rfl, rfl⟩
  | [], _ :: _, h => by have := h.1; simp at this
  | _ :: _, [], h => by have := h.1; simp at this
  | a :: l, d :: cs, h => by
    obtain ⟨h1, h2⟩ := Tab.cons.1 h
    have e : idQ id a = (d.id == id) := by simp only [idQ, h1.id]
    by_cases hd : (d.id == id) = true
    · refine .inr ⟨d, ?_, ?_, ?_, by simpa using hd⟩
      · simp [hasQ, List.find?_cons, e, hd]
      · simp [findC, List.find?_cons, hd]
      · rw [show findQ (a :: l) id = a by simp [findQ, pickL, List.find?_cons, e, hd]]; exact h1
    · have hd' : (d.id == id) = false := by simpa using hd
      have e1 : hasQ (a :: l) id = hasQ l id := by simp [hasQ, List.find?_cons, e, hd']
      have e2 : findC (d :: cs) id = findC cs id := by simp [findC, List.find?_cons, hd']
      have e3 : findQ (a :: l) id = findQ l id := by simp [findQ, pickL, List.find?_cons, e, hd']
      rw [e1, e2, e3]
      exact Tab.find id h2
/-- rows of clients in memory of the call's own -/
structure AcOwn (B : Nat) (w : World) (g : Ac) (c : Cn) : Prop where
  id : g.id = c.id
  mem : g.mem = c.mem
  kind : g.kind = c.kind
  len : g.clL = c.L.length
  own : w.ownsRow B 3 1 (.slice g.cl c.L.length g.clC) c.L.length (rc Nt.cells c.L)
theorem AcOwn.is {B : Nat} {w : World} {g : Ac} {c : Cn} (h : AcOwn B w g c) : AcIs w g c := ⟨h.id, h.mem, h.kind, h.len, Sl.of_own h.own⟩
theorem AcOwn.below {B : Nat} {w w' : World} {g : Ac} {c : Cn} (h : AcOwn B w g c) (hb : Below w.heap.size w w') : AcOwn B w' g c := ⟨h.id, h.mem, h.kind, h.len, own_below h.own hb⟩
theorem own_kept {w w' : World} {B B' : Nat} {v v' : Value} {n n' : Nat} {xs ys : List Value} (h : w.ownsRow B 3 1 v n xs) (ho : w.ownsRow B' 24 4 v' n' ys) (hg : w.grownBy w' v'.ownBlock) : w'.ownsRow B 3 1 v n xs := by
  refine h.kept hg ?_
  rcases h.2 with ⟨rfl, _⟩ | ⟨g, cap, cur, rfl, _, hh, _⟩
  · exact .inl rfl
  · right
    rcases ho.2 with ⟨rfl, _⟩ | ⟨g', cap', cur', rfl, _, hh', _⟩
    · simp [Value.ownBlock]
    · simp only [Value.ownBlock, ne_eq, Option.some.injEq]
      intro e
      subst e
      rw [hh] at hh'
      injection hh' with hh'
      injection hh' with _ e
      exact absurd e (by decide)
theorem AcOwn.kept {w w' : World} {B B' : Nat} {g : Ac} {c : Cn} {v' : Value} {n' : Nat} {ys : List Value} (h : AcOwn B w g c) (ho : w.ownsRow B' 24 4 v' n' ys) (hg : w.grownBy w' v'.ownBlock) : AcOwn B w' g c := ⟨h.id, h.mem, h.kind, h.len, own_kept h.own ho hg⟩
def OTab (B : Nat) (w : World) (l : List Ac) (cs : List Cn) : Prop := l.length = cs.length ∧ ∀ i, (h : i < l.length) → (h2 : i < cs.length) → AcOwn B w l[i] cs[i]
theorem OTab.tab {B : Nat} {w : World} {l : List Ac} {cs : List Cn} (h : OTab B w l cs) : Tab w l cs := ⟨h.1, fun i h1 h2 => (h.2 i h1 h2).is⟩
theorem OTab.below {B : Nat} {w w' : World} {l : List Ac} {cs : List Cn} (h : OTab B w l cs) (hb : Below w.heap.size w w') : OTab B w' l cs := ⟨h.1, fun i h1 h2 => (h.2 i h1 h2).below hb⟩
theorem OTab.kept {w w' : World} {B B' : Nat} {l : List Ac} {cs : List Cn} {v' : Value} {n' : Nat} {ys : List Value} (h : OTab B w l cs) (ho : w.ownsRow B' 24 4 v' n' ys) (hg : w.grownBy w' v'.ownBlock) : OTab B w' l cs := ⟨h.1, fun i h1 h2 => (h.2 i h1 h2).kept ho hg⟩
theorem OTab.app {B : Nat} {w : World} {l : List Ac} {cs : List Cn} {g : Ac} {c : Cn} (h : OTab B w l cs) (hg : AcOwn B w g c) : OTab B w (l ++ [g]) (cs ++ [c]) := by
  refine ⟨by simp [h.1], fun i h1 h2 => ?_⟩
  have hl := h.1
  rcases Nat.lt_or_ge i l.length with hi | hi
  · rw [List.getElem_append_left hi, List.getElem_append_left (by omega)]; exact h.2 i hi (by omega)
  · have : i = l.length := by simp at h1; omega
    subst this
    simp [hl]
    exact hg

set_option maxHeartbeats 4000000 in
set_option maxRecDepth 100000 in
theorem dupA_any (id mem kind : Int) (A : Option Addr) (cap : Nat) (L : List Nt) (w : World) (hl : L.length ≤ 900000) (hs : Sl w A (rc Nt.cells L)) :
    Calls Try.prog 89 #[.agg #[.int .i64 id, .int .i64 mem, .int .i64 kind, .slice A L.length cap]] w fun e w' => (∃ A' c', e = .returned (.agg #[.int .i64 id, .int .i64 mem, .int .i64 kind, .slice A' L.length c']) ∧ w'.ownsRow w.heap.size 3 1 (.slice A' L.length c') L.length (rc Nt.cells L)) ∧ Below w.heap.size w w' := by
  have hB0 := since_alloc (since_alloc (Below.refl _ w) (.cells #[.int .i64 id, .int .i64 mem, .int .i64 kind, .slice A L.length cap] 24)) (.cells #[.int .i64 0, .int .i64 0, .int .i64 0, .slice none 0 0] 24)
  have hV0 : Af ((w.alloc (.cells #[.int .i64 id, .int .i64 mem, .int .i64 kind, .slice A L.length cap] 24)).alloc (.cells #[.int .i64 0, .int .i64 0, .int .i64 0, .slice none 0 0] 24)) w.heap.size ⟨id, mem, kind, A, L.length, cap⟩ := ⟨(Ac.Bx.new w ⟨id, mem, kind, A, L.length, cap⟩).below ((Below.refl _ _).alloc (Nat.le_refl _) (.cells #[.int .i64 0, .int .i64 0, .int .i64 0, .slice none 0 0] 24)), fun i => by simp⟩
  have hZ0 : Bz ((w.alloc (.cells #[.int .i64 id, .int .i64 mem, .int .i64 kind, .slice A L.length cap] 24)).alloc (.cells #[.int .i64 0, .int .i64 0, .int .i64 0, .slice none 0 0] 24)) (w.heap.size + 1) := by have h := Bz.new (w.alloc (.cells #[.int .i64 id, .int .i64 mem, .int .i64 kind, .slice A L.length cap] 24)); rw [World.size_alloc] at h; exact h
  have hs0 := (hs.alloc (.cells #[.int .i64 id, .int .i64 mem, .int .i64 kind, .slice A L.length cap] 24)).alloc (.cells #[.int .i64 0, .int .i64 0, .int .i64 0, .slice none 0 0] 24)
  clear hs
  go_enter Try.func89, Try.ntmps89
  go_upto_region 1 with fail
  generalize hWW : (w.alloc (.cells #[.int .i64 id, .int .i64 mem, .int .i64 kind, .slice A L.length cap] 24)).alloc (.cells #[.int .i64 0, .int .i64 0, .int .i64 0, .slice none 0 0] 24) = w0 at *
  clear hWW
  have hcs := @cell_set
  obtain ⟨q0, q1, q2, q3⟩ := (hV0.bx).got
  simp only at q0 q1 q2 q3
  obtain ⟨z0, z1, z2, z3⟩ := hZ0.got
  have fq := hV0.fz
  have fz := hZ0.fz
  have lq := hV0.bx.lt
  have lz := hZ0.bk.1
  have hzl := hZ0.bk.1
  go_wp2_with fail
  refine (clone_nt A cap L _ (by omega) hs0).mono ?_
  rintro e w1 ⟨⟨A1, c1, rfl, hown⟩, hb⟩
  have hV1 := hV0.below hb
  have hZ1 := hZ0.below hb
  have hB1 := since_step hB0 hb
  clear hb q0 q1 q2 q3 z0 z1 z2 z3 fq fz lq lz
  obtain ⟨q0, q1, q2, q3⟩ := (hV1.bx).got
  simp only at q0 q1 q2 q3
  obtain ⟨z0, z1, z2, z3⟩ := hZ1.got
  have fq := hV1.fz
  have fz := hZ1.fz
  have lq := hV1.bx.lt
  have lz := hZ1.bk.1
  go_wp2_with fail
  refine bodyPost_ret (v := .agg #[.int .i64 id, .int .i64 mem, .int .i64 kind, .slice A1 L.length c1]) ?_ rfl ⟨⟨A1, c1, rfl, own_base ?_ hB0.size⟩, ?_⟩
  · simp [results, Try.results89, go_sem, z0, z1, z2, z3, q0, q1, q2, q3, fz, fq, hcs]
  · repeat' (first | with_reducible exact hown | with_reducible refine own_setFar ?_ ?_ _)
    all_goals first | (simp; done) | (simp; omega)
  · repeat' (first | with_reducible exact hB1 | with_reducible refine Below.setCell ?_ ?_ _ | with_reducible refine Below.alloc ?_ ?_ _)
    all_goals first | (simp; done) | (simp; omega)

def DupRes (w w' : World) (e : Ending) (cs : List Cn) : Prop :=
  ∃ (l : List Ac) (A' : Option Addr) (c' : Nat), e = .returned (.slice A' l.length c') ∧ w'.ownsRow w.heap.size 24 4 (.slice A' l.length c') l.length (rc Ac.cells l) ∧ OTab w.heap.size w' l cs
def DRel (cs : List Cn) (W : World) (out i : Value) (wr : World) : Prop :=
  ∃ (k : Nat) (l : List Ac) (A' : Option Addr) (c' : Nat), k ≤ cs.length ∧ i = .int .i64 k ∧ l.length ≤ k ∧ out = .slice A' l.length c' ∧ wr.ownsRow W.heap.size 24 4 (.slice A' l.length c') l.length (rc Ac.cells l) ∧ OTab W.heap.size wr l (cs.take k) ∧ Below W.heap.size W wr
set_option maxHeartbeats 4000000 in
set_option maxRecDepth 100000 in
theorem eachA_any (A : Option Addr) (cap : Nat) (l : List Ac) (cs : List Cn) (w : World) (hl : l.length ≤ 900000) (hcl : ∀ c ∈ cs, c.L.length ≤ 900000) (hs : Sl w A (rc Ac.cells l)) (ht : Tab w l cs) :
    Calls Try.prog 147 #[.slice A l.length cap, .func (.func 89) #[] #[]] w fun e w' => DupRes w w' e cs ∧ Below w.heap.size w w' := by
  have HLC := Lib.hid ht.1
  go_enter Try.func147, Try.ntmps147
  go_wp2_with (first
    | (at_make; refine wpList_mk rfl (.const (.int .i64 0)) (.tmp 9) rfl EAc l.length rfl rfl rfl (by omega) (by unfold maxLen; omega) (Nat.le_refl _) ?_; intro W2 hownW hbW)
    | fail)
  go_loopw [5, 13] (fun out i wr => DRel cs w out i wr) (fun _ i _ => l.length - (intOf i).toNat)
  case atStart => exact ⟨0, [], _, _, by omega, rfl, by simp, rfl, by simpa [rc] using hownW, ⟨rfl, fun i h => by simp at h⟩, hbW⟩
  case round =>
    obtain ⟨k, m, A', c', hk, rfl, hmk, rfl, hown, hot, hB⟩ := hrel
    clear hownW hbW
    by_cases hlt : k < l.length
    · obtain ⟨b, o, rfl, hbw, hg⟩ := (hs.below hB).ac hlt
      have hltc : k < cs.length := by have := HLC.out; omega
      have hi := ht.2 k hlt hltc
      have hcl2 := hcl _ (List.getElem_mem hltc)
      have HT : Hid (cs.take (k + 1) = cs.take k ++ [cs[k]'hltc]) := Lib.hid (take_snoc cs k hltc)
      have hlk : (k : Int) < (l.length : Int) := by omega
      have hsz := hB.size
      obtain ⟨c, hc⟩ : ∃ c, (cs[k]'hltc) = c := ⟨_, rfl⟩
      rw [hc] at hi HT hcl2
      clear hc hs ht hcl
      have hge := hi.eq
      rw [hge] at hg
      clear hge
      obtain ⟨g0, g1, g2, g3⟩ := hg
      simp only at g0 g1 g2 g3
      have hsl := (hi.sl.below hB)
      clear hi
      generalize l[k].cl = cl at *
      generalize l[k].clC = cc at *
      have hA := since_alloc hB (.cells #[.int .i64 c.id, .int .i64 c.mem, .int .i64 c.kind, .slice cl c.L.length cc] 24)
      have HD := Lib.hid (dupA_any c.id c.mem c.kind cl cc c.L _ hcl2 (hsl.alloc (.cells #[.int .i64 c.id, .int .i64 c.mem, .int .i64 c.kind, .slice cl c.L.length cc] 24)))
      have hown1 := hown.alloc (.cells #[.int .i64 c.id, .int .i64 c.mem, .int .i64 c.kind, .slice cl c.L.length cc] 24)
      have hot1 := hot.below ((Below.refl wr.heap.size wr).alloc (Nat.le_refl _) (.cells #[.int .i64 c.id, .int .i64 c.mem, .int .i64 c.kind, .slice cl c.L.length cc] 24))
      have hm9 : m.length ≤ 900000 := by omega
      clear hown hot hsl
      go_wp2_with fail
      refine HD.out.mono ?_
      rintro e w1 ⟨⟨A1, c1, rfl, ownL⟩, hb1⟩
      have hB1 := since_step hA hb1
      have hown2 := own_below hown1 hb1
      have hot2 := hot1.below hb1
      have hsz1 := hB1.size
      have ownL := own_base ownL hA.size
      clear hown1 hot1 hb1
      go_wp2_with (first
        | (at_builtin; refine wpList_app rfl (.tmp 17) (.tmp 21) rfl EAc rfl rfl (hown2.alloc _) (m := 1) (news := (⟨c.id, c.mem, c.kind, A1, c.L.length, c1⟩ : Ac).cells) rfl (Sl.new_ _ _ _) (Ac.one _) (by unfold maxLen; omega) (by omega) (by simp only [World.size_alloc]; omega) ?_; intro A2 c2 w3 hown3 hg3 hb3)
        | fail)
      have hot3 := ((hot2.app (g := ⟨c.id, c.mem, c.kind, A1, c.L.length, c1⟩) (c := c) ⟨rfl, rfl, rfl, rfl, ownL⟩).below ((Below.refl w1.heap.size w1).alloc (Nat.le_refl _) (.cells (⟨c.id, c.mem, c.kind, A1, c.L.length, c1⟩ : Ac).cells.toArray 24))).kept (hown2.alloc _) hg3
      go_roundw
      case rel =>
        refine ⟨k + 1, m ++ [⟨c.id, c.mem, c.kind, A1, c.L.length, c1⟩], A2, c2, by omega, by go_num, by simp; omega, by simp, ?_, ?_, (hB1.alloc hsz1 _).trans hb3⟩
        · rw [rc_append]; simpa [rc] using hown3
        · rw [HT.out]; exact hot3
      case measure => simp [intOf]; omega
    · have hkl : k = cs.length := by have := HLC.out; omega
      subst hkl
      rw [List.take_length] at hot
      have hge : ¬ ((cs.length : Int) < (l.length : Int)) := by have := HLC.out; omega
      clear hs ht hcl
      go_wp2_with fail
      go_ret
      exact ⟨⟨m, A', c', rfl, hown, hot⟩, hB⟩
set_option maxHeartbeats 1000000 in
set_option maxRecDepth 100000 in
theorem dups_any (A : Option Addr) (cap : Nat) (l : List Ac) (cs : List Cn) (w : World) (hl : l.length ≤ 900000) (hcl : ∀ c ∈ cs, c.L.length ≤ 900000) (hs : Sl w A (rc Ac.cells l)) (ht : Tab w l cs) :
    Calls Try.prog 88 #[.slice A l.length cap] w fun e w' => DupRes w w' e cs ∧ Below w.heap.size w w' := by
  go_enter Try.func88, Try.ntmps88
  go_wp2_with fail
  refine (eachA_any A cap l cs _ hl hcl hs ht).mono ?_
  rintro e w1 ⟨⟨m, A1, c1, rfl, h1, h2⟩, hb1⟩
  go_wp2_with fail
  go_ret
  exact ⟨⟨m, A1, c1, rfl, h1, h2⟩, hb1⟩

set_option maxHeartbeats 1000000 in
set_option maxRecDepth 100000 in
theorem qahead_any (x y : Ac) (w : World) :
    Calls Try.prog 90 #[x.val, y.val] w fun e w' => e = .returned (.bool (ahQ x y)) ∧ Below w.heap.size w w' := by
  have hB := since_alloc (since_alloc (Below.refl _ w) (.cells x.cells.toArray 24)) (.cells y.cells.toArray 24)
  unfold Ac.val
  go_enter Try.func90, Try.ntmps90
  go_wp2_with fail
  go_ret
  exact ⟨rfl, hB⟩
theorem ent_qahead : Ent Try.prog 90 := Ent.of (by kernel_rfl)
theorem tells_qahead (B : Nat) (w : World) : Ac.Tells2 90 #[] ahQ B w := fun a b W _ => qahead_any a b W
set_option maxHeartbeats 1000000 in
set_option maxRecDepth 100000 in
theorem qplace1_any (x : Ac) (id : Int) (b : Nat) (w : World) (h0 : w.cell? ⟨b, 0, none⟩ = some (.int .i64 id)) :
    Calls Try.prog 143 #[x.val, .pointer (some ⟨b, 0, none⟩)] w fun e w' => e = .returned (.bool (idQ id x)) ∧ Below w.heap.size w w' := by
  have hB := since_alloc (Below.refl _ w) (.cells x.cells.toArray 24)
  have hlt := World.block_lt_of_cell? _ _ h0
  unfold Ac.val
  go_enter Try.func143, Try.ntmps143
  go_wp2_with fail
  go_ret
  exact ⟨rfl, hB⟩
theorem ent_qplace1 : Ent Try.prog 143 := Ent.of (by kernel_rfl)
theorem tells_qplace1 (id : Int) (b : Nat) (w : World) (h : w.cell? ⟨b, 0, none⟩ = some (.int .i64 id)) : Ac.Tells 143 #[.pointer (some ⟨b, 0, none⟩)] (idQ id) w.heap.size w :=
  fun x W hW => qplace1_any x id b W ((hW.cell (p := ⟨b, 0, none⟩) (World.block_lt_of_cell? _ _ h)).trans h)
set_option maxHeartbeats 1000000 in
set_option maxRecDepth 100000 in
theorem qplace_any (A : Option Addr) (cap : Nat) (l : List Ac) (id : Int) (w : World) (hl : l.length ≤ 1000000) (hs : Sl w A (rc Ac.cells l)) :
    Calls Try.prog 86 #[.slice A l.length cap, .int .i64 id] w fun e w' => e = .returned (.int .i64 (atL (idQ id) l)) ∧ Below w.heap.size w w' := by
  go_enter Try.func86, Try.ntmps86
  go_wp2_with fail
  refine (index_ac A cap l 143 #[.pointer (some ⟨w.heap.size, 0, none⟩)] (idQ id) _ hl (hs.alloc _) ent_qplace1 (tells_qplace1 id w.heap.size _ (by simp))).mono ?_
  rintro e w1 ⟨rfl, hb1⟩
  have hB1 := since_step (since_alloc (Below.refl _ _) _) hb1
  clear hb1
  go_wp2_with fail
  go_ret
  exact ⟨rfl, hB1⟩


set_option maxHeartbeats 4000000 in
set_option maxRecDepth 100000 in
theorem sameT_self (A A2 : Option Addr) (cap cap2 : Nat) (l m : List Ac) (cs : List Cn) (w : World) (hl : cs.length ≤ 900000) (hcl : ∀ c ∈ cs, c.L.length ≤ 900000) (hs : Sl w A (rc Ac.cells l)) (hs2 : Sl w A2 (rc Ac.cells m)) (ht : Tab w l cs) (ht2 : Tab w m cs) :
    Calls Try.prog 34 #[.slice A l.length cap, .slice A2 m.length cap2] w fun e w' => e = .returned (.bool true) ∧ Below w.heap.size w w' := by
  have e1 := ht.1
  have e2 := ht2.1
  have hne : ((cs.length : Int) != (cs.length : Int)) = false := by simp
  have HS1 := Lib.hid hs
  have HS2 := Lib.hid hs2
  have HT1 := Lib.hid ht
  have HT2 := Lib.hid ht2
  rw [e1, e2]
  clear hs hs2 ht ht2
  have HE1 := Lib.hid e1
  have HE2 := Lib.hid e2
  clear e1 e2
  go_enter Try.func34, Try.ntmps34
  go_wp2_with fail
  go_loopw [5] (fun i wr => ∃ k : Nat, k ≤ cs.length ∧ i = .int .i64 k ∧ Below w.heap.size w wr) (fun i _ => cs.length - (intOf i).toNat)
  case atStart => exact ⟨0, by omega, rfl, Below.refl _ _⟩
  case round =>
    obtain ⟨k, hk, rfl, hB⟩ := hrel
    by_cases hlt : k < cs.length
    · have h1 : k < l.length := by rw [HE1.out]; exact hlt
      have h2 : k < m.length := by rw [HE2.out]; exact hlt
      obtain ⟨b, o, rfl, hbw, hg⟩ := (HS1.out.below hB).ac h1
      obtain ⟨b2, o2, rfl, hbw2, hg2⟩ := (HS2.out.below hB).ac h2
      have i1 := HT1.out.2 k h1 hlt
      have i2 := HT2.out.2 k h2 hlt
      have hc2 := hcl _ (List.getElem_mem hlt)
      rw [i1.eq] at hg
      rw [i2.eq] at hg2
      have s1 := i1.sl.below hB
      have s2 := i2.sl.below hB
      clear i1 i2
      generalize l[k].cl = p1 at *
      generalize l[k].clC = p2 at *
      generalize m[k].cl = p3 at *
      generalize m[k].clC = p4 at *
      generalize cs[k] = c at *
      have HX : Hid (∀ V, Below wr.heap.size wr V → Ac.at ⟨c.id, c.mem, c.kind, p1, c.L.length, p2⟩ V b (o + k * 4) ∧ Ac.at ⟨c.id, c.mem, c.kind, p3, c.L.length, p4⟩ V b2 (o2 + k * 4)) := Lib.hid fun V hV => ⟨Ac.at_keep (w := wr) hg fun i => hV.cell (p := ⟨b, i, none⟩) hbw, Ac.at_keep (w := wr) hg2 fun i => hV.cell (p := ⟨b2, i, none⟩) hbw2⟩
      have HSO : Hid (∀ V, Below wr.heap.size wr V → Calls Try.prog 24 #[.agg #[.int .i64 c.id, .int .i64 c.mem, .int .i64 c.kind, .slice p1 c.L.length p2], .agg #[.int .i64 c.id, .int .i64 c.mem, .int .i64 c.kind, .slice p3 c.L.length p4]] V fun e w' => e = .returned (.bool true) ∧ Below V.heap.size V w') := Lib.hid fun V hV => sameone_self c.id c.mem c.kind p1 p3 p2 p4 c.L V (by omega) (s1.below hV) (s2.below hV)
      have hlk : (k : Int) < (cs.length : Int) := by omega
      have hge : (0 : Int) ≤ (k : Int) := by omega
      unfold Ac.at at HX
      clear hg hg2 s1 s2 hcl hbw hbw2
      go_wp2_with fail
      refine wp_region_held_drew (S := (fun V => Below wr.heap.size wr V)) (by kernel_rfl) (by exact (Below.refl _ _).drew) (fun hHeld => ?_)
      refine wpAnyH_take (i := 0) (oi := { dst := some 17, op := _, type := _, pos := _, after := _, guard := _ }) (v := ?_) rfl (by kernel_rfl) (by kernel_rfl) (by kernel_rfl) (fun _ _ _ h => h) (Or.inl ⟨by rfl, ?_⟩) hHeld ?_
      rotate_left
      · (intro w hSw; obtain ⟨⟨x0, x1, x2, x3⟩, y0, y1, y2, y3⟩ := HX.out _ hSw; go_simp <;> with_reducible rfl)
      try simp only [Act.put, List.setIfInBounds_toArray, List.set_cons_zero, List.set_cons_succ]
      refine wpAnyH_take (i := 1) (oi := { dst := some 18, op := _, type := _, pos := _, after := _, guard := _ }) (v := ?_) rfl (by kernel_rfl) (by kernel_rfl) (by kernel_rfl) (fun _ _ _ h => h) (Or.inl ⟨by rfl, ?_⟩) hHeld ?_
      rotate_left
      · (intro w hSw; obtain ⟨⟨x0, x1, x2, x3⟩, y0, y1, y2, y3⟩ := HX.out _ hSw; go_simp <;> with_reducible rfl)
      try simp only [Act.put, List.setIfInBounds_toArray, List.set_cons_zero, List.set_cons_succ]
      refine wpAnyH_take (i := 2) (oi := { dst := some 19, op := _, type := _, pos := _, after := _, guard := _ }) (v := ?_) rfl (by kernel_rfl) (by kernel_rfl) (by kernel_rfl) (fun _ _ _ h => h) (Or.inl ⟨by rfl, ?_⟩) hHeld ?_
      rotate_left
      · (intro w hSw; obtain ⟨⟨x0, x1, x2, x3⟩, y0, y1, y2, y3⟩ := HX.out _ hSw; go_simp <;> with_reducible rfl)
      try simp only [Act.put, List.setIfInBounds_toArray, List.set_cons_zero, List.set_cons_succ]
      refine wpAnyH_take (i := 3) (oi := { dst := some 20, op := _, type := _, pos := _, after := _, guard := _ }) (v := ?_) rfl (by kernel_rfl) (by kernel_rfl) (by kernel_rfl) (fun _ _ _ h => h) (Or.inl ⟨by rfl, ?_⟩) hHeld ?_
      rotate_left
      · (intro w hSw; obtain ⟨⟨x0, x1, x2, x3⟩, y0, y1, y2, y3⟩ := HX.out _ hSw; go_simp <;> with_reducible rfl)
      try simp only [Act.put, List.setIfInBounds_toArray, List.set_cons_zero, List.set_cons_succ]
      refine wpAnyH_take (i := 4) (oi := { dst := some 21, op := _, type := _, pos := _, after := _, guard := _ }) (v := ?_) rfl (by kernel_rfl) (by kernel_rfl) (by kernel_rfl) (fun _ _ _ h => h) (Or.inl ⟨by rfl, ?_⟩) hHeld ?_
      rotate_left
      · (intro w hSw; obtain ⟨⟨x0, x1, x2, x3⟩, y0, y1, y2, y3⟩ := HX.out _ hSw; go_simp <;> with_reducible rfl)
      try simp only [Act.put, List.setIfInBounds_toArray, List.set_cons_zero, List.set_cons_succ]
      refine wpAnyH_take (i := 5) (oi := { dst := some 22, op := _, type := _, pos := _, after := _, guard := _ }) (v := ?_) rfl (by kernel_rfl) (by kernel_rfl) (by kernel_rfl) (fun _ _ _ h => h) (Or.inl ⟨by rfl, ?_⟩) hHeld ?_
      rotate_left
      · (intro w hSw; obtain ⟨⟨x0, x1, x2, x3⟩, y0, y1, y2, y3⟩ := HX.out _ hSw; go_simp <;> with_reducible rfl)
      try simp only [Act.put, List.setIfInBounds_toArray, List.set_cons_zero, List.set_cons_succ]
      refine wpAnyH_take (i := 6) (oi := { dst := some 23, op := _, type := _, pos := _, after := _, guard := _ }) (v := ?_) rfl (by kernel_rfl) (by kernel_rfl) (by kernel_rfl) (fun _ _ _ h => h) (Or.inl ⟨by rfl, ?_⟩) hHeld ?_
      rotate_left
      · (intro w hSw; obtain ⟨⟨x0, x1, x2, x3⟩, y0, y1, y2, y3⟩ := HX.out _ hSw; go_simp <;> with_reducible rfl)
      try simp only [Act.put, List.setIfInBounds_toArray, List.set_cons_zero, List.set_cons_succ]
      refine wpAnyH_take (i := 7) (oi := { dst := some 24, op := _, type := _, pos := _, after := _, guard := _ }) (v := ?_) rfl (by kernel_rfl) (by kernel_rfl) (by kernel_rfl) (fun _ _ _ h => h) (Or.inl ⟨by rfl, ?_⟩) hHeld ?_
      rotate_left
      · (intro w hSw; obtain ⟨⟨x0, x1, x2, x3⟩, y0, y1, y2, y3⟩ := HX.out _ hSw; go_simp <;> with_reducible rfl)
      try simp only [Act.put, List.setIfInBounds_toArray, List.set_cons_zero, List.set_cons_succ]
      refine wpAnyH_ready (rs := [8]) (by kernel_rfl) (by simp) ?_
      refine AllReadyH.cons (o := { dst := some 25, op := _, type := _, pos := _, after := _, guard := _ }) rfl (fun K hK => ?_) AllReadyH.nil
      go_simp
      refine (HSO.out _ hHeld).mono ?_
      rintro e v1 ⟨rfl, hk1⟩
      have hKeep := since_step hHeld hk1
      go_wp2_with fail
      refine hK.out _ _ (by (try dsimp only); exact hKeep) (fun hHeld => ?_)
      clear hK K hKeep
      try simp only [Act.put, List.setIfInBounds_toArray, List.set_cons_zero, List.set_cons_succ]
      refine wpAnyH_take (i := 9) (oi := { dst := some 26, op := _, type := _, pos := _, after := _, guard := _ }) (v := ?_) rfl (by kernel_rfl) (by kernel_rfl) (by kernel_rfl) (fun _ _ _ h => h) (Or.inl ⟨by rfl, ?_⟩) hHeld ?_
      rotate_left
      · (intro w hSw; obtain ⟨⟨x0, x1, x2, x3⟩, y0, y1, y2, y3⟩ := HX.out _ hSw; go_simp <;> with_reducible rfl)
      try simp only [Act.put, List.setIfInBounds_toArray, List.set_cons_zero, List.set_cons_succ]
      refine wpAnyH_done (by kernel_rfl) ?_ _
      have hB2 := hB.trans (hHeld.mono hB.size)
      go_wp2_with fail
      go_roundw
      case rel => exact ⟨k + 1, by omega, by go_num, hB2⟩
      case measure => simp [intOf]; omega
    · obtain rfl : k = cs.length := by omega
      go_wp2_with fail
      go_ret
      exact ⟨rfl, hB⟩
end Go.Proofs.Ytpnaihnmmnjacaa
