import Derived.Test.YtmjndpkfhdoljaaGreatCc32
import Derived.Test.YtmjndpkfhdoljaaGreatCc30
set_option maxHeartbeats 16000000
set_option maxRecDepth 100000
set_option linter.unusedVariables false
set_option linter.unusedSimpArgs false
namespace Go.Proofs.YtmjndpkfhdoljaaGreat
open Go.ChangeShapes Go.WideShapes Go.ChangeAt Go.RowKit
section
def ltU (u v : Un) : Prop := u.ac < v.ac ∨ (u.ac = v.ac ∧ u.cl < v.cl)
instance (u v : Un) : Decidable (ltU u v) := by unfold ltU; infer_instance
end
section
structure Cn where
  id : Int
  mem : Int
  kind : Int
  L : List Nt
deriving DecidableEq
structure AcIs (w : World) (g : Ac) (c : Cn) : Prop where
  id : g.id = c.id
  mem : g.mem = c.mem
  kind : g.kind = c.kind
  len : g.clL = c.L.length
  sl : Sl w g.cl (rc Nt.cells c.L)
theorem AcIs.below {w w' : World} {g : Ac} {c : Cn} (h : AcIs w g c) (hb : Below w.heap.size w w') : AcIs w' g c := ⟨h.id, h.mem, h.kind, h.len, h.sl.below hb⟩
theorem AcIs.eq {w : World} {g : Ac} {c : Cn} (h : AcIs w g c) : g = ⟨c.id, c.mem, c.kind, g.cl, c.L.length, g.clC⟩ := by
  obtain ⟨a, b, d, e, f, k⟩ := g
  obtain ⟨h1, h2, h3, h4, _⟩ := h
  simp only at h1 h2 h3 h4
  subst h1; subst h2; subst h3; subst h4; rfl
def Tab (w : World) (l : List Ac) (cs : List Cn) : Prop := l.length = cs.length ∧ ∀ i, (h : i < l.length) → (h2 : i < cs.length) → AcIs w l[i] cs[i]
theorem Tab.below {w w' : World} {l : List Ac} {cs : List Cn} (h : Tab w l cs) (hb : Below w.heap.size w w') : Tab w' l cs := ⟨h.1, fun i h1 h2 => (h.2 i h1 h2).below hb⟩
theorem Tab.nil (w : World) : Tab w [] [] := ⟨rfl, fun i h => by simp at h⟩
theorem Tab.cons {w : World} {g : Ac} {c : Cn} {l : List Ac} {cs : List Cn} : Tab w (g :: l) (c :: cs) ↔ AcIs w g c ∧ Tab w l cs := by
  constructor
  · rintro ⟨h1, h2⟩
    exact ⟨h2 0 (by simp) (by simp), by simpa using h1, fun i a b => h2 (i + 1) (by simpa using a) (by simpa using b)⟩
  · rintro ⟨h0, h1, h2⟩
    refine ⟨by simpa using h1, fun i a b => ?_⟩
    cases i with
    | zero => exact h0
    | succ i => exact h2 i (by simpa using a) (by simpa using b)
theorem Tab.app {w : World} {l : List Ac} {cs : List Cn} {g : Ac} {c : Cn} (h : Tab w l cs) (hg : AcIs w g c) : Tab w (l ++ [g]) (cs ++ [c]) := by
  refine ⟨by simp [h.1], fun i h1 h2 => ?_⟩
  have hl := h.1
  rcases Nat.lt_or_ge i l.length with hi | hi
  · rw [List.getElem_append_left hi, List.getElem_append_left (by omega)]; exact h.2 i hi (by omega)
  · have : i = l.length := by simp at h1; omega
    subst this
    simp [hl]
    exact hg
def ahC (x y : Cn) : Bool := decide (x.id < y.id)
theorem Tab.put {w : World} {g : Ac} {c : Cn} (hg : AcIs w g c) : ∀ {l : List Ac} {cs : List Cn}, Tab w l cs → Tab w (putR ahQ l g) (putR ahC cs c)
  | [], [], _ => Tab.cons.2 ⟨hg, Tab.nil w⟩
  | [], _ :: _, h => by have := h.1; simp at this
  | _ :: _, [], h => by have := h.1; simp at this
  | a :: l, d :: cs, h => by
    obtain ⟨h1, h2⟩ := Tab.cons.1 h
    have e1 : ahQ a g = ahC d c := by simp only [ahQ, ahC, h1.id, hg.id]
    have e2 : ahQ g a = ahC c d := by simp only [ahQ, ahC, h1.id, hg.id]
    unfold putR
    rw [e1, e2]
    split
    · exact Tab.cons.2 ⟨h1, Tab.put hg h2⟩
    · split
      · exact Tab.cons.2 ⟨hg, Tab.cons.2 ⟨h1, h2⟩⟩
      · exact Tab.cons.2 ⟨hg, h2⟩
theorem Tab.set {w : World} {l : List Ac} {cs : List Cn} {g : Ac} {c : Cn} (h : Tab w l cs) (hg : AcIs w g c) (k : Nat) : Tab w (l.set k g) (cs.set k c) := by
  refine ⟨by simp [h.1], fun i h1 h2 => ?_⟩
  rw [List.getElem_set, List.getElem_set]
  split
  · exact hg
  · exact h.2 i (by simpa using h1) (by simpa using h2)
def findC (cs : List Cn) (id : Int) : Option Cn := cs.find? fun c => c.id == id
theorem Tab.find {w : World} (id : Int) : ∀ {l : List Ac} {cs : List Cn}, Tab w l cs → (hasQ l id = false ∧ findC cs id = none) ∨ (∃ c, hasQ l id = true ∧ findC cs id = some c ∧ AcIs w (findQ l id) c ∧ c.id = id)
  | [], [], _ => .inl ⟨rfl, rfl⟩
  | [], _ :: _, h => by have := h.1; simp at this
  | _ :: _, [], h => by have := h.1; simp at this
  | a :: l, d :: cs, h => by
    obtain ⟨h1, h2⟩ := Tab.cons.1 h
    have e : idQ id a = (d.id == id) := by simp only [idQ, h1.id]
    by_cases hd : (d.id == id) = true
    · refine .inr ⟨d, ?_, ?_, ?_, by simpa using hd⟩
      · simp [hasQ, List.find?_cons, e, hd]
      · simp [findC, List.find?_cons, hd]
      · rw [show findQ (a :: l) id = a by simp [findQ, pickL, List.find?_cons, e, hd]]; exact h1
    · have hd' : (d.id == id) = false := by simpa using hd
      have e1 : hasQ (a :: l) id = hasQ l id := by simp [hasQ, List.find?_cons, e, hd']
      have e2 : findC (d :: cs) id = findC cs id := by simp [findC, List.find?_cons, hd']
      have e3 : findQ (a :: l) id = findQ l id := by simp [findQ, pickL, List.find?_cons, e, hd']
      rw [e1, e2, e3]
      exact Tab.find id h2
structure AcOwn (B : Nat) (w : World) (g : Ac) (c : Cn) : Prop where
  id : g.id = c.id
  mem : g.mem = c.mem
  kind : g.kind = c.kind
  len : g.clL = c.L.length
  own : w.ownsRow B 3 1 (.slice g.cl c.L.length g.clC) c.L.length (rc Nt.cells c.L)
theorem AcOwn.is {B : Nat} {w : World} {g : Ac} {c : Cn} (h : AcOwn B w g c) : AcIs w g c := ⟨h.id, h.mem, h.kind, h.len, Sl.of_own h.own⟩
theorem AcOwn.below {B : Nat} {w w' : World} {g : Ac} {c : Cn} (h : AcOwn B w g c) (hb : Below w.heap.size w w') : AcOwn B w' g c := ⟨h.id, h.mem, h.kind, h.len, own_below h.own hb⟩
theorem own_kept {w w' : World} {B B' : Nat} {v v' : Value} {n n' : Nat} {xs ys : List Value} (h : w.ownsRow B 3 1 v n xs) (ho : w.ownsRow B' 31 4 v' n' ys) (hg : w.grownBy w' v'.ownBlock) : w'.ownsRow B 3 1 v n xs := by
  refine h.kept hg ?_
  rcases h.2 with ⟨rfl, _⟩ | ⟨g, cap, cur, rfl, _, hh, _⟩
  · exact .inl rfl
  · right
    rcases ho.2 with ⟨rfl, _⟩ | ⟨g', cap', cur', rfl, _, hh', _⟩
    · simp [Value.ownBlock]
    · simp only [Value.ownBlock, ne_eq, Option.some.injEq]
      intro e
      subst e
      rw [hh] at hh'
      injection hh' with hh'
      injection hh' with _ e
      exact absurd e (by decide)
theorem AcOwn.kept {w w' : World} {B B' : Nat} {g : Ac} {c : Cn} {v' : Value} {n' : Nat} {ys : List Value} (h : AcOwn B w g c) (ho : w.ownsRow B' 31 4 v' n' ys) (hg : w.grownBy w' v'.ownBlock) : AcOwn B w' g c := ⟨h.id, h.mem, h.kind, h.len, own_kept h.own ho hg⟩
def OTab (B : Nat) (w : World) (l : List Ac) (cs : List Cn) : Prop := l.length = cs.length ∧ ∀ i, (h : i < l.length) → (h2 : i < cs.length) → AcOwn B w l[i] cs[i]
theorem OTab.tab {B : Nat} {w : World} {l : List Ac} {cs : List Cn} (h : OTab B w l cs) : Tab w l cs := ⟨h.1, fun i h1 h2 => (h.2 i h1 h2).is⟩
theorem OTab.below {B : Nat} {w w' : World} {l : List Ac} {cs : List Cn} (h : OTab B w l cs) (hb : Below w.heap.size w w') : OTab B w' l cs := ⟨h.1, fun i h1 h2 => (h.2 i h1 h2).below hb⟩
theorem OTab.kept {w w' : World} {B B' : Nat} {l : List Ac} {cs : List Cn} {v' : Value} {n' : Nat} {ys : List Value} (h : OTab B w l cs) (ho : w.ownsRow B' 31 4 v' n' ys) (hg : w.grownBy w' v'.ownBlock) : OTab B w' l cs := ⟨h.1, fun i h1 h2 => (h.2 i h1 h2).kept ho hg⟩
theorem OTab.app {B : Nat} {w : World} {l : List Ac} {cs : List Cn} {g : Ac} {c : Cn} (h : OTab B w l cs) (hg : AcOwn B w g c) : OTab B w (l ++ [g]) (cs ++ [c]) := by
  refine ⟨by simp [h.1], fun i h1 h2 => ?_⟩
  have hl := h.1
  rcases Nat.lt_or_ge i l.length with hi | hi
  · rw [List.getElem_append_left hi, List.getElem_append_left (by omega)]; exact h.2 i hi (by omega)
  · have : i = l.length := by simp at h1; omega
    subst this
    simp [hl]
    exact hg
end
section
def unC (c : Cn) : List Un := nuL c.id c.kind c.L
def outG (ex : Cn → Un → Int × Int) (c : Cn) (us : List Un) : List Fw := us.filterMap fun u => if (ex c u).1 < 0 then some ⟨u.ac, u.cl, (ex c u).1⟩ else none
def outA (ex : Cn → Un → Int × Int) (acs : List Cn) : List Fw := acs.flatMap fun c => outG ex c (unC c)
theorem outG_snoc (ex : Cn → Un → Int × Int) (c : Cn) (us : List Un) {j : Nat} (h : j < us.length) : outG ex c (us.take (j + 1)) = outG ex c (us.take j) ++ (if (ex c us[j]).1 < 0 then [⟨us[j].ac, us[j].cl, (ex c us[j]).1⟩] else []) := by
  unfold outG
  rw [take_snoc us j h, List.filterMap_append]
  congr 1
  by_cases e : (ex c us[j]).1 < 0
  · simp [e]
  · simp [e]
theorem outA_snoc (ex : Cn → Un → Int × Int) (acs : List Cn) {k : Nat} (h : k < acs.length) : outA ex (acs.take (k + 1)) = outA ex (acs.take k) ++ outG ex acs[k] (unC acs[k]) := by
  unfold outA
  rw [take_snoc acs k h, List.flatMap_append]
  simp
def CallsErr (ex : Cn → Un → Int × Int) (acs : List Cn) (n : Int) : Prop := ∃ c ∈ acs, ∃ u ∈ unC c, (ex c u).2 = n ∧ n ≠ 0
def CallsRes (B : Nat) (w' : World) (e : Ending) (ex : Cn → Un → Int × Int) (acs : List Cn) : Prop :=
  (∃ n, CallsErr ex acs n ∧ e = .returned (.tuple #[.slice none 0 0, .int .i64 n])) ∨
  ((∀ c ∈ acs, ∀ u ∈ unC c, (ex c u).2 = 0) ∧ ∃ A' c', e = .returned (.tuple #[.slice A' (outA ex acs).length c', .int .i64 0]) ∧ w'.ownsRow B 50 3 (.slice A' (outA ex acs).length c') (outA ex acs).length (rc Fw.cells (outA ex acs)))
theorem calls_any (aA : Option Addr) (ac : Nat) (asl : List Ax) (iA : Option Addr) (ic : Nat) (li : List Iq) (is : List Ins) (pA : Option Addr) (pc : Nat) (lp : List Po) (cs : List Pc) (fA : Option Addr) (fc : Nat) (fl : List Fw) (hA : Option Addr) (hc : Nat) (lh : List Hd) (hs : List Hc) (LA : Option Addr) (lac : Nat) (la : List Ac) (acs : List Cn) (w : World) (hb_ : SB asl li is lp cs fl lh hs) (hla : la.length ≤ 100) (hL : ∀ c ∈ acs, c.L.length ≤ 100) (hd : SD w aA asl iA li is pA lp cs fA fl hA lh hs) (hsl : Sl w LA (rc Ac.cells la)) (htb : Tab w la acs) :
    Calls Tryz.prog 13 #[.agg #[.slice aA asl.length ac, .slice iA li.length ic, .slice pA lp.length pc, .slice fA fl.length fc, .slice hA lh.length hc], .slice LA la.length lac] w fun e w' => CallsRes w.heap.size w' e (fun c u => exR asl is cs fl hs c.id c.kind c.L u) acs ∧ Below w.heap.size w w' := by
  have hB0 := since_alloc (Below.refl _ w) (.cells #[.slice aA asl.length ac, .slice iA li.length ic, .slice pA lp.length pc, .slice fA fl.length fc, .slice hA lh.length hc] 34)
  have K1 := Bk.new w #[.slice aA asl.length ac, .slice iA li.length ic, .slice pA lp.length pc, .slice fA fl.length fc, .slice hA lh.length hc] 34
  obtain ⟨ex, hex⟩ : ∃ ex : Cn → Un → Int × Int, (fun c u => exR asl is cs fl hs c.id c.kind c.L u) = ex := ⟨_, rfl⟩
  have HEX : Hid (∀ c : Cn, c.L.length ≤ 100 → ∀ u A cc V, Below w.heap.size w V → Sl V A (rc Nt.cells c.L) → Calls Tryz.prog 9 #[.agg #[.slice aA asl.length ac, .slice iA li.length ic, .slice pA lp.length pc, .slice fA fl.length fc, .slice hA lh.length hc], .agg #[.int .i64 c.id, .int .i64 c.mem, .int .i64 c.kind, .slice A c.L.length cc], u.val] V fun e w' => e = .returned (.tuple #[.int .i64 (ex c u).1, .int .i64 (ex c u).2]) ∧ Below V.heap.size V w') := Lib.hid fun c hc_ u A cc V h hsn => by
    rw [← hex]
    exact excess_any aA ac asl iA ic li is pA pc lp cs fA fc fl hA hc lh hs c.id c.mem c.kind A cc c.L u V hb_ hc_ (hd.below h) hsn
  rw [hex]
  have HTL := Lib.hid htb.1
  clear hex hd hb_
  go_enter Tryz.func13, Tryz.ntmps13
  go_upto_region 1 with fail
  generalize hWW : w.alloc (.cells #[.slice aA asl.length ac, .slice iA li.length ic, .slice pA lp.length pc, .slice fA fl.length fc, .slice hA lh.length hc] 34) = W at *
  clear hWW
  have HQ : Hid (∀ V, Below W.heap.size W V → V.cell? ⟨w.heap.size, 0, none⟩ = some (.slice aA asl.length ac) ∧ V.cell? ⟨w.heap.size, 1, none⟩ = some (.slice iA li.length ic) ∧ V.cell? ⟨w.heap.size, 2, none⟩ = some (.slice pA lp.length pc) ∧ V.cell? ⟨w.heap.size, 3, none⟩ = some (.slice fA fl.length fc) ∧ V.cell? ⟨w.heap.size, 4, none⟩ = some (.slice hA lh.length hc)) := Lib.hid fun V h => ⟨(K1.below h).2 0, (K1.below h).2 1, (K1.below h).2 2, (K1.below h).2 3, (K1.below h).2 4⟩
  have HB : Hid (∀ V, Below W.heap.size W V → Below w.heap.size w V) := Lib.hid fun V h => hB0.trans (h.mono hB0.size)
  have HSL : Hid (∀ V, Below W.heap.size W V → Sl V LA (rc Ac.cells la)) := Lib.hid fun V h => hsl.below (HB.out _ h)
  have HTB : Hid (∀ V, Below W.heap.size W V → Tab V la acs) := Lib.hid fun V h => htb.below (HB.out _ h)
  have HWB := Lib.hid hB0.size
  clear K1 hB0 hsl htb
  go_wp2_with fail
  go_loopw [6, 15] (fun out iv wr => ∃ (k : Nat) (O : List Fw) (A' : Option Addr) (c' : Nat), k ≤ la.length ∧ iv = .int .i64 k ∧ out = .slice A' O.length c' ∧ O = outA ex (acs.take k) ∧ O.length ≤ k * 101 ∧ (∀ c ∈ acs.take k, ∀ u ∈ unC c, (ex c u).2 = 0) ∧ wr.ownsRow W.heap.size 50 3 (.slice A' O.length c') O.length (rc Fw.cells O) ∧ Below W.heap.size W wr) (fun _ iv _ => la.length - (intOf iv).toNat)
  case atStart => exact ⟨0, [], none, 0, by omega, rfl, rfl, rfl, by simp, (fun c hc => by simp at hc), own_nil _ _ _, Below.refl _ _⟩
  case round =>
    obtain ⟨k, O, A', c', hk, rfl, rfl, hO, hOl, hok, hown, hB⟩ := hrel
    by_cases hlt : k < la.length
    · have hlk : (k : Int) < (la.length : Int) := by omega
      have hge : (0 : Int) ≤ (k : Int) := by omega
      obtain ⟨b, o, rfl, hbw, hg⟩ := (HSL.out _ hB).ac hlt
      have hka : k < acs.length := by rw [← HTL.out]; exact hlt
      have hI := (HTB.out _ hB).2 k hlt hka
      have hcm := List.getElem_mem hka
      have HST := Lib.hid (outA_snoc ex acs hka)
      have HOKN : Hid ((∀ u ∈ unC acs[k], (ex acs[k] u).2 = 0) → ∀ c ∈ acs.take (k + 1), ∀ u ∈ unC c, (ex c u).2 = 0) := Lib.hid fun h c hc => by
        rw [take_snoc acs k hka] at hc
        rcases List.mem_append.1 hc with hc | hc
        · exact hok c hc
        · rw [List.mem_singleton.1 hc]; exact h
      have HERR : Hid (∀ u ∈ unC acs[k], (ex acs[k] u).2 ≠ 0 → CallsErr ex acs (ex acs[k] u).2) := Lib.hid fun u hu h => ⟨_, hcm, u, hu, rfl, h⟩
      have hcl := hL _ hcm
      have HSLk := fun V (h : Below W.heap.size W V) => ((HTB.out V h).2 k hlt hka).sl
      have HEXk := fun u A cc V (h : Below W.heap.size W V) (hsn : Sl V A (rc Nt.cells acs[k].L)) => HEX.out acs[k] hcl u A cc V (HB.out _ h) hsn
      have HO0 := Lib.hid hO
      clear hok hcm hO
      generalize la[k] = g at *
      generalize acs[k] = c at *
      obtain ⟨GA, GC, rfl⟩ : ∃ GA GC, g = ⟨c.id, c.mem, c.kind, GA, c.L.length, GC⟩ := ⟨_, _, hI.eq⟩
      have hsn := hI.sl
      obtain ⟨cid, cmem, ckind, cL⟩ := c
      obtain ⟨g0, g1, g2, g3⟩ := hg
      simp only at g0 g1 g2 g3 hsn hcl HEXk HSLk
      have HEXc := Lib.hid (fun u V h => HEXk u GA GC V h (HSLk V h))
      clear HEXk HSLk
      have hBA := since_alloc hB (.cells #[.int .i64 cid, .int .i64 cmem, .int .i64 ckind, .slice GA cL.length GC] 31)
      have hownA := hown.alloc (.cells #[.int .i64 cid, .int .i64 cmem, .int .i64 ckind, .slice GA cL.length GC] 31)
      have oA : (wr.alloc (.cells #[.int .i64 cid, .int .i64 cmem, .int .i64 ckind, .slice GA cL.length GC] 31)).ownsRow wr.heap.size 31 4 (.slice (some ⟨wr.heap.size, 0, none⟩) 1 1) 1 (rc Ac.cells [⟨cid, cmem, ckind, GA, cL.length, GC⟩]) := own_lit (w := wr) (B := wr.heap.size) (rc Ac.cells [⟨cid, cmem, ckind, GA, cL.length, GC⟩]) 31 (Nat.le_refl _) (by simp [rc, Ac.cells]) (by show 1 ≤ maxLen; unfold maxLen; omega)
      have KA := Bk.new wr #[.int .i64 cid, .int .i64 cmem, .int .i64 ckind, .slice GA cL.length GC] 31
      have HNU := nunits_any cid cmem ckind GA GC cL (wr.alloc (.cells #[.int .i64 cid, .int .i64 cmem, .int .i64 ckind, .slice GA cL.length GC] 31)) (by omega) (hsn.alloc _)
      have hul := nuL_len ckind cid cL
      have hul := nuL_len cid ckind cL
      have HUE : Hid (nuL cid ckind cL = unC ⟨cid, cmem, ckind, cL⟩) := Lib.hid rfl
      rw [HUE.out] at HNU hul
      have HNU := Lib.hid HNU
      clear hsn hown hI
      generalize unC ⟨cid, cmem, ckind, cL⟩ = us at *
      go_upto_region 5 with fail
      have p0 := KA.2 0
      have p1 := KA.2 1
      have p2 := KA.2 2
      have p3 := KA.2 3
      generalize hYY : wr.alloc (.cells #[.int .i64 cid, .int .i64 cmem, .int .i64 ckind, .slice GA cL.length GC] 31) = Y at *
      generalize hGG : wr.heap.size = gy at *
      simp at p0 p1 p2 p3
      clear KA g0 g1 g2 g3
      go_wp2_with fail
      refine HNU.out.mono ?_
      rintro e y1 ⟨⟨UA, uc_, rfl, oU⟩, hb⟩
      have hB1 := since_step hBA hb
      have hown1 := own_below hownA hb
      have oA1 := own_below oA hb
      clear p0 p1 p2 p3 hb hBA hownA oA HNU hB
      go_wp2_with fail
      go_loopw [6, 22] (fun out iv wr => ∃ (j : Nat) (O : List Fw) (A' : Option Addr) (c' : Nat), j ≤ us.length ∧ iv = .int .i64 j ∧ out = .slice A' O.length c' ∧ O = outA ex (acs.take k) ++ outG ex ⟨cid, cmem, ckind, cL⟩ (us.take j) ∧ O.length ≤ k * 101 + j ∧ (∀ i, (hi : i < us.length) → i < j → (ex ⟨cid, cmem, ckind, cL⟩ us[i]).2 = 0) ∧ wr.ownsRow W.heap.size 50 3 (.slice A' O.length c') O.length (rc Fw.cells O) ∧ wr.ownsRow gy 31 4 (.slice (some ⟨gy, 0, none⟩) 1 1) 1 (rc Ac.cells [⟨cid, cmem, ckind, GA, cL.length, GC⟩]) ∧ wr.ownsRow Y.heap.size 41 2 (.slice UA us.length uc_) us.length (rc Un.cells us) ∧ Below W.heap.size W wr) (fun _ iv _ => us.length - (intOf iv).toNat)
      case atStart => exact ⟨0, O, _, _, by omega, rfl, rfl, by rw [HO0.out]; simp [outG], by omega, fun i hi h => absurd h (by omega), hown1, oA1, oU, hB1⟩
      case round =>
        clear hown1 oA1 oU hB1 HO0 hOl
        obtain ⟨j, O, A', c', hj, rfl, rfl, hO, hOl, hno2, hown, oA, oU, hB⟩ := hrel
        by_cases hlt2 : j < us.length
        · have hlj : (j : Int) < (us.length : Int) := by omega
          have hge2 : (0 : Int) ≤ (j : Int) := by omega
          obtain ⟨b2, o2, rfl, hbw2, hg2⟩ := (Sl.of_own oU).un hlt2
          have hm := List.getElem_mem hlt2
          have HSN := Lib.hid (outG_snoc ex ⟨cid, cmem, ckind, cL⟩ us hlt2)
          have HEU : Hid ((ex ⟨cid, cmem, ckind, cL⟩ us[j]).2 ≠ 0 → CallsErr ex acs (ex ⟨cid, cmem, ckind, cL⟩ us[j]).2) := Lib.hid fun h => HERR.out _ hm h
          have HNX : Hid ((ex ⟨cid, cmem, ckind, cL⟩ us[j]).2 = 0 → ∀ i, (hi : i < us.length) → i < j + 1 → (ex ⟨cid, cmem, ckind, cL⟩ us[i]).2 = 0) := Lib.hid fun h i hi hij => by
            rcases Nat.lt_or_ge i j with h' | h'
            · exact hno2 i hi h'
            · obtain rfl : i = j := by omega
              exact h
          have HO := Lib.hid hO
          clear hno2 hO hm
          generalize us[j] = v at *
          obtain ⟨ua, uc⟩ := v
          obtain ⟨g0, g1⟩ := hg2
          simp only at g0 g1
          have hBA := since_alloc hB (.cells #[.int .i64 ua, .int .i64 uc] 41)
          have KX := Bk.new wr #[.int .i64 ua, .int .i64 uc] 41
          have hownA := hown.alloc (.cells #[.int .i64 ua, .int .i64 uc] 41)
          have oAA := oA.alloc (.cells #[.int .i64 ua, .int .i64 uc] 41)
          have oUA := oU.alloc (.cells #[.int .i64 ua, .int .i64 uc] 41)
          obtain ⟨n, e, he⟩ : ∃ n e, ex ⟨cid, cmem, ckind, cL⟩ ⟨ua, uc⟩ = (n, e) := ⟨_, _, rfl⟩
          have HEXu := fun V (h : Below W.heap.size W V) => HEXc.out ⟨ua, uc⟩ V h
          unfold Un.val at HEXu
          simp only [he] at HEXu HSN HEU HNX
          have HEXu := Lib.hid HEXu
          clear he hown oA oU
          obtain ⟨_, _, he0, _, aat⟩ := (Sl.of_own oAA).ac (k := 0) (by simp)
          injection he0 with he0
          injection he0 with he1 he2
          subst he1
          subst he2
          obtain ⟨a0, a1, a2, a3⟩ := aat
          simp at a0 a1 a2 a3
          go_upto_region 8 with fail
          generalize hYY : wr.alloc (.cells #[.int .i64 ua, .int .i64 uc] 41) = Y2 at *
          generalize hGG : wr.heap.size = gy2 at *
          clear hYY hGG g0 g1
          obtain ⟨s0, s1, s2, s3, s4⟩ := HQ.out _ hBA
          have u0 := KX.2 0
          have u1 := KX.2 1
          simp at u0 u1
          go_wp2_with fail
          refine (HEXu.out _ hBA).mono ?_
          rintro e' y3 ⟨rfl, hb⟩
          have hB3 := since_step hBA hb
          have KX := KX.below hb
          have hown3 := own_below hownA hb
          have HA3 := Lib.hid (own_below oAA hb)
          have HU3 := Lib.hid (own_below oUA hb)
          clear s0 s1 s2 s3 s4 u0 u1 a0 a1 a2 a3 hb hownA oAA oUA HEXu
          by_cases h0 : e = 0
          · subst h0
            have HNO := Lib.hid (HNX.out rfl)
            clear HNX HEU
            have hsz3 := hB3.size
            by_cases hn : n < 0
            · rw [if_pos hn] at HSN
              have u0 := KX.2 0
              have u1 := KX.2 1
              simp at u0 u1
              clear KX
              go_wp2_with (first
                | (at_builtin; refine wpList_app rfl (.tmp 38) (.tmp 42) rfl EFw rfl rfl (hown3.alloc _) (m := 1) (news := (⟨ua, uc, n⟩ : Fw).cells) rfl (Sl.new_ _ _ _) (Fw.one _) (by unfold maxLen; omega) (by omega) (by simp only [World.size_alloc]; omega) ?_; intro A2 c2 w3 hown4 hg3 hb3)
                | fail)
              have oA4 := own_kept_types (by decide) (HA3.out.alloc _) (hown3.alloc _) hg3
              have oU4 := own_kept_types (by decide) (HU3.out.alloc _) (hown3.alloc _) hg3
              go_roundw
              case rel =>
                refine ⟨j + 1, O ++ [⟨ua, uc, n⟩], A2, c2, by omega, by go_num, by simp, by rw [HO.out, HSN.out, List.append_assoc], by simp; omega, HNO.out, ?_, oA4, oU4, (since_alloc hB3 _).trans hb3⟩
                rw [rc_append]; simpa [rc] using hown4
              case measure => simp [intOf]; omega
            · rw [if_neg hn, List.append_nil] at HSN
              clear KX
              go_wp2_with fail
              go_roundw
              case rel => exact ⟨j + 1, O, A', c', by omega, by go_num, rfl, by rw [HO.out, HSN.out], by omega, HNO.out, hown3, HA3.out, HU3.out, hB3⟩
              case measure => simp [intOf]; omega
          · have bn : (e != 0) = true := by simpa using h0
            have HR := Lib.hid (HEU.out h0)
            clear HNX HEU HSN KX h0
            go_wp2_with fail
            go_ret2
            exact ⟨.inl ⟨_, HR.out, rfl⟩, HB.out _ hB3⟩
        · obtain rfl : j = us.length := by omega
          rw [List.take_length] at hO
          have HO := Lib.hid hO
          have HNO := Lib.hid hno2
          clear hO hno2
          go_wp2_with fail
          go_roundw
          case rel => exact ⟨k + 1, O, A', c', by omega, by go_num, rfl, by rw [HO.out, HST.out], by omega, HOKN.out fun u hu => by
              obtain ⟨i, hi, rfl⟩ := List.getElem_of_mem hu
              exact HNO.out i hi hi, hown, hB⟩
          case measure => simp [intOf]; omega
    · obtain rfl : k = la.length := by omega
      rw [HTL.out, List.take_length] at hO hok
      have HO := Lib.hid hO
      have HOK := Lib.hid hok
      clear hO hok
      go_wp2_with fail
      go_ret2
      exact ⟨.inr ⟨HOK.out, A', c', by rw [← HO.out]; rfl, by rw [← HO.out]; exact own_base hown HWB.out⟩, HB.out _ hB⟩
end
end Go.Proofs.YtmjndpkfhdoljaaGreat
