import Derived.Test.YtiggcpfmmgmncaaVp25
import Derived.Test.YtiggcpfmmgmncaaVp33
set_option maxHeartbeats 16000000
set_option maxRecDepth 100000
set_option linter.unusedVariables false
set_option linter.unusedSimpArgs false
namespace Go.Proofs.Ytiggcpfmmgmncaa
open Go.ChangeShapes Go.WideShapes Go.ChangeAt Go.RowKit
section
theorem blk8_type {B B2 b g kc s b2 c : Nat} {K A : Option Addr} {d : Dv} {R : List (RowS Nat)} {x : Sc} {w : World} (hd : DrA B w b g K kc d) (hs : ScA B2 w s b2 A c R x) : ∀ y ∈ blk8 b g s (x.row A c), ∃ cs z T, w.heap[y]? = some (.cells cs T z) ∧ (T = 71 ∨ T = 142 ∨ T = 66 ∨ T = 36) := fun y hy => by
  unfold blk8 at hy
  rcases List.mem_cons.1 hy with e | hy
  · exact ⟨_, _, _, by rw [e]; exact hd.blk, .inl rfl⟩
  rcases List.mem_cons.1 hy with e | hy
  · exact ⟨_, _, _, by rw [e]; exact hd.row, .inr (.inl rfl)⟩
  rcases List.mem_cons.1 hy with e | hy
  · exact ⟨_, _, _, by rw [e]; exact hs.blk, .inr (.inr (.inl rfl))⟩
  · have e2 : (x.row A c).ownBlock = some y := Option.mem_def.1 (Option.mem_toList.1 hy)
    unfold Sc.row at e2
    rcases hs.own.2 with ⟨hv, _⟩ | ⟨k, cap, cur, hv, hk2, hh, _⟩
    · rw [hv] at e2; simp [Value.ownBlock] at e2
    · rw [hv] at e2
      simp [Value.ownBlock] at e2
      subst e2
      exact ⟨_, _, _, hh, .inr (.inr (.inr rfl))⟩
theorem blkD_type {B b c kc s c2 : Nat} {A KA A2 : Option Addr} {R R2 : List (RowS Nat)} {x : Rv} {y : Sc} {w : World} (h : RvA B w b A c R KA kc x) (hy : RsA B w s b A2 c2 R2 y) : ∀ z ∈ blkD b A x.C.length c s (y.row A2 c2), ∃ cs q T, w.heap[z]? = some (.cells cs T q) ∧ (T = 49 ∨ T = 55 ∨ T = 36) := fun z hz => by
  rcases List.mem_append.1 hz with hz | hz
  · obtain ⟨cs, q, T, h1, h2⟩ := h.row_blk z hz
    exact ⟨cs, q, T, h1, h2.elim .inl (fun e => .inr (.inr e))⟩
  · obtain ⟨cs, q, T, h1, h2⟩ := hy.row_blk z hz
    exact ⟨cs, q, T, h1, .inr h2⟩
theorem blkD_ge {B b c kc s c2 : Nat} {A KA A2 : Option Addr} {R R2 : List (RowS Nat)} {x : Rv} {y : Sc} {w : World} (h : RvA B w b A c R KA kc x) (hy : RsA B w s b A2 c2 R2 y) : ∀ z ∈ blkD b A x.C.length c s (y.row A2 c2), B ≤ z := fun z hz => by
  rcases List.mem_append.1 hz with hz | hz
  · exact blkR_ge h z hz
  · rcases List.mem_cons.1 hz with e | hz
    · rw [e]; exact hy.ge
    · exact own_ge hy.own z (Option.mem_def.1 (Option.mem_toList.1 hz))
theorem DrA.far {B b g kc : Nat} {w w' : World} {K : Option Addr} {d : Dv} {l : List Nat} {P : TypeId → Prop} (hd : DrA B w b g K kc d) (hc : ChgL l w w') (ht : ∀ y ∈ l, ∃ cs z T, w.heap[y]? = some (.cells cs T z) ∧ P T) (h1 : ¬ P 71) (h2 : ¬ P 142) (h3 : ¬ P 3) : DrA B w' b g K kc d :=
  hd.chgL hc (not_mem_type ht hd.blk h1) (not_mem_type ht hd.row h2) (fun y hy => own_not_type ht hd.kp h3 y hy)
theorem ScA.farL {B s b c : Nat} {w w' : World} {A : Option Addr} {R : List (RowS Nat)} {x : Sc} {l : List Nat} {P : TypeId → Prop} (hs : ScA B w s b A c R x) (hc : ChgL l w w') (ht : ∀ y ∈ l, ∃ cs z T, w.heap[y]? = some (.cells cs T z) ∧ P T) (h1 : ¬ P 66) (h2 : ∀ y ∈ l, (x.row A c).ownBlock ≠ some y) (h3 : ¬ P 5) : ScA B w' s b A c R x :=
  ⟨by rw [hc.block s hs.lt (not_mem_type ht hs.blk h1)]; exact hs.blk, hc.own hs.own h2, fun r hr => hc.own (hs.rows r hr) (fun y hy => own_not_type ht (hs.rows r hr) h3 y hy), hs.map, hs.ge, hs.small⟩
theorem ChgL.mono {l m : List Nat} {w w' : World} (h : ChgL l w w') (hm : ∀ x ∈ l, x ∈ m) : ChgL m w w' := ⟨h.os, h.tape, h.output, h.size, fun k hk hn => h.block k hk (fun hx => hn (hm k hx))⟩
theorem rapp_len {y : Sc} {X : Rv} {l : List Nat} : (y.rapp X l).1.2.C.length = X.C.length := by
  have hw : ∀ p cs, (X.write p cs).1.C.length = X.C.length := fun p cs => by
    unfold Rv.write
    split
    · rfl
    · exact putK_len _
  unfold Sc.rapp
  split
  · rfl
  · split
    · rfl
    · split
      · rfl
      · split
        · exact hw _ _
        · exact hw _ _
def Two (B : Nat) (w : World) (b g s b2 s2 : Nat) (d : Dv) (x : Sc) (X : Rv) (y : Sc) : Prop :=
  ∃ (K : Option Addr) (kc : Nat) (A : Option Addr) (c : Nat) (R : List (RowS Nat)) (A2 : Option Addr) (c2 : Nat) (R2 : List (RowS Nat)) (KA : Option Addr) (kc2 : Nat) (A3 : Option Addr) (c3 : Nat) (R3 : List (RowS Nat)),
    DrA B w b g K kc d ∧ ScA B w s b A c R x ∧ RvA B w b2 A2 c2 R2 KA kc2 X ∧ RsA B w s2 b2 A3 c3 R3 y ∧
    (∀ r ∈ R3, SlX (blk8 b g s (x.row A c) ++ blkD b2 A2 X.C.length c2 s2 (y.row A3 c3)) w r.A (by8 r.l)) ∧
    (∀ z ∈ blk8 b g s (x.row A c), z ∉ blkD b2 A2 X.C.length c2 s2 (y.row A3 c3)) ∧ (∀ z ∈ blkR b2 A2 X.C.length c2, (y.row A3 c3).ownBlock ≠ some z)
section
variable {B b g s b2 s2 : Nat} {w w' : World} {d : Dv} {x y : Sc} {X : Rv}
theorem Two.below (h : Two B w b g s b2 s2 d x X y) (hb : Below w.heap.size w w') : Two B w' b g s b2 s2 d x X y := by
  obtain ⟨K, kc, A, c, R, A2, c2, R2, KA, kc2, A3, c3, R3, h1, h2, h3, h4, h5, h6, h7⟩ := h
  exact ⟨K, kc, A, c, R, A2, c2, R2, KA, kc2, A3, c3, R3, h1.below hb, h2.below hb, h3.below hb, h4.below hb, fun r hr => (h5 r hr).below hb, h6, h7⟩
end
def Kp (w w' : World) : Prop := ∀ (n : Nat) (cs : Array Value) (T : TypeId) (z : Nat × Nat), w.heap[n]? = some (.cells cs T z) → T ≠ 71 → T ≠ 142 → T ≠ 66 → T ≠ 36 → T ≠ 49 → T ≠ 55 → w'.heap[n]? = w.heap[n]?
theorem Kp.of_below {w w' : World} (h : Below w.heap.size w w') : Kp w w' := fun n cs T z hn _ _ _ _ _ _ => h.block n (Array.getElem?_eq_some_iff.1 hn).1
theorem Kp.trans {w w1 w2 : World} (h : Kp w w1) (k : Kp w1 w2) : Kp w w2 := fun n cs T z hn a1 a2 a3 a4 a5 a6 => by
  have e := h n cs T z hn a1 a2 a3 a4 a5 a6
  rw [← e]
  exact k n cs T z (e.trans hn) a1 a2 a3 a4 a5 a6
theorem SlX.typed {w : World} {l : List Nat} {B e size n c : Nat} {A : Option Addr} {xs : List Value} {P : TypeId → Prop} (ho : w.ownsRow B e size (.slice A n c) n xs) (ht : ∀ y ∈ l, ∃ cs z T, w.heap[y]? = some (.cells cs T z) ∧ P T) (hP : ¬ P e) : SlX l w A xs := by
  refine ⟨Sl.of_own ho, fun p hp hne => ?_⟩
  rcases ho.2 with ⟨hv, hn⟩ | ⟨k, cap, cur, hv, hk2, hh, _⟩
  · injection hv with hv; rw [hv] at hp; cases hp
  · injection hv with hv
    rw [hv] at hp
    injection hp with hp
    subst hp
    exact ⟨(Array.getElem?_eq_some_iff.1 hh).1, not_mem_type ht hh hP⟩
theorem RsA.base {B B2 s b c : Nat} {w : World} {A : Option Addr} {R : List (RowS Nat)} {x : Sc} (h : RsA B w s b A c R x) (hB : B2 ≤ B) : RsA B2 w s b A c R x := ⟨h.blk, own_base h.own hB, h.map, Nat.le_trans hB h.ge, h.small⟩
section
variable {B b g s b2 s2 s' kc c c2 kc2 c3 : Nat} {w w' : World} {d d' : Dv} {x y x' y' : Sc} {X X' : Rv} {K A A2 KA A3 : Option Addr} {R R2 R3 : List (RowS Nat)}
theorem two_prog (h1 : DrA B w b g K kc d) (h2 : ScA B w s b A c R x) (h3 : RvA B w b2 A2 c2 R2 KA kc2 X) (h4 : RsA B w s2 b2 A3 c3 R3 y)
    (h5 : ∀ r ∈ R3, SlX (blk8 b g s (x.row A c) ++ blkD b2 A2 X.C.length c2 s2 (y.row A3 c3)) w r.A (by8 r.l)) (h6 : ∀ z ∈ blk8 b g s (x.row A c), z ∉ blkD b2 A2 X.C.length c2 s2 (y.row A3 c3)) (h7 : ∀ z ∈ blkR b2 A2 X.C.length c2, (y.row A3 c3).ownBlock ≠ some z)
    (hB : B ≤ w.heap.size) (hc : ChgL (blk8 b g s (x.row A c)) w w') {A' : Option Addr} {c' : Nat} {R' : List (RowS Nat)} (hd' : DrW B w' b g d') (hs' : ScA B w' s' b A' c' R' x') (hgrow : ∀ z ∈ blk8 b g s' (x'.row A' c'), z ∈ blk8 b g s (x.row A c) ∨ w.heap.size ≤ z) :
    Two B w' b g s' b2 s2 d' x' X y ∧ Below B w w' ∧ Kp w w' := by
  obtain ⟨K', kc', hd'⟩ := hd'
  have ht8 := blk8_type h1 h2
  have hQlt := blk_lt_of (blkD_type h3 h4)
  have hmem : ∀ z ∈ blkR b2 A2 X.C.length c2, z ∈ blkD b2 A2 X.C.length c2 s2 (y.row A3 c3) := fun z hz => List.mem_append.2 (.inl hz)
  have hrowR : ∀ z ∈ blk8 b g s (x.row A c), (Value.slice A2 X.C.length c2).ownBlock ≠ some z := fun z hz he => h6 z hz (hmem z (by unfold blkR; exact List.mem_cons_of_mem _ (Option.mem_toList.2 (Option.mem_def.2 he))))
  have hrowS : ∀ z ∈ blk8 b g s (x.row A c), (y.row A3 c3).ownBlock ≠ some z := fun z hz he => h6 z hz (List.mem_append.2 (.inr (List.mem_cons_of_mem _ (Option.mem_toList.2 (Option.mem_def.2 he)))))
  refine ⟨⟨K', kc', A', c', R', A2, c2, R2, KA, kc2, A3, c3, R3, hd', hs', h3.far hc (not_mem_type ht8 h3.blk (by decide)) hrowR (fun z hz => by obtain ⟨cs, q, T, a, e⟩ := ht8 z hz; exact ⟨cs, q, T, a, by rcases e with e | e | e | e <;> rw [e] <;> decide, by rcases e with e | e | e | e <;> rw [e] <;> decide⟩), h4.far hc (not_mem_type ht8 h4.blk (by decide)) hrowS, fun r hr => ?_, fun z hz hq => ?_, h7⟩, hc.below hB (fun z hz => blk8_ge h1 h2 z hz), fun n cs T z hn a1 a2 a3 a4 _ _ => hc.block n (Array.getElem?_eq_some_iff.1 hn).1 (not_mem_type ht8 hn (fun h => by rcases h with h | h | h | h; exact a1 h; exact a2 h; exact a3 h; exact a4 h))⟩
  · refine (h5 r hr).chg (hc.mono (fun z hz => List.mem_append.2 (.inl hz))) (fun z hz => ?_)
    rcases List.mem_append.1 hz with hz | hz
    · rcases hgrow z hz with h9 | h9
      · exact .inl (List.mem_append.2 (.inl h9))
      · exact .inr h9
    · exact .inl (List.mem_append.2 (.inr hz))
  · rcases hgrow z hz with h9 | h9
    · exact h6 z h9 hq
    · have := hQlt z hq; omega
theorem two_doc (h1 : DrA B w b g K kc d) (h2 : ScA B w s b A c R x) (h3 : RvA B w b2 A2 c2 R2 KA kc2 X) (h4 : RsA B w s2 b2 A3 c3 R3 y)
    (h6 : ∀ z ∈ blk8 b g s (x.row A c), z ∉ blkD b2 A2 X.C.length c2 s2 (y.row A3 c3))
    (hB : B ≤ w.heap.size) (hc : ChgL (blkD b2 A2 X.C.length c2 s2 (y.row A3 c3)) w w') {KA' A3' : Option Addr} {kc' c3' : Nat} {R2' R3' : List (RowS Nat)} (hv' : RvA B w' b2 A2 c2 R2' KA' kc' X') (hs' : RsA B w' s' b2 A3' c3' R3' y') (hlen : X'.C.length = X.C.length)
    (hgrow : ∀ z ∈ blkD b2 A2 X.C.length c2 s' (y'.row A3' c3'), z ∈ blkD b2 A2 X.C.length c2 s2 (y.row A3 c3) ∨ w.heap.size ≤ z) (h7' : ∀ z ∈ blkR b2 A2 X.C.length c2, (y'.row A3' c3').ownBlock ≠ some z)
    (h5' : ∀ r ∈ R3', SlX (blk8 b g s (x.row A c) ++ blkD b2 A2 X.C.length c2 s' (y'.row A3' c3')) w' r.A (by8 r.l)) :
    Two B w' b g s b2 s' d x X' y' ∧ Below B w w' ∧ Kp w w' := by
  have htD := blkD_type h3 h4
  have hPlt := blk_lt_of (blk8_type h1 h2)
  have hnotU : ∀ z ∈ blkD b2 A2 X.C.length c2 s2 (y.row A3 c3), (x.row A c).ownBlock ≠ some z := fun z hz he => h6 z (by unfold blk8; exact List.mem_cons_of_mem _ (List.mem_cons_of_mem _ (List.mem_cons_of_mem _ (Option.mem_toList.2 (Option.mem_def.2 he))))) hz
  refine ⟨⟨K, kc, A, c, R, A2, c2, R2', KA', kc', A3', c3', R3', h1.far hc htD (by decide) (by decide) (by decide), h2.farL hc htD (by decide) hnotU (by decide), hv', hs', fun r hr => ?_, fun z hz hq => ?_, fun z hz => ?_⟩, hc.below hB (fun z hz => blkD_ge h3 h4 z hz), fun n cs T z hn _ _ _ a4 a5 a6 => hc.block n (Array.getElem?_eq_some_iff.1 hn).1 (not_mem_type htD hn (fun h => by rcases h with h | h | h; exact a5 h; exact a6 h; exact a4 h))⟩
  · rw [hlen]; exact h5' r hr
  · rw [hlen] at hq
    rcases hgrow z hq with h9 | h9
    · exact h6 z hz h9
    · have := hPlt z hz; omega
  · rw [hlen] at hz; exact h7' z hz
theorem Two.papp {rA : Option Addr} {rc_ : Nat} {l : List Nat} (h : Two B w b g s b2 s2 d x X y) (hB : B ≤ w.heap.size) (hlc : l.length ≤ rc_) (hcm : rc_ ≤ maxLen) (hl : l.length ≤ 100000) (hrs : Sl w rA (by8 l)) (hin : ∀ k o, rA = some ⟨k, o, none⟩ → by8 l ≠ [] → k < B) (ho : Oct l) (ht : x.t ≤ d.S.length) (hLn : x.L.length ≤ 900000) :
    Calls Try.prog 18 #[.pointer (some ⟨s, 0, none⟩), .slice rA l.length rc_] w fun e w' => e = .returned (.int .i64 (x.app d l).2) ∧ Two B w' b g s b2 s2 (x.app d l).1.2 (x.app d l).1.1 X y ∧ Below B w w' ∧ Kp w w' := by
  obtain ⟨K, kc, A, c, R, A2, c2, R2, KA, kc2, A3, c3, R3, h1, h2, h3, h4, h5, h6, h7⟩ := h
  refine (sapp_any rA rc_ l w h1 h2 hB hlc hcm hl (SlF.of_old hrs hin h1.ge.1 h1.ge.2) ho ht hLn).mono ?_
  rintro e w' ⟨rfl, A', c', R', hs', hd', hc, hrow⟩
  exact ⟨rfl, two_prog h1 h2 h3 h4 h5 h6 h7 hB hc ⟨_, _, hd'⟩ hs' (blk8_grow hrow)⟩
theorem Two.rapp {rA : Option Addr} {rc_ : Nat} {l : List Nat} (h : Two B w b g s b2 s2 d x X y) (hB : B ≤ w.heap.size) (hlc : l.length ≤ rc_) (hcm : rc_ ≤ maxLen) (hl : l.length ≤ 100000) (hrs : Sl w rA (by8 l)) (hin : ∀ k o, rA = some ⟨k, o, none⟩ → by8 l ≠ [] → k < B) (ho : Oct l) (ht : y.t ≤ X.C.length) (hfu : X.fuse ≤ 9223372036854775807) (hfl : -9223372036854775807 ≤ X.fuse) (hLn : y.L.length ≤ 900000) :
    Calls Try.prog 19 #[.pointer (some ⟨s2, 0, none⟩), .slice rA l.length rc_] w fun e w' => e = .returned (.int .i64 (y.rapp X l).2) ∧ Two B w' b g s b2 s2 d x (y.rapp X l).1.2 (y.rapp X l).1.1 ∧ Below B w w' ∧ Kp w w' := by
  obtain ⟨K, kc, A, c, R, A2, c2, R2, KA, kc2, A3, c3, R3, h1, h2, h3, h4, h5, h6, h7⟩ := h
  refine (rapp_any rA rc_ l w h3 h4 hB hlc hcm hl hrs ho ht hfu hfl h7 hLn).mono ?_
  rintro e w' ⟨rfl, R', A3', c3', R3', hv', hs', hR3, hc, hrow⟩
  have hgrow : ∀ z ∈ blkD b2 A2 X.C.length c2 s2 ((y.rapp X l).1.1.row A3' c3'), z ∈ blkD b2 A2 X.C.length c2 s2 (y.row A3 c3) ∨ w.heap.size ≤ z := fun z hz => by
    rcases List.mem_append.1 hz with hz | hz
    · exact .inl (List.mem_append.2 (.inl hz))
    · rcases List.mem_cons.1 hz with e | hz
      · exact .inl (List.mem_append.2 (.inr (by rw [e]; exact List.mem_cons_self ..)))
      · have e2 := Option.mem_def.1 (Option.mem_toList.1 hz)
        rcases hrow with h9 | ⟨k, h9, h10⟩
        · rw [h9] at e2
          exact .inl (List.mem_append.2 (.inr (List.mem_cons_of_mem _ (Option.mem_toList.2 (Option.mem_def.2 e2)))))
        · rw [h10] at e2
          injection e2 with e2
          exact .inr (by omega)
  refine ⟨rfl, two_doc h1 h2 h3 h4 h6 hB hc hv' hs' rapp_len hgrow (fun z hz => ?_) (fun r hr => ?_)⟩
  · rcases hrow with h9 | ⟨k, h9, h10⟩
    · rw [h9]; exact h7 z hz
    · rw [h10]
      intro e
      injection e with e
      have := blk_lt_of h3.row_blk z hz
      omega
  · have hchg : ∀ {q : RowS Nat}, SlX (blk8 b g s (x.row A c) ++ blkD b2 A2 X.C.length c2 s2 (y.row A3 c3)) w q.A (by8 q.l) → SlX (blk8 b g s (x.row A c) ++ blkD b2 A2 X.C.length c2 s2 ((y.rapp X l).1.1.row A3' c3')) w' q.A (by8 q.l) := fun hq => hq.chg (hc.mono (fun z hz => List.mem_append.2 (.inr hz))) (fun z hz => by
      rcases List.mem_append.1 hz with hz | hz
      · exact .inl (List.mem_append.2 (.inl hz))
      · rcases hgrow z hz with h9 | h9
        · exact .inl (List.mem_append.2 (.inr h9))
        · exact .inr h9)
    rcases hR3 with e | e
    · rw [e] at hr; exact hchg (h5 r hr)
    · rw [e] at hr
      rcases List.mem_append.1 hr with hr | hr
      · exact hchg (h5 r hr)
      · rw [List.mem_singleton] at hr
        subst hr
        refine hchg ⟨hrs, fun p hp hne => ?_⟩
        obtain ⟨k, o, hA, _⟩ := hrs hne
        rw [hA] at hp
        injection hp with hp
        subst hp
        have hk := hin k o hA hne
        exact ⟨Nat.lt_of_lt_of_le hk hB, fun hm => by
          rcases List.mem_append.1 hm with hm | hm
          · have h9 := blk8_ge h1 h2 _ hm
            exact absurd h9 (Nat.not_le.2 hk)
          · have h9 := blkD_ge h3 h4 _ hm
            exact absurd h9 (Nat.not_le.2 hk)⟩
theorem Two.pfuse {n : Int} {L : Option Addr} {lc : Nat} {l : List Nt} (h : Two B w b g s b2 s2 d x X y) (hB : B ≤ w.heap.size) (hl : l.length ≤ 1000000) (hn : n ≤ 9223372036854775807) (hs : Sl w L (rc Nt.cells l)) (hin : ∀ k o, L = some ⟨k, o, none⟩ → rc Nt.cells l ≠ [] → k < B) :
    Calls Try.prog 20 #[.pointer (some ⟨b, 0, none⟩), .int .i64 n, .slice L l.length lc] w fun e w' => e = .returned (.int .i64 (d.fuse n l).2) ∧ Two B w' b g s b2 s2 (d.fuse n l).1 x X y ∧ Below B w w' ∧ Kp w w' := by
  obtain ⟨K, kc, A, c, R, A2, c2, R2, KA, kc2, A3, c3, R3, h1, h2, h3, h4, h5, h6, h7⟩ := h
  refine (dfuse_any n L lc l w h1 hB hl hn (SlF.of_old hs hin h1.ge.1 h1.ge.2)).mono ?_
  rintro e w' ⟨rfl, hc, hd'⟩
  exact ⟨rfl, two_prog h1 h2 h3 h4 h5 h6 h7 hB (chg2_blk8 hc) hd' (ScA.chg2 h1 h2 hc) (fun z hz => .inl hz)⟩
theorem Two.start (h : Two B w b g s b2 s2 d x X y) (hB : B ≤ w.heap.size) :
    Calls Try.prog 23 #[.pointer (some ⟨b, 0, none⟩)] w fun e w' => e = .returned (.int .i64 0) ∧ Two B w' b g s b2 s2 d.fresh x X y ∧ Below B w w' ∧ Kp w w' := by
  obtain ⟨K, kc, A, c, R, A2, c2, R2, KA, kc2, A3, c3, R3, h1, h2, h3, h4, h5, h6, h7⟩ := h
  refine (dstart_any w h1).mono ?_
  rintro e w' ⟨rfl, hc, hd'⟩
  exact ⟨rfl, two_prog h1 h2 h3 h4 h5 h6 h7 hB (chg2_blk8 hc) hd' (ScA.chg2 h1 h2 hc) (fun z hz => .inl hz)⟩
theorem Two.popen {f t : Nat} {life era : Int} (h : Two B w b g s b2 s2 d x X y) (hB : B ≤ w.heap.size) (hft : f ≤ t) (ht : t ≤ d.S.length) (hl1 : 1 ≤ life) (hl2 : life ≤ 16777215) (he1 : 0 ≤ era) (he2 : era ≤ 16777215) (hnew : newestN d.S f (t - f) < life) :
    Calls Try.prog 15 #[.pointer (some ⟨b, 0, none⟩), .int .i64 f, .int .i64 t, .int .i64 life, .int .i64 era] w fun e w' => ∃ s', e = .returned (.tuple #[.pointer (some ⟨s', 0, none⟩), .int .i64 0]) ∧ Two B w' b g s' b2 s2 d ⟨f, t, life, era, (scan d.S t era f 0 0).1, (scan d.S t era f 0 0).2 - f, false⟩ X y ∧ Below B w w' ∧ Kp w w' := by
  obtain ⟨K, kc, A, c, R, A2, c2, R2, KA, kc2, A3, c3, R3, h1, h2, h3, h4, h5, h6, h7⟩ := h
  refine (sopen_new f t life era w h1 hB hft ht hl1 hl2 he1 he2 hnew).mono ?_
  rintro e w' ⟨s', A', c', R', rfl, hs', hb, hz1, hz2⟩
  exact ⟨s', rfl, two_prog h1 h2 h3 h4 h5 h6 h7 hB (ChgL.of_below hb) ⟨_, _, h1.below hb⟩ hs' (blk8_new hz1 hz2)⟩
theorem Two.ropen {f t : Nat} {life era : Int} (h : Two B w b g s b2 s2 d x X y) (hB : B ≤ w.heap.size) (hft : f ≤ t) (ht : t ≤ X.C.length) (hl1 : 1 ≤ life) (hl2 : life ≤ 16777215) (he1 : 0 ≤ era) (he2 : era ≤ 16777215) (hnew : newestN X.C f (t - f) < life) :
    Calls Try.prog 16 #[.pointer (some ⟨b2, 0, none⟩), .int .i64 f, .int .i64 t, .int .i64 life, .int .i64 era] w fun e w' => ∃ s', e = .returned (.tuple #[.pointer (some ⟨s', 0, none⟩), .int .i64 0]) ∧ Two B w' b g s b2 s' d x X ⟨f, t, life, era, (scan X.C t era f 0 0).1, (scan X.C t era f 0 0).2 - f, false⟩ ∧ Below B w w' ∧ Kp w w' := by
  obtain ⟨K, kc, A, c, R, A2, c2, R2, KA, kc2, A3, c3, R3, h1, h2, h3, h4, h5, h6, h7⟩ := h
  refine (ropen8_ok f t life era w h3 hB hft ht hl1 hl2 he1 he2 hnew).mono ?_
  rintro e w' ⟨⟨s', A', c', R', rfl, hs', hr'⟩, hb⟩
  have hs2 := hs'.base hB
  have htn := blkD_type (h3.below hb) hs2
  have ht8 := blk8_type (h1.below hb) (h2.below hb)
  have hge : ∀ z ∈ s' :: (Sc.row ⟨f, t, life, era, (scan X.C t era f 0 0).1, (scan X.C t era f 0 0).2 - f, false⟩ A' c').ownBlock.toList, w.heap.size ≤ z := fun z hz => by
    rcases List.mem_cons.1 hz with e | hz
    · rw [e]; exact hs'.ge
    · exact own_ge hs'.own z (Option.mem_def.1 (Option.mem_toList.1 hz))
  refine ⟨s', rfl, two_doc h1 h2 h3 h4 h6 hB (ChgL.of_below hb) (h3.below hb) hs2 rfl (fun z hz => ?_) (fun z hz e => ?_) (fun r hr => ?_)⟩
  · rcases List.mem_append.1 hz with hz | hz
    · exact .inl (List.mem_append.2 (.inl hz))
    · exact .inr (hge z hz)
  · have h9 := hge z (List.mem_cons_of_mem _ (Option.mem_toList.2 (Option.mem_def.2 e)))
    have := blk_lt_of h3.row_blk z hz
    omega
  · refine SlX.typed (P := fun T => T ≠ 5) (hr' r hr) (fun z hz => ?_) (fun h => h rfl)
    rcases List.mem_append.1 hz with hz | hz
    · obtain ⟨cs, q, T, a, e⟩ := ht8 z hz
      exact ⟨cs, q, T, a, by rcases e with e | e | e | e <;> rw [e] <;> decide⟩
    · obtain ⟨cs, q, T, a, e⟩ := htn z hz
      exact ⟨cs, q, T, a, by rcases e with e | e | e <;> rw [e] <;> decide⟩
theorem Two.rfuse {n : Int} {L : Option Addr} {lc : Nat} {l : List Nt} (h : Two B w b g s b2 s2 d x X y) (hB : B ≤ w.heap.size) (hl : l.length ≤ 1000000) (hs : Sl w L (rc Nt.cells l)) (hin : ∀ k o, L = some ⟨k, o, none⟩ → rc Nt.cells l ≠ [] → k < B) :
    Calls Try.prog 22 #[.pointer (some ⟨b2, 0, none⟩), .int .i64 n, .slice L l.length lc] w fun e w' => e = .returned (.int .i64 (X.fused n l).2) ∧ Two B w' b g s b2 s2 d x (X.fused n l).1 y ∧ Below B w w' ∧ Kp w w' := by
  obtain ⟨K, kc, A, c, R, A2, c2, R2, KA, kc2, A3, c3, R3, h1, h2, h3, h4, h5, h6, h7⟩ := h
  refine (rfuse_any n L lc l w h3 hB hl ⟨hs, fun p hp hne => ?_⟩).mono ?_
  · obtain ⟨k, o, hA, _⟩ := hs hne
    rw [hA] at hp
    injection hp with hp
    subst hp
    have hk := hin k o hA hne
    exact ⟨Nat.lt_of_lt_of_le hk hB, fun hm => by
      rw [List.mem_singleton] at hm
      have h9 : B ≤ b2 := h3.ge
      have h8 : k = b2 := hm
      omega⟩
  · rintro e w' ⟨rfl, KA', kc', hv', hc⟩
    have hCl : (X.fused n l).1.C.length = X.C.length := by
      unfold Rv.fused
      split <;> rfl
    have hcD : ChgL (blkD b2 A2 X.C.length c2 s2 (y.row A3 c3)) w w' := hc.mono (fun z hz => by rw [List.mem_singleton] at hz; rw [hz]; exact List.mem_append.2 (.inl (List.mem_cons_self ..)))
    have hs9 : RsA B w' s2 b2 A3 c3 R3 y := h4.far hc (fun hm => by rw [List.mem_singleton] at hm; have e := h4.blk; rw [hm, h3.blk] at e; injection e with e; injection e with _ e; exact absurd e (by decide)) (fun z hz he => by rw [List.mem_singleton] at hz; rw [hz] at he; exact h3.off h4.own (by decide) he)
    exact ⟨rfl, two_doc h1 h2 h3 h4 h6 hB hcD hv' hs9 hCl (fun z hz => .inl hz) h7 (fun r hr => (h5 r hr).chg (hcD.mono (fun z hz => List.mem_append.2 (.inr hz))) (fun z hz => .inl hz))⟩
theorem Two.turn (h : Two B w b g s b2 s2 d x X y) (hB : B ≤ w.heap.size) : Two B ((w.setCell ⟨b2, 1, none⟩ (.bool false)).setCell ⟨b2, 2, none⟩ (.int .i64 (-1))) b g s b2 s2 d x { X with off := false, fuse := -1 } y ∧ Below B w ((w.setCell ⟨b2, 1, none⟩ (.bool false)).setCell ⟨b2, 2, none⟩ (.int .i64 (-1))) ∧ Kp w ((w.setCell ⟨b2, 1, none⟩ (.bool false)).setCell ⟨b2, 2, none⟩ (.int .i64 (-1))) := by
  obtain ⟨K, kc, A, c, R, A2, c2, R2, KA, kc2, A3, c3, R3, h1, h2, h3, h4, h5, h6, h7⟩ := h
  have hv1 : RvA B (w.setCell ⟨b2, 1, none⟩ (.bool false)) b2 A2 c2 R2 KA kc2 { X with off := false } := h3.set 1 _ rfl rfl (by simp [Rv.cells])
  have hv2 : RvA B ((w.setCell ⟨b2, 1, none⟩ (.bool false)).setCell ⟨b2, 2, none⟩ (.int .i64 (-1))) b2 A2 c2 R2 KA kc2 { X with off := false, fuse := -1 } := hv1.set 2 _ rfl rfl (by simp [Rv.cells])
  have hc : ChgL [b2] w ((w.setCell ⟨b2, 1, none⟩ (.bool false)).setCell ⟨b2, 2, none⟩ (.int .i64 (-1))) := (ChgL.set (l := [b2]) 1 _ (by simp)).trans (ChgL.set (l := [b2]) 2 _ (by simp)) (fun z hz => .inl hz)
  have hcD : ChgL (blkD b2 A2 X.C.length c2 s2 (y.row A3 c3)) w ((w.setCell ⟨b2, 1, none⟩ (.bool false)).setCell ⟨b2, 2, none⟩ (.int .i64 (-1))) := hc.mono (fun z hz => by rw [List.mem_singleton] at hz; rw [hz]; exact List.mem_append.2 (.inl (List.mem_cons_self ..)))
  have hs9 := h4.far hc (fun hm => by rw [List.mem_singleton] at hm; have e := h4.blk; rw [hm, h3.blk] at e; injection e with e; injection e with _ e; exact absurd e (by decide)) (fun z hz he => by rw [List.mem_singleton] at hz; rw [hz] at he; exact h3.off h4.own (by decide) he)
  exact two_doc h1 h2 h3 h4 h6 hB hcD hv2 hs9 rfl (fun z hz => .inl hz) h7 (fun r hr => (h5 r hr).chg (hcD.mono (fun z hz => List.mem_append.2 (.inr hz))) (fun z hz => .inl hz))
end
end
end Go.Proofs.Ytiggcpfmmgmncaa
