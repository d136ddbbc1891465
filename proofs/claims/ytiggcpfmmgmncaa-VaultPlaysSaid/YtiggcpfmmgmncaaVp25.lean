import Derived.Test.YtiggcpfmmgmncaaVp24
import Derived.Deep.AppendSrc
import Derived.Deep.Upon
import Derived.Test.YtiggcpfmmgmncaaVp01
import Derived.Test.YtiggcpfmmgmncaaVp07
set_option maxHeartbeats 16000000
set_option maxRecDepth 100000
set_option linter.unusedVariables false
set_option linter.unusedSimpArgs false
namespace Go.Proofs.Ytiggcpfmmgmncaa
open Go.ChangeShapes Go.WideShapes Go.ChangeAt Go.RowKit
section
theorem few8_any (A : Option Addr) (n cap : Nat) (w : World) (hn : n ≤ 9223372036854775807) (hcap : n ≤ cap) (hcap2 : cap ≤ 9223372036854775807) :
    Calls Try.prog 21 #[.slice A n cap] w fun e w' => e = .returned (.slice A (min n 20) cap) ∧ Below w.heap.size w w' := by
  by_cases h : 20 < n
  · have e : min n 20 = 20 := by omega
    rw [e]
    clear e
    go_enter Try.func21, Try.ntmps21
    go_wp2
    go_ret
    exact ⟨rfl, Below.refl _ _⟩
  · have e : min n 20 = n := by omega
    rw [e]
    clear e
    go_enter Try.func21, Try.ntmps21
    go_wp2
    go_ret
    exact ⟨rfl, Below.refl _ _⟩
structure Do9 where
  kind : Int
  n : Int
  p : Int
  each : Int
  life : Int
  era : Int
  BA : Option Addr
  bc : Nat
  B : List Nat
  KA : Option Addr
  kc : Nat
  K : List Nt
def Do9.cells (x : Do9) : List Value := [.int .i64 x.kind, .int .i64 x.n, .int .i64 x.p, .int .i64 x.each, .int .i64 x.life, .int .i64 x.era, .slice x.BA x.B.length x.bc, .slice x.KA x.K.length x.kc]
theorem Do9.len (x : Do9) : x.cells.length = 8 := rfl
structure Do9.Ok (w : World) (x : Do9) : Prop where
  blc : x.B.length ≤ x.bc
  bcm : x.bc ≤ maxLen
  bs : Sl w x.BA (by8 x.B)
  bo : Oct x.B
  klc : x.K.length ≤ x.kc
  kcm : x.kc ≤ maxLen
  ks : Sl w x.KA (rc Nt.cells x.K)
theorem rd_nts {w : World} {A : Option Addr} {n c : Nat} (h : Rd w (.sl (.int .i64)) [.slice A n c]) : ∃ l : List Nt, l.length = n ∧ n ≤ c ∧ c ≤ maxLen ∧ Sl w A (rc Nt.cells l) := by
  obtain ⟨l, h1, h2, h3, h4, _⟩ := rd_rowsP (f := Nt.cells) (p := fun _ => True) (fun r => rd_nt') h
  exact ⟨l, h1, h2, h3, h4⟩
theorem Sl.lt {w : World} {A : Option Addr} {xs : List Value} (h : Sl w A xs) : ∀ k o, A = some ⟨k, o, none⟩ → xs ≠ [] → k < w.heap.size := fun k o hA hne => by
  obtain ⟨b1, o1, e1, hc⟩ := h hne
  rw [hA] at e1
  injection e1 with e1
  injection e1 with e1 _
  subst e1
  cases hx : xs with
  | nil => exact absurd hx hne
  | cons u us => exact World.block_lt_of_cell? _ _ (hc 0 u (by rw [hx]; rfl))
end
section
structure K8 (d : Dv) (x : Sc) (life : Nat) (was maybe : List (List Nat)) : Prop where
  len : d.S.length = 30
  f : x.f = 2
  t : x.t = 30
  lf : x.life = (life : Int)
  er : x.era = 7
  on : d.on = true → x.dead = false ∧ x.L = was ∧ ∃ ml, J8 d.S 2 30 7 (life : Int) was (2 + x.used) ml ∧ Low8 d.S (life : Int) (2 + x.used)
  all : ∃ X q ml, (X = was ∨ X = maybe) ∧ J8 d.S 2 30 7 (life : Int) X q ml
theorem K8.new : K8 (Dv.new 30) ⟨2, 30, 1, 7, [], 0, false⟩ 1 [] [] := by
  have hj : J8 (Dv.new 30).S 2 30 7 ((1 : Nat) : Int) [] 2 0 := j8_new (by decide) (by decide) (by decide)
  exact ⟨by simp [Dv.new], rfl, rfl, rfl, rfl, fun _ => ⟨rfl, rfl, 0, hj, fun i f _ h => (by rw [frD_new] at h; cases h)⟩, [], 2, 0, .inl rfl, hj⟩
theorem K8.app {d : Dv} {x : Sc} {life : Nat} {was maybe : List (List Nat)} (h : K8 d x life was maybe) (hon : d.on = true) {b : List Nat} (hb : b.length ≤ 250) (hl1 : 1 ≤ life) (hl2 : life ≤ 1000) (hw : was.length ≤ 1000) :
    x.app d b = ((x, d), 10) ∨ (∃ x' d', x.app d b = ((x', d'), 9) ∧ d'.on = false ∧ x'.L = x.L ∧ K8 d' x' life was (was ++ [b])) ∨ (∃ x' d', x.app d b = ((x', d'), 0) ∧ d'.on = true ∧ K8 d' x' life (was ++ [b]) (was ++ [b])) := by
  obtain ⟨hdead, hL, ml, hJ, hlow⟩ := h.on hon
  have hbd := hJ.bd
  have hlen := h.len
  have hp : partsN b.length ≤ 4 := by unfold partsN; omega
  have hp0 := partsN_pos b.length
  have hok : (piece x.life x.era ((x.L.length + 1 : Nat) : Int) b (partsN b.length) 0).ok = true := by
    rw [Fr.ok_iff, h.lf, h.er, hL]
    have := seg_le b (80 * 0) 80
    refine ⟨?_, ?_, ?_, ?_, ?_, ?_, ?_, ?_, ?_, ?_, this⟩ <;> simp only [piece] <;> omega
  have hc : cutF x.life x.era ((x.L.length + 1 : Nat) : Int) b = (cellsF x.life x.era ((x.L.length + 1 : Nat) : Int) b (partsN b.length) (partsN b.length), 0) := by
    unfold cutF
    rw [if_neg (by omega), if_pos hok]
  have hcz : (cutF x.life x.era ((x.L.length + 1 : Nat) : Int) b).2 = 0 := by rw [hc]
  have e0 : ¬ (x.dead = true ∨ d.on = false) := by rw [hdead, hon]; decide
  have hcn : ¬ (cutF x.life x.era ((x.L.length + 1 : Nat) : Int) b).2 ≠ 0 := fun h => h hcz
  by_cases hroom : (x.t : Int) - (x.f : Int) - (x.used : Int) < (((cutF x.life x.era ((x.L.length + 1 : Nat) : Int) b).1.length : Nat) : Int)
  · left
    unfold Sc.app
    rw [if_neg e0, if_neg hcn, if_pos hroom]
  · right
    have ht := h.t
    have hf := h.f
    obtain ⟨n, hn, hn5, hok2, hcl, htorn, hwhole⟩ := write_torn8 (P := x.f + x.used) hon hcz (by omega)
    have hroom2 : 2 + x.used + n ≤ 30 := by omega
    have hP : x.f + x.used = 2 + x.used := by rw [hf]
    have hdw := Dv.write_fit hon (cut_fits (m := d.S.length) (p := x.f + x.used) hcz (by omega)) (cut_pos hcz)
    obtain ⟨D, hD⟩ : ∃ D, (d.write ((x.f + x.used : Nat) : Int) (cutF x.life x.era ((x.L.length + 1 : Nat) : Int) b).1).1 = D := ⟨_, rfl⟩
    have hDl : D.S.length = 30 := by rw [← hD]; exact htorn.1.trans hlen
    rw [hD, hP, h.lf, h.er, hL] at htorn
    rw [hD, hP, h.lf, h.er, hL] at hwhole
    rw [h.lf, h.er, hL] at hok2
    cases htr : d.torn with
    | true =>
      left
      refine ⟨{ x with dead := true }, D, ?_, ?_, rfl, ?_⟩
      · unfold Sc.app
        rw [if_neg e0, if_neg hcn, if_neg hroom, if_pos htr, hD]
      · rw [← hD, hdw]
        unfold Dv.torn at htr
        rw [Bool.and_eq_true, decide_eq_true_eq] at htr
        show d.burnt.on = false
        unfold Dv.burnt
        rw [if_pos htr.1, if_neg (by omega)]
      · have hoff : D.on = false := by
          rw [← hD, hdw]
          unfold Dv.torn at htr
          rw [Bool.and_eq_true, decide_eq_true_eq] at htr
          show d.burnt.on = false
          unfold Dv.burnt
          rw [if_pos htr.1, if_neg (by omega)]
        refine ⟨hDl, h.f, h.t, h.lf, h.er, fun ho => (by rw [hoff] at ho; cases ho), ?_⟩
        rcases hJ.step hlow hn hn5 hok2 hroom2 htorn with h1 | h1
        · exact ⟨_, _, _, .inr rfl, h1⟩
        · exact ⟨_, _, _, .inl rfl, h1⟩
    | false =>
      right
      refine ⟨x.add b n, D, ?_, ?_, ?_⟩
      · unfold Sc.app
        rw [if_neg e0, if_neg hcn, if_neg hroom, if_neg (by rw [htr]; decide), hD, hcl]
      · rw [← hD, hdw]
        show d.burnt.on = true
        unfold Dv.torn at htr
        unfold Dv.burnt
        split
        · rename_i h1
          rw [h1, Bool.true_and, decide_eq_false_iff_not] at htr
          rw [if_pos (by omega)]; exact hon
        · exact hon
      · obtain ⟨j1, j2⟩ := hJ.whole hlow hn hn5 hok2 hroom2 htorn (hwhole htr)
        have hu : 2 + (x.add b n).used = 2 + x.used + n := by show 2 + (x.used + n) = _; omega
        exact ⟨hDl, h.f, h.t, h.lf, h.er, fun _ => ⟨hdead, by show x.L ++ [b] = _; rw [hL], _, by rw [hu]; exact j1, by rw [hu]; exact j2⟩, _, _, _, .inl rfl, j1⟩
theorem K8.off {d : Dv} {x : Sc} {b : List Nat} (hon : d.on = false) : x.app d b = ((x, d), 9) := by
  unfold Sc.app; rw [if_pos (Or.inr hon)]
theorem K8.fuse {d : Dv} {x : Sc} {life : Nat} {was maybe : List (List Nat)} (h : K8 d x life was maybe) (n : Int) (l : List Nt) : K8 (d.fuse n l).1 x life was maybe := by
  unfold Dv.fuse
  split
  · split <;> exact ⟨h.len, h.f, h.t, h.lf, h.er, fun _ => h.on (by assumption), h.all⟩
  · exact h
theorem K8.open {d : Dv} {x : Sc} {life : Nat} {was maybe : List (List Nat)} (h : K8 d x life was maybe) {l1 : Nat} (hl : life + 1 = l1) : ∃ X q, (X = was ∨ X = maybe) ∧ scan d.S 30 7 2 0 0 = (X, q) ∧ newestN d.S 2 (30 - 2) < (l1 : Int) ∧ K8 d.fresh ⟨2, 30, (l1 : Int), 7, X, q - 2, false⟩ l1 X X := by
  obtain ⟨X, q, ml, hX, hJ⟩ := h.all
  have hn := newest_le hJ.pos hJ.all 2 (30 - 2)
  obtain ⟨j1, j2⟩ := hJ.next (life2 := (l1 : Int)) (by omega)
  have hbd := hJ.bd
  have hq : 2 + (q - 2) = q := by omega
  exact ⟨X, q, hX, hJ.scan, by omega, h.len, rfl, rfl, rfl, rfl, fun _ => ⟨rfl, rfl, ml, by show J8 d.S 2 30 7 _ X (2 + (q - 2)) ml; rw [hq]; exact j1, by show Low8 d.S _ (2 + (q - 2)); rw [hq]; exact j2⟩, X, q, ml, .inl rfl, j1⟩
def RowsX (l : List Nat) (w : World) (A : Option Addr) (R : List (RowS Nat)) : Prop := SlX l w A (rc RowS.cells R) ∧ ∀ r ∈ R, SlX l w r.A (by8 r.l)
section
variable {l m : List Nat} {w w1 : World} {A : Option Addr} {R : List (RowS Nat)}
theorem RowsX.nil : RowsX l w none [] := ⟨SlX.nil, fun r hr => by cases hr⟩
theorem RowsX.chg (h : RowsX l w A R) (hc : ChgL l w w1) (hm : ∀ x ∈ m, x ∈ l ∨ w.heap.size ≤ x) : RowsX m w1 A R := ⟨h.1.chg hc hm, fun r hr => (h.2 r hr).chg hc hm⟩
theorem RowsX.below (h : RowsX l w A R) (hb : Below w.heap.size w w1) : RowsX l w1 A R := ⟨h.1.below hb, fun r hr => (h.2 r hr).below hb⟩
theorem RowsX.own {B B2 c : Nat} (ho : w.ownsRow B 36 1 (.slice A R.length c) R.length (rc RowS.cells R)) (hr : OwnR B2 w R) (hl : ∀ x ∈ l, x < B ∧ x < B2) : RowsX l w A R :=
  ⟨SlX.own ho (fun x hx => (hl x hx).1), fun r h => SlX.own (hr r h) (fun x hx => (hl x hx).2)⟩
theorem RowsX.snoc {B c : Nat} {r : RowS Nat} {A2 : Option Addr} (h : RowsX l w A R) (hr : SlX l w r.A (by8 r.l)) (hb : Below w.heap.size w w1) (ho : w1.ownsRow B 36 1 (.slice A2 (R ++ [r]).length c) (R ++ [r]).length (rc RowS.cells (R ++ [r]))) (hl : ∀ x ∈ l, x < B) : RowsX l w1 A2 (R ++ [r]) :=
  ⟨SlX.own ho hl, fun s hs => by
    rcases List.mem_append.1 hs with h1 | h1
    · exact (h.2 s h1).below hb
    · rw [List.mem_singleton] at h1
      subst h1
      exact hr.below hb⟩
end
def blk8 (b g s : Nat) (v : Value) : List Nat := b :: g :: s :: v.ownBlock.toList
theorem blk8_ge {B b g kc s b2 c : Nat} {K A : Option Addr} {d : Dv} {R : List (RowS Nat)} {x : Sc} {w : World} (hd : DrA B w b g K kc d) (hs : ScA B w s b2 A c R x) : ∀ y ∈ blk8 b g s (x.row A c), B ≤ y := fun y hy => by
  unfold blk8 at hy
  rcases List.mem_cons.1 hy with e | hy
  · subst e; exact hd.ge.1
  rcases List.mem_cons.1 hy with e | hy
  · subst e; exact hd.ge.2
  rcases List.mem_cons.1 hy with e | hy
  · subst e; exact hs.ge
  have e2 : (x.row A c).ownBlock = some y := Option.mem_def.1 (Option.mem_toList.1 hy)
  exact own_ge hs.own y e2
theorem blk8_grow {b g s : Nat} {v v' : Value} {w : World} (h : v'.ownBlock = v.ownBlock ∨ ∃ k, w.heap.size ≤ k ∧ v'.ownBlock = some k) : ∀ y ∈ blk8 b g s v', y ∈ blk8 b g s v ∨ w.heap.size ≤ y := fun y hy => by
  unfold blk8 at *
  rcases h with h | ⟨k, h1, h2⟩
  · rw [h] at hy; exact .inl hy
  · rw [h2] at hy
    simp only [List.mem_cons, Option.toList_some, List.not_mem_nil, or_false] at hy ⊢
    rcases hy with rfl | rfl | rfl | rfl
    · exact .inl (.inl rfl)
    · exact .inl (.inr (.inl rfl))
    · exact .inl (.inr (.inr (.inl rfl)))
    · exact .inr h1
theorem blk8_new {b g s s2 : Nat} {v v' : Value} {w : World} (hs : w.heap.size ≤ s2) (hv : ∀ k, v'.ownBlock = some k → w.heap.size ≤ k) : ∀ y ∈ blk8 b g s2 v', y ∈ blk8 b g s v ∨ w.heap.size ≤ y := fun y hy => by
  unfold blk8 at *
  rcases List.mem_cons.1 hy with e | hy
  · exact .inl (by rw [e]; simp)
  rcases List.mem_cons.1 hy with e | hy
  · exact .inl (by rw [e]; simp)
  rcases List.mem_cons.1 hy with e | hy
  · exact .inr (by rw [e]; exact hs)
  exact .inr (hv y (Option.mem_def.1 (Option.mem_toList.1 hy)))
theorem chg2_blk8 {b g s : Nat} {v : Value} {w w' : World} (h : Chg2 b g w w') : ChgL (blk8 b g s v) w w' := ChgL.of2 h (by simp [blk8]) (by simp [blk8])
structure Do8 where
  kind : Int
  n : Int
  BA : Option Addr
  bc : Nat
  B : List Nat
  KA : Option Addr
  kc : Nat
  K : List Nt
def Do8.cells (x : Do8) : List Value := [.int .i64 x.kind, .int .i64 x.n, .slice x.BA x.B.length x.bc, .slice x.KA x.K.length x.kc]
theorem Do8.len (x : Do8) : x.cells.length = 4 := rfl
structure Do8.Ok (w : World) (x : Do8) : Prop where
  nb : -9223372036854775808 ≤ x.n ∧ x.n ≤ 9223372036854775807
  blc : x.B.length ≤ x.bc
  bcm : x.bc ≤ maxLen
  bs : Sl w x.BA (by8 x.B)
  bo : Oct x.B
  klc : x.K.length ≤ x.kc
  kcm : x.kc ≤ maxLen
  ks : Sl w x.KA (rc Nt.cells x.K)
theorem rd_do8 {w : World} {r : List Value} (h : Rd w (.cat (.int .i64) (.cat (.int .i64) (.cat (.sl (.int .u8)) (.cat (.sl (.int .i64)) .nil)))) r) : ∃ x : Do8, r = x.cells ∧ x.Ok w := by
  obtain ⟨r1, r2, e, ⟨x1, h1, _⟩, h⟩ := h
  subst e; subst h1
  obtain ⟨r1, r2, e, ⟨x2, h1, hx2⟩, h⟩ := h
  subst e; subst h1
  obtain ⟨r1, r2, e, hb, h⟩ := h
  subst e
  obtain ⟨r3, r4, e, hk, h⟩ := h
  subst e
  obtain ⟨A, n, c, e⟩ : ∃ A n c, r1 = [.slice A n c] := by
    obtain ⟨A, n, c, rows, e, _⟩ := hb
    exact ⟨A, n, c, e⟩
  subst e
  obtain ⟨A2, n2, c2, e⟩ : ∃ A n c, r3 = [.slice A n c] := by
    obtain ⟨A, n, c, rows, e, _⟩ := hk
    exact ⟨A, n, c, e⟩
  subst e
  obtain ⟨B, rfl, b1, b2, b3, b4⟩ := rd_octs hb
  obtain ⟨K, rfl, k1, k2, k3⟩ := rd_nts hk
  have h0 : r4 = [] := h
  subst h0
  exact ⟨⟨x1, x2, A, c, B, A2, c2, K⟩, rfl, bd_i64 hx2, b1, b2, b3, b4, k1, k2, k3⟩
end
section
section
variable {P : Program} {w : World}
theorem run_app3 {t ty e : TypeId} {size bytes : Nat} (E : Elem P t e size bytes) {base n m c d : Nat} {A B : Option Addr} {xs news : List Value}
    (hown : w.ownsRow base e size (.slice A n c) n xs) (hl : news.length = m * size) (hr : Sl w B news) (h1 : ∀ u ∈ news, u.oneCell' = true)
    (h63 : n + m ≤ maxLen) (hb : (n + m) * bytes ≤ 140737488355328) (hbase : base ≤ w.heap.size) :
    ∃ A' c' w', (Builtin.append_ #[t, t] ty #[.slice A n c, .slice B m d]).run P w = .ok (.slice A' (n + m) c') w' ∧ w'.ownsRow base e size (.slice A' (n + m) c') (n + m) (xs ++ news) ∧
      w.grownBy w' (Value.slice A n c).ownBlock ∧ ((Value.slice A' (n + m) c').ownBlock = (Value.slice A n c).ownBlock ∨ (Value.slice A' (n + m) c').ownBlock = some w.heap.size) ∧ Below base w w' := by
  by_cases hm : 0 < m
  · exact run_app2 E hown hl hm hr h1 h63 hb hbase
  · obtain rfl : m = 0 := by omega
    obtain ⟨i, z, hi, hz, hsize, hby, hzs⟩ := E.info
    have hn : news = [] := List.eq_nil_of_length_eq_zero (by omega)
    subst hn
    have hsrc : Src P i.size t (.slice B 0 d) 0 [] w := by
      cases B with
      | none => exact Src.ofNil w E.und d
      | some a => exact Src.ofSlice w E.und a 0 d [] (by simp) (fun j u hu => by simp at hu) (fun u hu => by cases hu)
    refine ⟨A, c, w, run_append_nothing w t t ty e i E.und hi A n c (own_le hown) _ hsrc, by simpa using hown, ⟨rfl, rfl, rfl, Nat.le_refl _, fun _ _ _ => rfl⟩, .inl rfl, Below.refl _ _⟩
theorem wpList_app3 {ops : Array Oper} {rest : List Oper} {o : Oper} {a : Act} {Q : Exit → Act → World → Prop} (hgd : o.guard = none) (s x : Operand) {t e : TypeId} {size bytes : Nat}
    (ho : o.op = .call { callee := .builtin .append, args := #[s, x], argTypes := #[t, t] }) (E : Elem P t e size bytes) {base n m c d : Nat} {A B : Option Addr} {xs news : List Value}
    (hs : a.eval s = .slice A n c) (hx : a.eval x = .slice B m d)
    (hown : w.ownsRow base e size (.slice A n c) n xs) (hl : news.length = m * size) (hr : Sl w B news) (h1 : ∀ u ∈ news, u.oneCell' = true)
    (h63 : n + m ≤ maxLen) (hb : (n + m) * bytes ≤ 140737488355328) (hbase : base ≤ w.heap.size)
    (h : ∀ A' c' w', w'.ownsRow base e size (.slice A' (n + m) c') (n + m) (xs ++ news) → w.grownBy w' (Value.slice A n c).ownBlock → ((Value.slice A' (n + m) c').ownBlock = (Value.slice A n c).ownBlock ∨ (Value.slice A' (n + m) c').ownBlock = some w.heap.size) → Below base w w' → wpList P ops Q rest (a.put o.dst (.slice A' (n + m) c')) w') :
    wpList P ops Q (o :: rest) a w :=
  wpList_plain hgd fun _ hK => by
    obtain ⟨A', c', w', hrun, h2, h3, h5, h4⟩ := run_app3 (P := P) (w := w) (ty := o.type) E (d := d) hown hl hr h1 h63 hb hbase
    unfold Oper.wp execOp
    simp only [ho, resolve, invoke, builtin, Sem.run_bind, Sem.run_pure, Result.andThen_ok, List.map_toArray, List.map_cons, List.map_nil, hs, hx, hrun]
    exact hK _ _ (h A' c' w' h2 h3 h5 h4)
end
end
end Go.Proofs.Ytiggcpfmmgmncaa
