import Derived.Test.YtiggcpfmmgmncaaVp25
import Derived.Test.YtiggcpfmmgmncaaVp34
set_option maxHeartbeats 16000000
set_option maxRecDepth 100000
set_option linter.unusedVariables false
set_option linter.unusedSimpArgs false
namespace Go.Proofs.Ytiggcpfmmgmncaa
open Go.ChangeShapes Go.WideShapes Go.ChangeAt Go.RowKit
section
theorem torn_low {S T : List (List Nat)} {P n : Nat} {life era seq M : Int} {b : List Nat} (hall : ∀ (i : Int) (f : Fr), frD S i = some f → f.life ≤ M) (hM : life ≤ M) (hb : n ≤ 255) (hok : (piece life era seq b n 0).ok = true) (ht : Torn8 S T P n life era seq b) :
    ∀ (i : Int) (f : Fr), frD T i = some f → f.life ≤ M := fun i f hf => by
  obtain ⟨h0, h1, h2, _⟩ := frD_some hf
  obtain ⟨k, rfl⟩ : ∃ k : Nat, i = (k : Int) := ⟨i.toNat, by omega⟩
  rcases ht.2 k with e | ⟨e1, e2, e3⟩
  · rw [frD_eq ht.1 (by simpa using e)] at hf
    exact hall _ _ hf
  · have hk : k < T.length := by omega
    rw [List.getElem?_eq_getElem hk] at e3
    rw [frD_at hk, Option.some.inj e3, frB_enc ((piece_ok (by omega) (by omega)).trans hok)] at hf
    have := Option.some.inj hf
    rw [← this]
    exact hM
theorem scanF_lens {S : List (List Nat)} {t : Nat} {era : Int} : ∀ (k q n : Nat) (life : Int), ∀ b ∈ (scanF S t era k q n life).1, b.length ≤ 20400
  | 0, _, _, _ => fun b hb => by cases hb
  | k + 1, q, n, life => by
    rw [scanF]
    cases hr : readF S q t with
    | none => intro b hb; cases hb
    | some x =>
      obtain ⟨c, f⟩ := x
      simp only
      split
      · intro b hb
        rcases List.mem_cons.1 hb with e | hb
        · rw [e]; exact readF_len hr
        · exact scanF_lens k _ _ _ b hb
      · intro b hb; cases hb
theorem scan_lens {S : List (List Nat)} {t : Nat} {era : Int} {q n : Nat} {life : Int} : ∀ b ∈ (scan S t era q n life).1, b.length ≤ 20400 := scanF_lens (t - q) q n life
structure SP (d : Dv) (x : Sc) (X : Rv) (M : Int) (k : Nat) : Prop where
  rel : Rel d X
  len : d.S.length = 14
  t : x.t = 14
  life : 1 ≤ x.life ∧ x.life ≤ M
  all : ∀ (i : Int) (f : Fr), frD d.S i = some f → f.life ≤ M
  n : x.L.length ≤ 14 + k
  lens : ∀ b ∈ x.L, b.length ≤ 20400
section
variable {d : Dv} {x : Sc} {X : Rv} {M : Int} {k : Nat}
theorem SP.C (h : SP d x X M k) : X.C = d.S := h.rel.C
theorem SP.mono (h : SP d x X M k) {M2 : Int} (hM : M ≤ M2) : SP d x X M2 (k + 1) := ⟨h.rel, h.len, h.t, ⟨h.life.1, by have := h.life.2; omega⟩, fun i f hf => by have := h.all i f hf; omega, by have := h.n; omega, h.lens⟩
theorem SP.fuse (h : SP d x X M k) (n : Int) (l : List Nt) (hn : n ≤ 9223372036854775807) : (d.fuse n l).2 = (X.fused n l).2 ∧ SP (d.fuse n l).1 x (X.fused n l).1 M k := by
  obtain ⟨h1, h2⟩ := h.rel.fuse n l hn
  have hS : (d.fuse n l).1.S = d.S := by
    unfold Dv.fuse
    split
    · split <;> rfl
    · rfl
  exact ⟨h1, h2, by rw [hS]; exact h.len, h.t, h.life, fun i f hf => h.all i f (by rw [hS] at hf; exact hf), h.n, h.lens⟩
theorem SP.start (h : SP d x X M k) : SP d.fresh x { X with off := false, fuse := -1 } M k := ⟨h.rel.start, h.len, h.t, h.life, h.all, h.n, h.lens⟩
theorem SP.newest (h : SP d x X M k) (f m : Nat) : newestN d.S f m ≤ M := newest_le (by have := h.life; omega) h.all f m
theorem SP.open (h : SP d x X M k) {f : Nat} (hf : f ≤ 14) {life era M2 : Int} (h1 : 1 ≤ life) (h2 : life ≤ M2) (hM : M ≤ M2) : SP d ⟨f, 14, life, era, (scan d.S 14 era f 0 0).1, (scan d.S 14 era f 0 0).2 - f, false⟩ X M2 (k + 1) := by
  have hb := scan_bd (S := d.S) (t := 14) (era := era) (q := f) (n := 0) (life := 0)
  exact ⟨h.rel, h.len, rfl, ⟨h1, h2⟩, fun i g hg => by have := h.all i g hg; omega, (by show (scan d.S 14 era f 0 0).1.length ≤ _; omega), scan_lens⟩
theorem SP.app (h : SP d x X M k) {l : List Nat} (hl : l.length ≤ 250) : (x.rapp X l).2 = (x.app d l).2 ∧ (x.rapp X l).1.1 = (x.app d l).1.1 ∧ SP (x.app d l).1.2 (x.app d l).1.1 (x.rapp X l).1.2 M (k + 1) := by
  obtain ⟨r1, r2, r3⟩ := h.rel.app (y := x) (l := l) (by rw [h.t, h.len]; decide)
  refine ⟨r1, r2, ?_⟩
  have hsame : SP d x X M (k + 1) := h.mono (Int.le_refl _)
  by_cases hd : x.dead = true ∨ d.on = false
  · have e : x.app d l = ((x, d), 9) := by unfold Sc.app; rw [if_pos hd]
    rw [e] at r3 ⊢
    exact ⟨r3, hsame.len, hsame.t, hsame.life, hsame.all, hsame.n, hsame.lens⟩
  · by_cases hcz : (cutF x.life x.era ((x.L.length + 1 : Nat) : Int) l).2 ≠ 0
    · have e : x.app d l = ((x, d), (cutF x.life x.era ((x.L.length + 1 : Nat) : Int) l).2) := by unfold Sc.app; rw [if_neg hd, if_pos hcz]
      rw [e] at r3 ⊢
      exact ⟨r3, hsame.len, hsame.t, hsame.life, hsame.all, hsame.n, hsame.lens⟩
    · have hcz0 : (cutF x.life x.era ((x.L.length + 1 : Nat) : Int) l).2 = 0 := Classical.not_not.1 hcz
      by_cases hroom : (x.t : Int) - (x.f : Int) - (x.used : Int) < (((cutF x.life x.era ((x.L.length + 1 : Nat) : Int) l).1.length : Nat) : Int)
      · have e : x.app d l = ((x, d), 10) := by unfold Sc.app; rw [if_neg hd, if_neg hcz, if_pos hroom]
        rw [e] at r3 ⊢
        exact ⟨r3, hsame.len, hsame.t, hsame.life, hsame.all, hsame.n, hsame.lens⟩
      · have hon : d.on = true := by cases hh : d.on <;> simp_all
        have hfit : (x.f + x.used) + (cutF x.life x.era ((x.L.length + 1 : Nat) : Int) l).1.length ≤ d.S.length := by have := h.t; have := h.len; omega
        obtain ⟨n, hn, hb, hok, hlen, ht, _⟩ := write_torn8 hon hcz0 hfit
        have hall := torn_low h.all h.life.2 hb hok ht
        have hSl : (d.write ((x.f + x.used : Nat) : Int) (cutF x.life x.era ((x.L.length + 1 : Nat) : Int) l).1).1.S.length = 14 := by rw [ht.1]; exact h.len
        have hlens : ∀ b ∈ x.L ++ [l], b.length ≤ 20400 := fun b hb => by
          rcases List.mem_append.1 hb with hb | hb
          · exact h.lens b hb
          · rw [List.mem_singleton] at hb; rw [hb]; omega
        cases htr : d.torn with
        | true =>
          have e : x.app d l = (({ x with dead := true }, (d.write ((x.f + x.used : Nat) : Int) (cutF x.life x.era ((x.L.length + 1 : Nat) : Int) l).1).1), 9) := by unfold Sc.app; rw [if_neg hd, if_neg hcz, if_neg hroom, if_pos htr]
          rw [e] at r3 ⊢
          exact ⟨r3, hSl, h.t, h.life, hall, hsame.n, h.lens⟩
        | false =>
          have e : x.app d l = ((x.add l (cutF x.life x.era ((x.L.length + 1 : Nat) : Int) l).1.length, (d.write ((x.f + x.used : Nat) : Int) (cutF x.life x.era ((x.L.length + 1 : Nat) : Int) l).1).1), 0) := by unfold Sc.app; rw [if_neg hd, if_neg hcz, if_neg hroom, if_neg (by rw [htr]; decide)]
          rw [e] at r3 ⊢
          exact ⟨r3, hSl, h.t, h.life, hall, (by show (x.L ++ [l]).length ≤ _; rw [List.length_append, List.length_singleton]; have := h.n; omega), hlens⟩
end
theorem SP.new {f : Nat} (hf : f ≤ 14) {era : Int} : SP (Dv.new 14) ⟨f, 14, 1, era, (scan (Dv.new 14).S 14 era f 0 0).1, (scan (Dv.new 14).S 14 era f 0 0).2 - f, false⟩ (Rv.new 14) 1 0 := by
  have hb := scan_bd (S := (Dv.new 14).S) (t := 14) (era := era) (q := f) (n := 0) (life := 0)
  exact ⟨Rel.new 14, by simp [Dv.new], rfl, ⟨Int.le_refl _, Int.le_refl _⟩, (fun i g hg => by rw [frD_new] at hg; cases hg), (by show (scan (Dv.new 14).S 14 era f 0 0).1.length ≤ _; omega), scan_lens⟩
section
variable {B b g s b2 s2 : Nat} {w w' : World} {d : Dv} {x y : Sc} {X : Rv}
end
def Two0 (B : Nat) (w : World) (b g b2 : Nat) (d : Dv) (X : Rv) : Prop :=
  ∃ (K : Option Addr) (kc : Nat) (A2 : Option Addr) (c2 : Nat) (R2 : List (RowS Nat)) (KA : Option Addr) (kc2 : Nat), DrA B w b g K kc d ∧ RvA B w b2 A2 c2 R2 KA kc2 X ∧ (∀ z ∈ [b, g], z ∉ blkR b2 A2 X.C.length c2)
def Two1 (B : Nat) (w : World) (b g s b2 : Nat) (d : Dv) (x : Sc) (X : Rv) : Prop :=
  ∃ (K : Option Addr) (kc : Nat) (A : Option Addr) (c : Nat) (R : List (RowS Nat)) (A2 : Option Addr) (c2 : Nat) (R2 : List (RowS Nat)) (KA : Option Addr) (kc2 : Nat), DrA B w b g K kc d ∧ ScA B w s b A c R x ∧ RvA B w b2 A2 c2 R2 KA kc2 X ∧ (∀ z ∈ blk8 b g s (x.row A c), z ∉ blkR b2 A2 X.C.length c2)
section
variable {B b g s b2 s2 : Nat} {w w' : World} {d : Dv} {x y : Sc} {X : Rv}
theorem Two0.mk1 {K : Option Addr} {kc : Nat} {W : World} {A2 : Option Addr} {c2 : Nat} {R2 : List (RowS Nat)} {KA : Option Addr} {kc2 : Nat} (h1 : DrA B w b g K kc d) (hB : B ≤ w.heap.size) (h2 : RvA w.heap.size W b2 A2 c2 R2 KA kc2 X) (hb : Below w.heap.size w W) : Two0 B W b g b2 d X :=
  ⟨K, kc, A2, c2, R2, KA, kc2, h1.below hb, ⟨h2.blk, own_base h2.own hB, fun r hr => own_base (h2.rows r hr) hB, own_base h2.kp hB, h2.map, Nat.le_trans hB h2.ge, h2.s96, h2.oct, h2.small⟩, fun z hz hq => by
    have h9 := blkR_ge h2 z hq
    have hlt := h1.lt
    simp only [List.mem_cons, List.not_mem_nil, or_false] at hz
    rcases hz with e | e <;> (rw [e] at h9; omega)⟩
theorem Two0.popen {f t : Nat} {life era : Int} (h : Two0 B w b g b2 d X) (hB : B ≤ w.heap.size) (hft : f ≤ t) (ht : t ≤ d.S.length) (hl1 : 1 ≤ life) (hl2 : life ≤ 16777215) (he1 : 0 ≤ era) (he2 : era ≤ 16777215) (hnew : newestN d.S f (t - f) < life) :
    Calls Try.prog 15 #[.pointer (some ⟨b, 0, none⟩), .int .i64 f, .int .i64 t, .int .i64 life, .int .i64 era] w fun e w' => ∃ s', e = .returned (.tuple #[.pointer (some ⟨s', 0, none⟩), .int .i64 0]) ∧ Two1 B w' b g s' b2 d ⟨f, t, life, era, (scan d.S t era f 0 0).1, (scan d.S t era f 0 0).2 - f, false⟩ X ∧ Below w.heap.size w w' := by
  obtain ⟨K, kc, A2, c2, R2, KA, kc2, h1, h3, h6⟩ := h
  refine (sopen_new f t life era w h1 hB hft ht hl1 hl2 he1 he2 hnew).mono ?_
  rintro e w' ⟨s', A', c', R', rfl, hs', hb, hz1, hz2⟩
  refine ⟨s', rfl, ⟨K, kc, A', c', R', A2, c2, R2, KA, kc2, h1.below hb, hs', h3.below hb, fun z hz hq => ?_⟩, hb⟩
  have hlt := blk_lt_of h3.row_blk z hq
  unfold blk8 at hz
  rcases List.mem_cons.1 hz with e | hz
  · exact h6 z (by simp [e]) hq
  rcases List.mem_cons.1 hz with e | hz
  · exact h6 z (by simp [e]) hq
  rcases List.mem_cons.1 hz with e | hz
  · omega
  · have := hz2 z (Option.mem_def.1 (Option.mem_toList.1 hz)); omega
theorem Two1.ropen {f t : Nat} {life era : Int} (h : Two1 B w b g s b2 d x X) (hB : B ≤ w.heap.size) (hft : f ≤ t) (ht : t ≤ X.C.length) (hl1 : 1 ≤ life) (hl2 : life ≤ 16777215) (he1 : 0 ≤ era) (he2 : era ≤ 16777215) (hnew : newestN X.C f (t - f) < life) :
    Calls Try.prog 16 #[.pointer (some ⟨b2, 0, none⟩), .int .i64 f, .int .i64 t, .int .i64 life, .int .i64 era] w fun e w' => ∃ s', e = .returned (.tuple #[.pointer (some ⟨s', 0, none⟩), .int .i64 0]) ∧ Two B w' b g s b2 s' d x X ⟨f, t, life, era, (scan X.C t era f 0 0).1, (scan X.C t era f 0 0).2 - f, false⟩ ∧ Below w.heap.size w w' := by
  obtain ⟨K, kc, A, c, R, A2, c2, R2, KA, kc2, h1, h2, h3, h6⟩ := h
  refine (ropen8_ok f t life era w h3 hB hft ht hl1 hl2 he1 he2 hnew).mono ?_
  rintro e w' ⟨⟨s', A', c', R', rfl, hs', hr'⟩, hb⟩
  have hs2 := hs'.base hB
  have htn := blkD_type (h3.below hb) hs2
  have ht8 := blk8_type (h1.below hb) (h2.below hb)
  have h8lt := blk_lt_of (blk8_type h1 h2)
  have hge : ∀ z ∈ s' :: (Sc.row ⟨f, t, life, era, (scan X.C t era f 0 0).1, (scan X.C t era f 0 0).2 - f, false⟩ A' c').ownBlock.toList, w.heap.size ≤ z := fun z hz => by
    rcases List.mem_cons.1 hz with e | hz
    · rw [e]; exact hs'.ge
    · exact own_ge hs'.own z (Option.mem_def.1 (Option.mem_toList.1 hz))
  refine ⟨s', rfl, ⟨K, kc, A, c, R, A2, c2, R2, KA, kc2, A', c', R', h1.below hb, h2.below hb, h3.below hb, hs2, fun r hr => ?_, fun z hz hq => ?_, fun z hz e => ?_⟩, hb⟩
  · refine SlX.typed (P := fun T => T ≠ 5) (hr' r hr) (fun z hz => ?_) (fun h => h rfl)
    rcases List.mem_append.1 hz with hz | hz
    · obtain ⟨cs, q, T, a, e⟩ := ht8 z hz
      exact ⟨cs, q, T, a, by rcases e with e | e | e | e <;> rw [e] <;> decide⟩
    · obtain ⟨cs, q, T, a, e⟩ := htn z hz
      exact ⟨cs, q, T, a, by rcases e with e | e | e <;> rw [e] <;> decide⟩
  · rcases List.mem_append.1 hq with hq | hq
    · exact h6 z hz hq
    · have h9 := hge z hq
      have := h8lt z hz
      omega
  · have h9 := hge z (List.mem_cons_of_mem _ (Option.mem_toList.2 (Option.mem_def.2 e)))
    have := blk_lt_of h3.row_blk z hz
    omega
end
end
end Go.Proofs.Ytiggcpfmmgmncaa
