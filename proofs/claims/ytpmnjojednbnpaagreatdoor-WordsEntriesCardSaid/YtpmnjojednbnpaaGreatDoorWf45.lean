import Derived.Test.YtpmnjojednbnpaaGreatDoorWf44
set_option maxHeartbeats 16000000
set_option maxRecDepth 100000
set_option linter.unusedVariables false
set_option linter.unusedSimpArgs false
namespace Go.Proofs.YtpmnjojednbnpaaGreatDoor
open Go.ChangeShapes Go.WideShapes Go.ChangeAt Go.RowKit
section
theorem pack_len34 {z nums : List Int} (hz : ∀ i, In64p (z.getD i 0)) (hn : ∀ x ∈ nums, In64p x) (hl : nums.length ≤ 32) : (packL (encC z nums)).length ≤ 10000 := by
 have h1 := packL_le (l := encC z nums) (fun x hx => by
  unfold encC at hx
  rcases List.mem_cons.1 hx with rfl | hx
  ·exact hz 0
  ·rcases List.mem_cons.1 hx with rfl | hx
   ·exact hz 1
   ·exact flat_in hz hn (by omega) _ x hx)
 have h2 := flat_len z nums (fldL (z.getD 0 0));have h3 := fldL_five (z.getD 0 0);have h4 : (nums.length + 2) * (fldL (z.getD 0 0)).length ≤ 42 * 5 := Nat.mul_le_mul (by omega) h3;unfold encC at h1 ⊢;rw [List.length_cons, List.length_cons] at h1;omega
structure En.ok (x : En) : Prop where
  iz : In64p x.z
  in_ : In64p x.n
  bl : x.bs.length ≤ 10000
  oc : Oct x.bs
  kl : x.ks.length ≤ 1000
  ik : ∀ y ∈ x.ks, In64p y
theorem oct_nil : Oct [] := fun x hx => by cases hx
theorem in64k {k : Int} (h1 : -100 ≤ k) (h2 : k ≤ 100) : In64p k := by unfold In64p; omega
theorem guess_ok (l : List UInt8) (hl : l.length ≤ 900) : (guessE l).ok := by
 have hfew : Few40 (splD 32 l) := ⟨by have := splD_len 32 l; omega, fun x hx => by have := splD_piece 32 l x hx; omega⟩;have h1 := wordP_few (bad := false) hfew;have h2 := wordP_few (bad := (wordP (splD 32 l) false).2.2) h1.1;unfold guessE;simp only
 split
 ·exact ⟨(in64k (k := 2) (by decide) (by decide)), valP_in _, by simp, oct_nil, by simp only [valsP, List.length_map]; exact h2.1.1, valsP_in _⟩
 ·split
  ·exact ⟨⟨by decide, by decide⟩, ⟨by decide, by decide⟩, by simp, oct_nil, by simp, fun x hx => by cases hx⟩
  ·split
   ·exact ⟨⟨by decide, by decide⟩, ⟨by decide, by decide⟩, by simp, oct_nil, by simp, fun x hx => by cases hx⟩
   ·split
    ·rename_i hok
     obtain ⟨p1, p2, p3⟩ := parseZ_in l;exact ⟨(in64k (k := 1) (by decide) (by decide)), (in64k (k := 0) (by decide) (by decide)), pack_len34 p1 p2 (okP_len hok), packL_byte _, by simp, fun x hx => by cases hx⟩
    ·exact ⟨⟨by decide, by decide⟩, ⟨by decide, by decide⟩, by simp, oct_nil, by simp, fun x hx => by cases hx⟩
def okPE (l : List UInt8) : Bool := decide ((guessE l).line = some l)
def peV (l : List UInt8) : En := if okPE l = true then guessE l else ⟨0, [], 0, []⟩
def PERes (W : Nat) (w' : World) (e : Ending) (l : List UInt8) : Prop := ∃ B kb K kk, e = .returned (.tuple #[.agg #[.int .i64 (peV l).z, .slice B (peV l).bs.length kb, .int .i64 (peV l).n, .slice K (peV l).ks.length kk], .int .i64 (prE (okPE l))]) ∧ w'.ownsRow W 5 1 (.slice B (peV l).bs.length kb) (peV l).bs.length (by8 (peV l).bs) ∧ w'.ownsRow W 3 1 (.slice K (peV l).ks.length kk) (peV l).ks.length (ints .i64 (peV l).ks)
theorem PERes.bad {W : Nat} {w' : World} {l : List UInt8} (h : okPE l = false) : PERes W w' (.returned (.tuple #[.agg #[.int .i64 0, .slice none 0 0, .int .i64 0, .slice none 0 0], .int .i64 3])) l := by
 unfold PERes peV;rw [h, if_neg (by decide)];exact ⟨none, 0, none, 0, rfl, own_nil _ _ _, own_nil _ _ _⟩
theorem wparseE (l : List UInt8) (w : World) (hl : l.length ≤ 900) (hE : EvB w.heap.size w) :
  Calls Tryz.prog 22 #[.string (S8 l)] w fun e w' => PERes w.heap.size w' e l ∧ Below w.heap.size w w' := by
 have hb0 := since_alloc (Below.refl _ w) (.cells #[.int .i64 0, .slice none 0 0, .int .i64 0, .slice none 0 0] 57);have hx0 := heap_alloc_new w (.cells #[.int .i64 0, .slice none 0 0, .int .i64 0, .slice none 0 0] 57);obtain ⟨q0, hq0⟩ : ∃ q0, w.heap.size = q0 := ⟨_, rfl⟩;have hsz0 : (w.alloc (.cells #[.int .i64 0, .slice none 0 0, .int .i64 0, .slice none 0 0] 57)).heap.size = q0 + 1 := by rw [World.size_alloc, hq0]
 rw [hq0] at hx0 hb0 hE ⊢;have HQ0 := hJz hq0;obtain ⟨R0, hR0⟩ : ∃ R0, w.alloc (.cells #[.int .i64 0, .slice none 0 0, .int .i64 0, .slice none 0 0] 57) = R0 := ⟨_, rfl⟩;rw [hR0] at hx0 hb0 hsz0;have HR0 := hJz hR0
 have HK : Hid (∀ V, Below R0.heap.size R0 V → V.heap[q0]? = some (.cells #[.int .i64 0, .slice none 0 0, .int .i64 0, .slice none 0 0] 57 (0, 0)) ∧ Below q0 w V ∧ EvB V.heap.size V) := hJz fun V hV => by
  have hs := hV.size;have h1 := hb0.trans (hV.mono (by omega));exact ⟨(hV.block q0 (by omega)).trans hx0, h1, (hE.on h1).up (by omega)⟩
 have hev0 := (HK.out R0 (Below.refl _ _)).2.2;have HGU := hJz (wguess l R0 hl hev0);have HOKG := guess_ok l hl;have HOKE : Hid (okPE l = decide ((guessE l).line = some l)) := hJz rfl;have HPV : Hid (okPE l = true → peV l = guessE l) := hJz fun h => by unfold peV; rw [if_pos h]
 obtain ⟨G, hG⟩ : ∃ G, guessE l = G := ⟨_, rfl⟩;rw [hG] at HGU HOKG HOKE HPV;obtain ⟨z, bs, n, ks⟩ := G;obtain ⟨iz, in_, bl, oc, kl, ik⟩ := HOKG;simp only at iz in_ bl oc kl ik;have HEN := hJz (fun B kb K kk V (s1 : Sl V B (by8 bs)) (s2 : Sl V K (ints .i64 ks)) (h : EvB V.heap.size V) => wentry z n B K kb kk bs ks V iz in_ bl oc s1 kl ik s2 h);have HLN : Hid (En.line ⟨z, bs, n, ks⟩ = entE z bs n ks) := hJz rfl;rw [HLN.out] at HOKE;have HZ0 := hJz hsz0;clear hx0 hb0 hsz0 hR0 hE hev0 hG iz in_ bl oc kl ik hq0;go_enter Tryz.func22, Tryz.ntmps22;go_upto_region 1 with fail;rw [HR0.out, HQ0.out];go_wp2_with fail;refine HGU.out.mono ?_;rintro e v1 ⟨⟨B, kb, K, kk, rfl, ow1, ow2⟩, hb1⟩;simp only at ow1 ow2;have hal := since_alloc (Below.refl _ v1) (.cells #[.int .i64 z, .slice B bs.length kb, .int .i64 n, .slice K ks.length kk] 57);have hg4 := heap_alloc_new v1 (.cells #[.int .i64 z, .slice B bs.length kb, .int .i64 n, .slice K ks.length kk] 57);obtain ⟨g4, hg⟩ : ∃ g4, v1.heap.size = g4 := ⟨_, rfl⟩;obtain ⟨Y, hY⟩ : ∃ Y, v1.alloc (.cells #[.int .i64 z, .slice B bs.length kb, .int .i64 n, .slice K ks.length kk] 57) = Y := ⟨_, rfl⟩;rw [hY] at hal hg4;rw [hg] at hg4;have hbY := since_step hb1 hal;have ow1 := own_below ow1 hal;have ow2 := own_below ow2 hal;have HENY := hJz (HEN.out B kb K kk Y (Sl.of_own ow1) (Sl.of_own ow2) (HK.out Y hbY).2.2)
 have HOW : Hid (∀ V, Below Y.heap.size Y V → (V.ownsRow R0.heap.size 5 1 (.slice B bs.length kb) bs.length (by8 bs) ∧ V.ownsRow R0.heap.size 3 1 (.slice K ks.length kk) ks.length (ints .i64 ks)) ∧ V.heap[g4]? = some (.cells #[.int .i64 z, .slice B bs.length kb, .int .i64 n, .slice K ks.length kk] 57 (0, 0)) ∧ V.heap[q0]? = some (.cells #[.int .i64 0, .slice none 0 0, .int .i64 0, .slice none 0 0] 57 (0, 0)) ∧ Below q0 w V) := hJz fun V hV => by
  have h1 := HK.out V (since_step hbY hV);exact ⟨⟨own_below ow1 hV, own_below ow2 hV⟩, (hV.block g4 (Array.getElem?_eq_some_iff.1 hg4).1).trans hg4, h1.1, h1.2.1⟩
 have HYE := hJz hY;have HGE := hJz hg;have x0 : Y.cell? ⟨g4, 0, none⟩ = some (.int .i64 z) := (cell_of_row Y g4 0 _ _ (0, 0) hg4).trans rfl;have x1 : Y.cell? ⟨g4, 1, none⟩ = some (.slice B bs.length kb) := (cell_of_row Y g4 1 _ _ (0, 0) hg4).trans rfl;have x2 : Y.cell? ⟨g4, 2, none⟩ = some (.int .i64 n) := (cell_of_row Y g4 2 _ _ (0, 0) hg4).trans rfl;have x3 : Y.cell? ⟨g4, 3, none⟩ = some (.slice K ks.length kk) := (cell_of_row Y g4 3 _ _ (0, 0) hg4).trans rfl;have xl := (Array.getElem?_eq_some_iff.1 hg4).1;clear hal hg4 hg hY hbY ow1 ow2 hb1 HEN HGU;go_upto_region 2 with fail;rw [HYE.out, HGE.out];go_wp2_with fail;refine HENY.out.mono ?_;rintro e v2 ⟨he, hb2⟩;unfold entA at he;subst he;obtain ⟨⟨ow1, ow2⟩, hbx, hqq, hBq⟩ := HOW.out v2 hb2;clear x0 x1 x2 x3 xl hb2 HENY;have kq0 : v2.cell? ⟨q0, 0, none⟩ = some (.int .i64 0) := (cell_of_row v2 q0 0 _ _ (0, 0) hqq).trans rfl;have kq1 : v2.cell? ⟨q0, 1, none⟩ = some (.slice none 0 0) := (cell_of_row v2 q0 1 _ _ (0, 0) hqq).trans rfl;have kq2 : v2.cell? ⟨q0, 2, none⟩ = some (.int .i64 0) := (cell_of_row v2 q0 2 _ _ (0, 0) hqq).trans rfl;have kq3 : v2.cell? ⟨q0, 3, none⟩ = some (.slice none 0 0) := (cell_of_row v2 q0 3 _ _ (0, 0) hqq).trans rfl;have hql := (Array.getElem?_eq_some_iff.1 hqq).1;have fq : ∀ i, v2.frozen? ⟨q0, i, none⟩ = false := fun i => by simp [World.frozen?, hqq]
 have x0 : v2.cell? ⟨g4, 0, none⟩ = some (.int .i64 z) := (cell_of_row v2 g4 0 _ _ (0, 0) hbx).trans rfl;have x1 : v2.cell? ⟨g4, 1, none⟩ = some (.slice B bs.length kb) := (cell_of_row v2 g4 1 _ _ (0, 0) hbx).trans rfl;have x2 : v2.cell? ⟨g4, 2, none⟩ = some (.int .i64 n) := (cell_of_row v2 g4 2 _ _ (0, 0) hbx).trans rfl;have x3 : v2.cell? ⟨g4, 3, none⟩ = some (.slice K ks.length kk) := (cell_of_row v2 g4 3 _ _ (0, 0) hbx).trans rfl;have xl := (Array.getElem?_eq_some_iff.1 hbx).1;have hcs := @cell_set;have HBQ := hJz hBq;have HO1 := hJz ow1;have HO2 := hJz ow2;clear hqq hbx hBq ow1 ow2
 cases ho : entE z bs n ks with
 | none =>
  have HB : Hid (okPE l = false) := hJz (by rw [HOKE.out, ho]; exact decide_eq_false (by simp));clear ho HOKE HPV;go_wp2_with fail
  refine bodyPost_ret (v := .tuple #[.agg #[.int .i64 0, .slice none 0 0, .int .i64 0, .slice none 0 0], .int .i64 3]) ?_ rfl ⟨?_, ?_⟩
  ·simp [results, Tryz.results22, go_sem, kq0, kq1, kq2, kq3, fq]
  ·exact PERes.bad HB.out
  ·refine Below.setCell (Below.setCell (Below.setCell (Below.setCell HBQ.out ?_ _) ?_ _) ?_ _) ?_ _
   all_goals exact Nat.le_refl _
 | some l2 =>
  by_cases hll : l2 = l
  ·subst hll;have HB : Hid (okPE l2 = true) := hJz (by rw [HOKE.out, ho]; exact decide_eq_true rfl);have hse : ((S8 l2).toList == (S8 l2).toList) = true := (Lib.bytes_beq_iff _ _).mpr rfl;have HPV2 := hJz (HPV.out HB.out);clear ho HOKE HPV;go_wp2_with fail
   refine bodyPost_ret (v := .tuple #[.agg #[.int .i64 z, .slice B bs.length kb, .int .i64 n, .slice K ks.length kk], .int .i64 0]) ?_ rfl ⟨?_, ?_⟩
   ·simp [results, Tryz.results22, go_sem, kq0, kq1, kq2, kq3, fq]
   ·unfold PERes;rw [HPV2.out, HB.out];have hq : q0 < R0.heap.size := by have := HZ0.out; omega
    exact ⟨B, kb, K, kk, rfl, own_bsW (own_set4 HO1.out hq _ _ _ _) (Nat.le_of_lt hq), own_bsW (own_set4 HO2.out hq _ _ _ _) (Nat.le_of_lt hq)⟩
   ·refine Below.setCell (Below.setCell (Below.setCell (Below.setCell HBQ.out ?_ _) ?_ _) ?_ _) ?_ _
    all_goals exact Nat.le_refl _
  ·have HB : Hid (okPE l = false) := hJz (by rw [HOKE.out, ho]; exact decide_eq_false (fun h => hll (by injection h)));have hse : ((S8 l2).toList == (S8 l).toList) = false := (Lib.bytes_beq_false_iff _ _).mpr (fun h => hll (S8_inj h));clear ho HOKE HPV hll;go_wp2_with fail
   refine bodyPost_ret (v := .tuple #[.agg #[.int .i64 0, .slice none 0 0, .int .i64 0, .slice none 0 0], .int .i64 3]) ?_ rfl ⟨?_, ?_⟩
   ·simp [results, Tryz.results22, go_sem, kq0, kq1, kq2, kq3, fq]
   ·exact PERes.bad HB.out
   ·refine Below.setCell (Below.setCell (Below.setCell (Below.setCell HBQ.out ?_ _) ?_ _) ?_ _) ?_ _
    all_goals exact Nat.le_refl _
end
section
theorem spl_power : splD 32 powerW = [powerW] := by decide +kernel
theorem spl_compact : splD 32 compactW = [compactW] := by decide +kernel
theorem fuse_free : (32 : UInt8) ∉ fuseW := by decide
theorem guess_head {l : List UInt8} {x : List UInt8} {P : List (List UInt8)} (h : splD 32 l = x :: P) : guessE l = if x = fuseW then ⟨2, [], (valP (wordP P false).1).1, valsP (wordP P false).2.1⟩ else if x = powerW then ⟨3, [], 0, []⟩ else if x = compactW then ⟨4, [], 0, []⟩ else if okP l = true then ⟨1, packL (encC (parseZ l).z (parseZ l).nums), 0, []⟩ else ⟨0, [], 0, []⟩ := by
 unfold guessE;rw [h];rfl
theorem line_power : En.line ⟨3, [], 0, []⟩ = some powerW := by
 unfold En.line entE;rw [if_neg (by simp), if_neg (by simp), if_pos (by simp)]
theorem line_compact : En.line ⟨4, [], 0, []⟩ = some compactW := by
 unfold En.line entE;rw [if_neg (by simp), if_neg (by simp), if_neg (by simp), if_pos (by simp)]
theorem line_zero : En.line ⟨0, [], 0, []⟩ = none := by
 unfold En.line entE;rw [if_neg (by simp), if_neg (by simp), if_neg (by simp), if_neg (by simp)]
theorem line_fuse (n : Int) (ks : List Int) : En.line ⟨2, [], n, ks⟩ = some (Lib.join (fuseL n ks) [32]) := by
 unfold En.line entE;rw [if_neg (by simp), if_pos (by simp)]
theorem pe_power : guessE powerW = ⟨3, [], 0, []⟩ ∧ okPE powerW = true := by
 have h : guessE powerW = ⟨3, [], 0, []⟩ := by rw [guess_head spl_power, if_neg (by decide), if_pos rfl]
 exact ⟨h, by unfold okPE; rw [h, line_power]; exact decide_eq_true rfl⟩
theorem pe_compact : guessE compactW = ⟨4, [], 0, []⟩ ∧ okPE compactW = true := by
 have h : guessE compactW = ⟨4, [], 0, []⟩ := by rw [guess_head spl_compact, if_neg (by decide), if_neg (by decide), if_pos rfl]
 exact ⟨h, by unfold okPE; rw [h, line_compact]; exact decide_eq_true rfl⟩
theorem peV_ok {l : List UInt8} (h : okPE l = true) : peV l = guessE l := by unfold peV; rw [if_pos h]
theorem fuseL_free (n : Int) (ks : List Int) : ∀ x ∈ fuseL n ks, (32 : UInt8) ∉ x := by
 intro x hx
 rcases List.mem_cons.1 hx with rfl | hx
 ·exact fuse_free
 ·rcases List.mem_cons.1 hx with rfl | hx
  ·exact itoa_free n (.inl rfl)
  ·obtain ⟨k, _, rfl⟩ := List.mem_map.1 hx;exact itoa_free k (.inl rfl)
theorem spl_fuse (n : Int) (ks : List Int) : splD 32 (Lib.join (fuseL n ks) [32]) = fuseL n ks := splD_join 32 _ (by simp [fuseL]) (fuseL_free n ks)
theorem numD_val {y : List UInt8} {n : Int} (h : numD y = some n) : valP y = (n, false) ∧ Lib.itoa n = y := by
 obtain ⟨h1, h2⟩ := numD_iff.1 h;exact ⟨by rw [← h2]; exact valP_itoa h1, h2⟩
theorem nums_val : ∀ {P : List (List UInt8)}, (∀ y ∈ P, (numD y).isSome = true) → (valsP P).map Lib.itoa = P
 | [], _ => rfl
 | y :: P, h => by
  obtain ⟨n, hn⟩ := Option.isSome_iff_exists.1 (h y (by simp));obtain ⟨h1, h2⟩ := numD_val hn;have := nums_val (P := P) fun z hz => h z (by simp [hz]);simp only [valsP, List.map_cons, h1, h2];simp only [valsP] at this;rw [this]
theorem vals_num : ∀ {P : List (List UInt8)}, (valsP P).map Lib.itoa = P → ∀ y ∈ P, (numD y).isSome = true
 | [], _, y, h => by cases h
 | x :: P, h, y, hy => by
  simp only [valsP, List.map_cons, List.cons.injEq] at h
  rcases List.mem_cons.1 hy with rfl | hy
  ·rw [numD_iff.2 ⟨valP_in _, h.1⟩]; rfl
  ·exact vals_num (P := P) h.2 y hy
theorem vals_itoa : ∀ {ks : List Int}, (∀ y ∈ ks, In64p y) → valsP (ks.map Lib.itoa) = ks
 | [], _ => rfl
 | a :: r, h => by
  have h1 := valP_itoa (h a (by simp));have h2 := vals_itoa (ks := r) fun y hy => h y (by simp [hy]);simp only [valsP, List.map_cons, h1] at h2 ⊢;rw [h2]
theorem pe_fuse {l : List UInt8} {P : List (List UInt8)} (h : splD 32 l = fuseW :: P) : (okPE l = true ↔ P ≠ [] ∧ ∀ y ∈ P, (numD y).isSome = true) ∧ guessE l = ⟨2, [], (valP (wordP P false).1).1, valsP (wordP P false).2.1⟩ := by
 have hg : guessE l = ⟨2, [], (valP (wordP P false).1).1, valsP (wordP P false).2.1⟩ := by rw [guess_head h, if_pos rfl]
 refine ⟨?_, hg⟩;have hj : Lib.join (fuseW :: P) [32] = l := by rw [← h]; exact join_splD 32 l
 have e : okPE l = true ↔ fuseL (valP (wordP P false).1).1 (valsP (wordP P false).2.1) = fuseW :: P := by
  unfold okPE;rw [hg, line_fuse, decide_eq_true_eq]
  constructor
  ·intro k;injection k with k;rw [← h, ← k, spl_fuse]
  ·intro k;rw [k, hj]
 rw [e]
 cases P with
 | nil =>
  constructor
  ·intro k;simp [fuseL] at k
  ·exact fun k => absurd rfl k.1
 | cons y P =>
  simp only [wordP, fuseL, List.cons.injEq, true_and]
  constructor
  ·intro k;refine ⟨by simp, fun z hz => ?_⟩
   rcases List.mem_cons.1 hz with rfl | hz
   ·rw [numD_iff.2 ⟨valP_in _, k.1⟩]; rfl
   ·exact vals_num k.2 z hz
  ·intro k;obtain ⟨n, hn⟩ := Option.isSome_iff_exists.1 (k.2 y (by simp));obtain ⟨h1, h2⟩ := numD_val hn;refine ⟨by rw [h1]; exact h2, nums_val fun z hz => k.2 z (by simp [hz])⟩
theorem dec_encZ {z nums : List Int} (hl : z.length = 13) (hz : ∀ i, In64p (z.getD i 0)) (hn : ∀ x ∈ nums, In64p x) (h : okZ z nums.length = true) : decC (packL (encC z nums)) = ⟨z, nums, ⟨[], 0⟩⟩ := by
 match z, hl with
 | [z0, z1, z2, z3, z4, z5, z6, z7, z8, z9, z10, z11, z12], _ =>
  exact dec_encE z0 z1 z2 z3 z4 z5 z6 z7 z8 z9 z10 z11 z12 nums hn (hz 0) (hz 1) (hz 2) (hz 3) (hz 4) (hz 5) (hz 6) (hz 7) (hz 8) (hz 9) (hz 10) (hz 11) (hz 12) (by rw [← ok_isE]; exact h)
theorem line_cmd {z nums : List Int} (hl : z.length = 13) (hz : ∀ i, In64p (z.getD i 0)) (hn : ∀ x ∈ nums, In64p x) (h : okZ z nums.length = true) : En.line ⟨1, packL (encC z nums), 0, []⟩ = some (lineB z nums) := by
 unfold En.line entE;rw [if_pos (by simp)];simp only;rw [dec_encZ hl hz hn h];rw [if_pos];unfold okD;rw [Bool.and_eq_true];exact ⟨decide_eq_true (show endF (⟨[], 0⟩ : Rs) = 0 by decide), h⟩
theorem okP_parts {l : List UInt8} (h : okP l = true) : okZ (parseZ l).z (parseZ l).nums.length = true ∧ lineB (parseZ l).z (parseZ l).nums = l := by
 unfold okP at h;rw [Bool.and_eq_true, Bool.and_eq_true] at h;exact ⟨h.2.1, of_decide_eq_true h.2.2⟩
theorem okZ_op {z : List Int} {n : Nat} (h : okZ z n = true) (hl : z.length = 13) : 1 ≤ z.getD 0 0 ∧ z.getD 0 0 ≤ 31 := by
 match z, hl with
 | [z0, z1, z2, z3, z4, z5, z6, z7, z8, z9, z10, z11, z12], _ =>
  rw [ok_isE] at h;simp only [isZ, Bool.and_eq_true, decide_eq_true_eq] at h;exact ⟨h.1.1.1.1.1, h.1.1.1.1.2.1⟩
theorem okP_head {l x : List UInt8} {P : List (List UInt8)} (h : okP l = true) (hs : splD 32 l = x :: P) : x ≠ fuseW ∧ x ≠ powerW ∧ x ≠ compactW := by
 obtain ⟨h1, h2⟩ := okP_parts h;have hop := okZ_op h1 (parseZ_in l).2.2;have h3 := spl_line (parseZ l).z (parseZ l).nums;rw [h2, hs] at h3;unfold lineW at h3;injection h3 with h3 _
 have hm : x ∈ opsW := by
  rw [h3];unfold wordB;rw [if_pos hop, List.getD_eq_getElem?_getD];have hl : ((parseZ l).z.getD 0 0 - 1).toNat < opsW.length := by rw [opsW_len]; omega
  rw [List.getElem?_eq_getElem hl];exact List.getElem_mem hl
 have hall : ∀ y ∈ opsW, y ≠ fuseW ∧ y ≠ powerW ∧ y ≠ compactW := by decide +kernel
 exact hall x hm
theorem pe_cmd {l x : List UInt8} {P : List (List UInt8)} (hs : splD 32 l = x :: P) (hx : x ≠ fuseW) (h3 : l ≠ powerW) (h4 : l ≠ compactW) : okPE l = okP l ∧ (okP l = true → guessE l = ⟨1, packL (encC (parseZ l).z (parseZ l).nums), 0, []⟩) := by
 have hg := guess_head hs;rw [if_neg hx] at hg
 by_cases hk : okP l = true
 ·obtain ⟨_, e1, e2⟩ := okP_head hk hs;rw [if_neg e1, if_neg e2, if_pos hk] at hg;refine ⟨?_, fun _ => hg⟩;obtain ⟨p1, p2, p3⟩ := parseZ_in l;obtain ⟨q1, q2⟩ := okP_parts hk;rw [hk];unfold okPE;rw [hg, line_cmd p3 p1 p2 q1, q2];exact decide_eq_true rfl
 ·refine ⟨?_, fun h => absurd h hk⟩;have hkf : okP l = false := by simpa using hk
  rw [hkf];unfold okPE;refine decide_eq_false fun h => ?_
  by_cases e1 : x = powerW
  ·rw [if_pos e1] at hg;rw [hg, line_power] at h;injection h with h;exact h3 h.symm
  ·rw [if_neg e1] at hg
   by_cases e2 : x = compactW
   ·rw [if_pos e2] at hg;rw [hg, line_compact] at h;injection h with h;exact h4 h.symm
   ·rw [if_neg e2, if_neg hk] at hg;rw [hg, line_zero] at h
    cases h
theorem line_back {x : En} (hx : x.ok) {l : List UInt8} (h : x.line = some l) : okPE l = true ∧ guessE l = x := by
 obtain ⟨z, bs, n, ks⟩ := x;have h0 := h;unfold En.line entE at h;simp only at h
 split at h
 ·rename_i hc
  obtain ⟨rfl, rfl, hk⟩ := hc;obtain rfl : ks = [] := List.length_eq_zero_iff.1 hk
  split at h
  ·rename_i hok
   injection h with h;subst h;have hd := hok;unfold okD at hd;rw [Bool.and_eq_true, decide_eq_true_eq] at hd;obtain ⟨i1, i2⟩ := decC_in bs;have hl := decC_len bs;obtain ⟨g1, g2, g3⟩ := parse_line hl i1 i2 hd.2
   have he : (decC bs).s.err = 0 ∧ (decC bs).s.B = [] := by
    have h1 := hd.1;unfold endF at h1
    split at h1
    ·rename_i h2
     exact absurd h1 h2
    ·rename_i h2
     split at h1
     ·rename_i h3
      exact ⟨by simpa using h2, h3⟩
     ·exact absurd h1 (by decide)
   have hpk := enc_dec (bs := bs) hx.oc he.1 he.2
   obtain ⟨x, P, hs⟩ : ∃ x P, splD 32 (lineB (decC bs).z (decC bs).nums) = x :: P := by
    cases hq : splD 32 (lineB (decC bs).z (decC bs).nums) with
    | nil => exact absurd hq (splD_ne 32 _)
    | cons x P => exact ⟨x, P, rfl⟩
   obtain ⟨e0, e1, e2⟩ := okP_head g1 hs;have hg := guess_head hs;rw [if_neg e0, if_neg e1, if_neg e2, if_pos g1, g2, g3, hpk] at hg;refine ⟨?_, hg⟩;unfold okPE;rw [hg, h0];exact decide_eq_true rfl
  ·cases h
 ·split at h
  ·rename_i hc
   obtain ⟨rfl, hb⟩ := hc;obtain rfl : bs = [] := List.length_eq_zero_iff.1 hb;injection h with h;subst h;have hs : splD 32 (Lib.join (fuseL n ks) [32]) = fuseW :: (Lib.itoa n :: ks.map Lib.itoa) := spl_fuse n ks;obtain ⟨h1, h2⟩ := pe_fuse hs;have hvk := vals_itoa hx.ik;simp only at hvk;have hvn := valP_itoa hx.in_;simp only at hvn
   refine ⟨h1.2 ⟨by simp, fun y hy => ?_⟩, ?_⟩
   ·rcases List.mem_cons.1 hy with rfl | hy
    ·rw [numD_itoa hx.in_]; rfl
    ·obtain ⟨k, hk, rfl⟩ := List.mem_map.1 hy;rw [numD_itoa (hx.ik k hk)]; rfl
   ·rw [h2];simp only [wordP];rw [hvn, hvk]
  ·split at h
   ·rename_i hc
    obtain ⟨rfl, hb, rfl, hk⟩ := hc;obtain rfl : bs = [] := List.length_eq_zero_iff.1 hb;obtain rfl : ks = [] := List.length_eq_zero_iff.1 hk;injection h with h;subst h;exact ⟨pe_power.2, pe_power.1⟩
   ·split at h
    ·rename_i hc
     obtain ⟨rfl, hb, rfl, hk⟩ := hc;obtain rfl : bs = [] := List.length_eq_zero_iff.1 hb;obtain rfl : ks = [] := List.length_eq_zero_iff.1 hk;injection h with h;subst h;exact ⟨pe_compact.2, pe_compact.1⟩
    ·cases h
theorem join21 : ∀ (L : List (List UInt8)), (∀ x ∈ L, x.length ≤ 21) → (Lib.join L [32]).length ≤ 22 * L.length := fun L h => by
 have := join_le (m := 21) L [32] h;simpa using this
theorem line_short {x : En} (hx : x.ok) (hk : x.ks.length ≤ 30) {l : List UInt8} (h : x.line = some l) : l.length ≤ 900 := by
 obtain ⟨z, bs, n, ks⟩ := x;unfold En.line entE at h;simp only at h hk
 split at h
 ·split at h
  ·rename_i hok
   injection h with h;subst h;have hd := hok;unfold okD at hd;rw [Bool.and_eq_true] at hd;obtain ⟨i1, i2⟩ := decC_in bs
   have h32 : (decC bs).nums.length ≤ 32 := by
    have h1 := hd.2;simp only [okZ, Bool.and_eq_true, decide_eq_true_eq] at h1;exact h1.1.1.1.2.2.2.2
   exact line_len900 i1 i2 h32
  ·cases h
 ·split at h
  ·injection h with h;subst h
   have h1 := join21 (fuseL n ks) fun x hx' => by
    rcases List.mem_cons.1 hx' with rfl | hx'
    ·decide
    ·rcases List.mem_cons.1 hx' with rfl | hx'
     ·exact itoa_len n hx.in_
     ·obtain ⟨k, hk, rfl⟩ := List.mem_map.1 hx';exact itoa_len k (hx.ik k hk)
   have h2 : (fuseL n ks).length = ks.length + 2 := by simp [fuseL]
   omega
  ·split at h
   ·injection h with h; subst h; decide
   ·split at h
    ·injection h with h; subst h; decide
    ·cases h
end
end Go.Proofs.YtpmnjojednbnpaaGreatDoor
