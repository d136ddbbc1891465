import Derived.LaidLaws
import Derived.Lib.LaidTab
import Derived.MakeChecks
import Derived.Shelf.Vars
import Derived.Test.YtpmnjojednbnpaaGreatDoorRows
import Derived.Test.YtpmnjojednbnpaaGreatDoorWf10
set_option maxHeartbeats 16000000
set_option maxRecDepth 100000
set_option linter.unusedVariables false
set_option linter.unusedSimpArgs false
section
namespace Go.Proofs.YtpmnjojednbnpaaGreatDoor
open Go Go.ChangeShapes Go.WideShapes Go.ChangeAt Go.RowKit
theorem var_below40 {P : Program} {w w' : World} {n : String} {cs : Array Value} (h : w.var? P n = some cs) (hb : Below w.heap.size w w') : w'.var? P n = some cs := by
 unfold World.var? at *
 cases hg : P.globalNamed n with
 | none => rw [hg] at h; cases h
 | some g =>
  rw [hg] at h;simp only [Option.bind_some] at h ⊢
  have hlt : g < w.heap.size := by
   rcases Nat.lt_or_ge g w.heap.size with h' | h'
   ·exact h'
   ·rw [Array.getElem?_eq_none h'] at h; cases h
  rw [hb.block g hlt];exact h
theorem iface_var40 {P : Program} {w : World} {n nm : String} {d : DataW Unit} {cs : Array Value} {fuel : Nat} {t : TypeId} {ms : Array (String × TypeId)} {p : List MemPlace} (hu : P.underlying t = some (.interface ms)) (hv : w.var? P n = some cs) (hd : DataW.trod (fun _ => ()) P w 0 (fun _ => true) false fuel t cs.toList = some (.iface nm d, p)) : ∃ tp v, w.var? P n = some #[.iface tp v] := by
 obtain ⟨_, u, v, hcs, _⟩ := iface_of_trod hu hd;refine ⟨u, v, ?_⟩
 have : cs = #[.iface u v] := by
  rw [← Array.toArray_toList (xs := cs), hcs]
 rw [← this];exact hv
theorem tab_var40 {P : Program} {W : World} {n : String} {k : IntKind} {zs : List Int} {t e : TypeId} {m : Nat} {cs : Array Value} {fuel : Nat} {p : List MemPlace} (ht : P.underlying t = some (.array m e)) (he : P.underlying e = some (.int k)) (hce : P.cellsOf e = 1) (hct : P.cellsOf t = m)
  (hv : W.var? P n = some cs) (hd : DataW.trod (fun _ => ()) P W 0 (fun _ => true) false fuel t cs.toList = some (Lib.tabData k zs, p)) : Lib.TabIs P W n k zs := by
 unfold Lib.TabIs;rw [hv, ← Lib.cells_of_tab ht he hce hct hd]
theorem ev_laid {W : World} (hsh : W.ShapedOpen Tryz.prog) (hL : laidMetH Tryz.prog Rows.wordsRepliesRow.laid W) : EvB W.heap.size W := by
 rw [MakeChecks.laidMetH_plain _ _ _ (by kernel_rfl)] at hL;obtain ⟨ps, h0, _⟩ := hL;obtain ⟨g0, t0, cs0, f0, p0, q0, hg0, ht0, hv0, hd0, h1, _⟩ := h0;obtain ⟨g1, t1, cs1, f1, p1, q1, hg1, ht1, hv1, hd1, h2, _⟩ := h1;obtain ⟨g2, t2, cs2, f2, p2, q2, hg2, ht2, hv2, hd2, h3, _⟩ := h2;obtain ⟨g3, t3, cs3, f3, p3, q3, hg3, ht3, hv3, hd3, h4, _⟩ := h3;obtain ⟨g4, t4, cs4, f4, p4, q4, hg4, ht4, hv4, hd4, h5, _⟩ := h4;obtain ⟨g5, t5, cs5, f5, p5, q5, hg5, ht5, hv5, hd5, h6, _⟩ := h5;obtain ⟨g6, t6, cs6, f6, p6, q6, hg6, ht6, hv6, hd6, h7, _⟩ := h6;obtain ⟨g7, t7, cs7, f7, p7, q7, hg7, ht7, hv7, hd7, h8, _⟩ := h7;obtain ⟨g8, t8, cs8, f8, p8, q8, hg8, ht8, hv8, hd8, h9, _⟩ := h8
 obtain rfl : g2 = 2 := (Option.some.inj ((show Tryz.prog.globalNamed "internal/strconv.uint64pow10" = some 2 by kernel_rfl).symm.trans hg2)).symm
 obtain rfl : t2 = 220 := (Option.some.inj ((show (Tryz.prog.globals[2]?).map (·.type) = some 220 by kernel_rfl).symm.trans ht2)).symm
 obtain rfl : g7 = 0 := (Option.some.inj ((show Tryz.prog.globalNamed "strings.asciiSpace" = some 0 by kernel_rfl).symm.trans hg7)).symm
 obtain rfl : t7 = 136 := (Option.some.inj ((show (Tryz.prog.globals[0]?).map (·.type) = some 136 by kernel_rfl).symm.trans ht7)).symm
 obtain rfl : g5 = 4 := (Option.some.inj ((show Tryz.prog.globalNamed "strconv.ErrSyntax" = some 4 by kernel_rfl).symm.trans hg5)).symm
 obtain rfl : t5 = 117 := (Option.some.inj ((show (Tryz.prog.globals[4]?).map (·.type) = some 117 by kernel_rfl).symm.trans ht5)).symm
 obtain rfl : g4 = 5 := (Option.some.inj ((show Tryz.prog.globalNamed "strconv.ErrRange" = some 5 by kernel_rfl).symm.trans hg4)).symm
 obtain rfl : t4 = 117 := (Option.some.inj ((show (Tryz.prog.globals[5]?).map (·.type) = some 117 by kernel_rfl).symm.trans ht4)).symm
 have e1 : Lib.TabIs Tryz.prog W "internal/strconv.uint64pow10" .u64 Lib.pow10Tab := tab_var40 (t := 220) (e := 132) (m := 20) (by kernel_rfl) (by kernel_rfl) (by kernel_rfl) (by kernel_rfl) hv2 hd2
 have e2 : Lib.TabIs Tryz.prog W "strings.asciiSpace" .u8 Lib.asciiSpaceTab := tab_var40 (t := 136) (e := 5) (m := 256) (by kernel_rfl) (by kernel_rfl) (by kernel_rfl) (by kernel_rfl) hv7 hd7
 obtain ⟨tp1, v1, e3⟩ := iface_var40 Tryz.underlying117 hv5 hd5;obtain ⟨tp2, v2, e4⟩ := iface_var40 Tryz.underlying117 hv4 hd4;obtain ⟨m, e5⟩ := cell_of_shapedOpen_int (g := 3) (t := 3) (k := .i64) hsh (of_decide_eq_true (by kernel_rfl)) (zero := #[.int .i64 0]) (by kernel_rfl) rfl (by kernel_rfl) (by kernel_rfl) (by kernel_rfl);intro V hV;exact ⟨Lib.tabBelow_of_tabIs e1 V hV, Lib.tabBelow_of_tabIs e2 V hV, ⟨m, (hV.cell (p := ⟨3, 0, none⟩) (World.block_lt_of_cell? _ _ e5)).trans e5⟩, ⟨tp1, v1, var_below40 e3 hV⟩, ⟨tp2, v2, var_below40 e4 hV⟩⟩
end Go.Proofs.YtpmnjojednbnpaaGreatDoor
end
