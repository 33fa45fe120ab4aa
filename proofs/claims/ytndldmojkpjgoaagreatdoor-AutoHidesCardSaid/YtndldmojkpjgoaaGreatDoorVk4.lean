/- AutoHides holds of the program: the walks of its reference, its law and the program's Hide, and the card. -/
import Derived.Test.YtndldmojkpjgoaaGreatDoorVk3
set_option maxRecDepth 100000
namespace Go.Proofs.YtndldmojkpjgoaaGreatDoor
section
open Go Sym
theorem yy : bk Tryz.prog 69 = true:=by kernel_rfl
theorem en_of : bk Tryz.prog 72 = true:=by kernel_rfl
structure SV where
 fs : Value
 ls : Value
abbrev srX (b L : Nat) (V : SV) : Ow:=oX 143 b 3 [Vi L,V.fs,V.ls]
abbrev srR (b L : Nat) (fs ls : List Nat) (V : SV) : List Ow:=[srX b L V,oS V.fs fs,oS V.ls ls]
section
variable {base : Nat} {w0 w : World} {b L tot sb : Nat} {g : GP} {gv : GV} {fs ls : List Nat} {rest : List Ow} {lfs cfs gfs : Nat}
variable {vls : Value}
theorem src_r5 (h : Hold base w0 w (srR sb L fs ls ⟨Vs gfs lfs cfs,vls⟩ ++ (grR b L tot g gv ++ rest))) {i x : Nat} {vx : Value} {n : Nat} (hx : x * L ≤ 100000000) (hL : 0 < L) (hi : i ≤ 100000000) (hk : x * L + i % L < fs.length) (hv : gt fs (x * L + i % L) < 100000000) (hLL : L ≤ 300) {Q : Exit → Act → World → Prop} {a : Act} {ops : Array Oper} {id : Nat} (hops : Sym.da Tryz.f69.body 5 = some (id,ops))
  (hS : St Tryz.f69.ntmps a [(0,Vp b),(3,Vp sb),(4,Vi i),(5,.int .i32 (x : Int)),(32,vx),(33,Vi n),(34,Vi i)])
  (hq : ∀ a' w',St Tryz.f69.ntmps a' [(0,Vp b),(3,Vp sb),(32,vx),(33,Vi n),(34,Vi i)] → Hold base w0 w' (srR sb L (fs.set (x * L + i % L) (gt fs (x * L + i % L) + 1)) ls ⟨Vs gfs lfs cfs,vls⟩ ++ (grR b L tot g gv ++ rest)) → Q .normal a' w') : (Code.region id ops true).wp Tryz.prog Q a w:=by
 cases hops
 refine d5 22 [(0,Vp b),(3,Vp sb),(32,vx),(33,Vi n),(34,Vi i)] (fun w'=>Hold base w0 w' (srR sb L (fs.set (x * L + i % L) (gt fs (x * L + i % L) + 1)) ls ⟨Vs gfs lfs cfs,vls⟩ ++ (grR b L tot g gv ++ rest))) dc hS ?_ hq;have hy : RowKit.Below w.drew.heap.size w.drew w.drew:=RowKit.Below.refl _ _;have hD:=h.drew;have hx1 : x ≤ 100000000:=Nat.le_trans (Nat.le_mul_of_pos_right x hL) hx;have hm : i % L < L:=Nat.mod_lt _ hL
 have hrem : ((i : Int)).tmod (L : Int) = ((i % L : Nat) : Int):=by
  rw [Int.tmod_eq_emod_of_nonneg (by omega)]; rfl
 have hc:=hD.r.cS (i:=1) rfl hk;have hlen:=hD.r.lenV (i:=1) rfl;refine yT 0 af rfl (by kernel_rfl) hy rfl (rfl) ?_;refine yT 1 af rfl (by kernel_rfl) hy rfl (rfl) ?_;refine yT 2 af rfl (by kernel_rfl) hy rfl (rfl) ?_;refine yL 3 af rfl (by kernel_rfl) hy rfl rfl (hD.r.xcell (i:=0) rfl (j:=1) rfl) ?_;refine yT 4 af rfl (by kernel_rfl) hy rfl (rfl) ?_;refine yT 5 af rfl (by kernel_rfl) hy rfl (exI _ (anI (lg x (by omega)) rfl)) ?_;refine yT 6 af rfl (by kernel_rfl) hy rfl (rfl) ?_;refine yT 7 af rfl (by kernel_rfl) hy rfl (rfl) ?_;refine yT 8 af rfl (by kernel_rfl) hy rfl (rfl) ?_;refine yL 9 af rfl (by kernel_rfl) hy rfl rfl (hD.r.xcell (i:=3) rfl (j:=0) rfl) ?_;refine yT 10 af rfl (by kernel_rfl) hy rfl (exI _ (anI (lz _ _ (by omega)) rfl)) ?_;refine yT 11 af rfl (by kernel_rfl) hy rfl (rfl) ?_;refine yT 12 af rfl (by kernel_rfl) hy rfl (rfl) ?_;refine yT 13 af rfl (by kernel_rfl) hy rfl (rfl) ?_;refine yT 14 af rfl (by kernel_rfl) hy rfl (rfl) ?_;refine yL 15 af rfl (by kernel_rfl) hy rfl rfl (hD.r.xcell (i:=3) rfl (j:=0) rfl) ?_;refine yT 16 af rfl (by kernel_rfl) hy rfl (anI (by omega) (exI _ (anI hrem rfl))) ?_;have hadd : IntKind.i32.wrap ((gt fs (x * L + i % L) : Int) + 1) = ((gt fs (x * L + i % L) + 1 : Nat) : Int):=pk (gt fs (x * L + i % L) + 1) (by omega);refine yT 17 af rfl (by kernel_rfl) hy rfl (exI _ (anI (bm _ _ (by omega)) rfl)) ?_;refine yT 18 af rfl (by kernel_rfl) hy rfl (exI _ (anI (rfl) (anI ((by rw [hlen]; exact hk)) rfl))) ?_;refine yL 19 af rfl (by kernel_rfl) hy rfl rfl (hc) ?_;refine yT 20 af rfl (by kernel_rfl) hy rfl (exI _ (anI (hadd) rfl)) ?_;refine yT 21 af rfl (by kernel_rfl) hy rfl (exI _ (anI (rfl) (anI ((by rw [hlen]; exact hk)) rfl))) ?_;refine bo 22 (by kernel_rfl) (ew 22 af rfl rfl rfl ?_);refine anI rfl (anI rfl (anI ⟨_,hc⟩ (anI (hD.r.free (i:=1) rfl _) (anI (.inl (by kernel_rfl)) ?_))));exact iq (by kernel_rfl) ⟨rfl,rfl,rfl,rfl,rfl,trivial⟩ (hD.storeS (i:=1) rfl (x * L + i % L) _)
theorem src_r10 (h : Hold base w0 w (srR sb L fs ls ⟨Vs gfs lfs cfs,vls⟩ ++ (grR b L tot g gv ++ rest))) {j n : Nat} {vx : Value} (hj : j + 1 < fs.length) (hv : gt fs (j + 1) + gt fs j ≤ 100000000) (hfl : fs.length ≤ 100000000) {Q : Exit → Act → World → Prop} {a : Act} {ops : Array Oper} {id : Nat} (hops : Sym.da Tryz.f69.body 10 = some (id,ops))
  (hS : St Tryz.f69.ntmps a [(0,Vp b),(3,Vp sb),(6,Vi j),(65,vx),(66,Vi n),(67,Vi j)])
  (hq : ∀ a' w',St Tryz.f69.ntmps a' [(0,Vp b),(3,Vp sb),(65,vx),(66,Vi n),(67,Vi j)] → Hold base w0 w' (srR sb L (fs.set (j + 1) (gt fs (j + 1) + gt fs j)) ls ⟨Vs gfs lfs cfs,vls⟩ ++ (grR b L tot g gv ++ rest)) → Q .normal a' w') : (Code.region id ops true).wp Tryz.prog Q a w:=by
 cases hops
 refine d5 17 [(0,Vp b),(3,Vp sb),(65,vx),(66,Vi n),(67,Vi j)] (fun w'=>Hold base w0 w' (srR sb L (fs.set (j + 1) (gt fs (j + 1) + gt fs j)) ls ⟨Vs gfs lfs cfs,vls⟩ ++ (grR b L tot g gv ++ rest))) dc hS ?_ hq;have hy : RowKit.Below w.drew.heap.size w.drew w.drew:=RowKit.Below.refl _ _;have hD:=h.drew;have hlen:=hD.r.lenV (i:=1) rfl;have hc1:=hD.r.cS (i:=1) rfl hj;have hc2:=hD.r.cS (i:=1) rfl (j:=j) (by omega);have hadd : IntKind.i32.wrap ((gt fs (j + 1) : Int) + (gt fs j : Int)) = ((gt fs (j + 1) + gt fs j : Nat) : Int):=by rw [← Int.natCast_add]; exact pk _ (by omega)
 refine yT 0 af rfl (by kernel_rfl) hy rfl (rfl) ?_;refine yT 1 af rfl (by kernel_rfl) hy rfl (rfl) ?_;refine yT 2 af rfl (by kernel_rfl) hy rfl (rfl) ?_;refine yL 3 af rfl (by kernel_rfl) hy rfl rfl (hD.r.xcell (i:=0) rfl (j:=1) rfl) ?_;refine yT 4 af rfl (by kernel_rfl) hy rfl (rfl) ?_;refine yT 5 af rfl (by kernel_rfl) hy rfl (exI _ (anI (bm j 1 (by omega)) rfl)) ?_;refine yT 6 af rfl (by kernel_rfl) hy rfl (exI _ (anI (rfl) (anI ((by rw [hlen]; exact hj)) rfl))) ?_;refine yL 7 af rfl (by kernel_rfl) hy rfl rfl (hc1) ?_;refine yT 8 af rfl (by kernel_rfl) hy rfl (rfl) ?_;refine yT 9 af rfl (by kernel_rfl) hy rfl (rfl) ?_;refine yT 10 af rfl (by kernel_rfl) hy rfl (rfl) ?_;refine yL 11 af rfl (by kernel_rfl) hy rfl rfl (hD.r.xcell (i:=0) rfl (j:=1) rfl) ?_;refine yT 12 af rfl (by kernel_rfl) hy rfl (rfl) ?_;refine yT 13 af rfl (by kernel_rfl) hy rfl (exI _ (anI (rfl) (anI ((by rw [hlen]; omega)) rfl))) ?_;refine yL 14 af rfl (by kernel_rfl) hy rfl rfl (hc2) ?_;refine yT 15 af rfl (by kernel_rfl) hy rfl (exI _ (anI (hadd) rfl)) ?_;refine yT 16 af rfl (by kernel_rfl) hy rfl (exI _ (anI (rfl) (anI ((by rw [hlen]; exact hj)) rfl))) ?_;refine bo 17 (by kernel_rfl) (ew 17 af rfl rfl rfl ?_);refine anI rfl (anI rfl (anI ⟨_,hc1⟩ (anI (hD.r.free (i:=1) rfl _) (anI (.inl (by kernel_rfl)) ?_))));exact iq (by kernel_rfl) ⟨rfl,rfl,rfl,rfl,rfl,trivial⟩ (hD.storeS (i:=1) rfl (j + 1) _)
theorem src_r20 (h : Hold base w0 w (srR sb L fs ls ⟨Vs gfs lfs cfs,vls⟩ ++ (grR b L tot g gv ++ rest))) {i n s c : Nat} (hi : i < fs.length) (hv : gt fs i < ls.length) (hs : s ≤ 100000000) {Q : Exit → Act → World → Prop} {a : Act} {ops : Array Oper} {id : Nat} (hops : Sym.da Tryz.f69.body 20 = some (id,ops))
  (hS : St Tryz.f69.ntmps a [(0,Vp b),(3,Vp sb),(9,Vi i),(7,Vi s),(8,Vi c),(92,Vi n),(93,Vi s),(99,Vi L),(100,Vi c)])
  (hq : ∀ a' w',St Tryz.f69.ntmps a' [(0,Vp b),(3,Vp sb),(7,Vi s),(8,Vi c),(92,Vi n),(93,Vi s),(99,Vi L),(100,Vi c)] → Hold base w0 w' (srR sb L fs (ls.set (gt fs i) s) ⟨Vs gfs lfs cfs,vls⟩ ++ (grR b L tot g gv ++ rest)) → Q .normal a' w') : (Code.region id ops true).wp Tryz.prog Q a w:=by
 cases hops
 refine d5 14 [(0,Vp b),(3,Vp sb),(7,Vi s),(8,Vi c),(92,Vi n),(93,Vi s),(99,Vi L),(100,Vi c)] (fun w'=>Hold base w0 w' (srR sb L fs (ls.set (gt fs i) s) ⟨Vs gfs lfs cfs,vls⟩ ++ (grR b L tot g gv ++ rest))) dc hS ?_ hq;have hy : RowKit.Below w.drew.heap.size w.drew w.drew:=RowKit.Below.refl _ _;have hD:=h.drew;obtain ⟨gls,cls,rfl,-⟩:=hD.r.nilOr (i:=2) rfl (by omega);have hlen:=hD.r.lenV (i:=1) rfl;have hlen2:=hD.r.lenV (i:=2) rfl;have hc1:=hD.r.cS (i:=1) rfl hi;have hc2:=hD.r.cS (i:=2) rfl hv;refine yT 0 af rfl (by kernel_rfl) hy rfl (rfl) ?_;refine yT 1 af rfl (by kernel_rfl) hy rfl (rfl) ?_;refine yT 2 af rfl (by kernel_rfl) hy rfl (rfl) ?_;refine yL 3 af rfl (by kernel_rfl) hy rfl rfl (hD.r.xcell (i:=0) rfl (j:=2) rfl) ?_;refine yT 4 af rfl (by kernel_rfl) hy rfl (rfl) ?_;refine yT 5 af rfl (by kernel_rfl) hy rfl (rfl) ?_;refine yT 6 af rfl (by kernel_rfl) hy rfl (rfl) ?_;refine yL 7 af rfl (by kernel_rfl) hy rfl rfl (hD.r.xcell (i:=0) rfl (j:=1) rfl) ?_;refine yT 8 af rfl (by kernel_rfl) hy rfl (rfl) ?_;refine yT 9 af rfl (by kernel_rfl) hy rfl (exI _ (anI (rfl) (anI ((by rw [hlen]; exact hi)) rfl))) ?_;refine yL 10 af rfl (by kernel_rfl) hy rfl rfl (hc1) ?_;refine yT 11 af rfl (by kernel_rfl) hy rfl (rfl) ?_;refine yT 12 af rfl (by kernel_rfl) hy rfl (exI _ (anI (pk s (by omega)) rfl)) ?_;refine yT 13 af rfl (by kernel_rfl) hy rfl (exI _ (anI (rfl) (anI ((by rw [hlen2]; exact hv)) rfl))) ?_;refine bo 14 (by kernel_rfl) (ew 14 af rfl rfl rfl ?_);refine anI rfl (anI rfl (anI ⟨_,hc2⟩ (anI (hD.r.free (i:=2) rfl _) (anI (.inl (by kernel_rfl)) ?_))));exact iq (by kernel_rfl) ⟨rfl,rfl,rfl,rfl,rfl,rfl,rfl,rfl,trivial⟩ (hD.storeS (i:=2) rfl (gt fs i) s)
theorem src_r19 (h : Hold base w0 w (srR sb L fs ls ⟨Vs gfs lfs cfs,vls⟩ ++ (grR b L tot g gv ++ rest))) {i n s c : Nat} (hi : i < fs.length) (hv : 0 < gt fs i) (hv2 : gt fs i ≤ 100000000) {Q : Exit → Act → World → Prop} {a : Act} {ops : Array Oper} {id : Nat} (hops : Sym.da Tryz.f69.body 19 = some (id,ops))
  (hS : St Tryz.f69.ntmps a [(0,Vp b),(3,Vp sb),(9,Vi i),(7,Vi s),(8,Vi c),(92,Vi n),(93,Vi s),(99,Vi L),(100,Vi c)])
  (hq : ∀ a' w',St Tryz.f69.ntmps a' [(0,Vp b),(3,Vp sb),(9,Vi i),(7,Vi s),(8,Vi c),(92,Vi n),(93,Vi s),(99,Vi L),(100,Vi c)] → Hold base w0 w' (srR sb L (fs.set i (gt fs i - 1)) ls ⟨Vs gfs lfs cfs,vls⟩ ++ (grR b L tot g gv ++ rest)) → Q .normal a' w') : (Code.region id ops false).wp Tryz.prog Q a w:=by
 cases hops
 refine ai [(0,Vp b),(3,Vp sb),(9,Vi i),(7,Vi s),(8,Vi c),(92,Vi n),(93,Vi s),(99,Vi L),(100,Vi c)] (fun w'=>Hold base w0 w' (srR sb L (fs.set i (gt fs i - 1)) ls ⟨Vs gfs lfs cfs,vls⟩ ++ (grR b L tot g gv ++ rest))) af hS ?_ hq;have hlen:=h.r.lenV (i:=1) rfl;have hc1:=h.r.cS (i:=1) rfl hi
 have hsub : IntKind.i32.wrap ((gt fs i : Int) - 1) = ((gt fs i - 1 : Nat) : Int):=by
  rw [show (gt fs i : Int) - 1 = ((gt fs i - 1 : Nat) : Int) by omega]; exact pk _ (by omega)
 repeat refine zX rfl ?_
 refine zL rfl (h.r.xcell (i:=0) rfl (j:=1) rfl) ?_
 repeat refine zX rfl ?_
 refine zI rfl (rfl) ((by rw [hlen]; exact hi)) ?_;refine zL rfl (hc1) ?_;refine zN rfl (hsub) ?_;refine zI rfl (rfl) ((by rw [hlen]; exact hi)) ?_;refine zS rfl rfl (hc1) (h.r.free (i:=1) rfl _) ?_;exact aj ⟨⟨rfl,rfl,rfl,rfl,rfl,rfl,rfl,rfl,rfl,trivial⟩,h.storeS (i:=1) rfl i _⟩
end
section
variable {base : Nat} {w0 w : World} {b L tot sb : Nat} {g : GP} {gv : GV} {fs ls : List Nat} {rest : List Ow} {N : Nat}
theorem wg (h : Hold base w0 w (grR b L tot g gv ++ rest)) (hg : Gr N L g.nx g.en) (hN : N ≤ 100000) (hL : L ≤ 300) :
  Calls Tryz.prog 69 #[Vp b] w fun e w'=>∃ sb fs ls V,e = .returned (Vp sb) ∧ SrcOk N L g.nx fs ls ∧ Hold base w0 w' (srR sb L fs ls V ++ (grR b L tot g gv ++ rest)):=by
 obtain ⟨vst,vnx,ven⟩:=gv;refine Sym.c8 (args:=[Vp b]) Tryz.func69 rfl rfl rfl (fun a0 hS0=>?_);have hE : N * L ≤ 100000 * 300:=Nat.mul_le_mul hN hL;have hlen:=hg.len;obtain ⟨E,hEE⟩ : ∃ E,E = N * L:=⟨_,rfl⟩;rw [← hEE] at hE hlen;obtain ⟨gn,cn,rfl,-⟩:=h.r.any (i:=2) rfl;obtain ⟨ge,ce,rfl,-⟩:=h.r.any (i:=3) rfl;refine wp_seq (ai [(0,Vp b)] (· = w) af hS0 ?_ (fun a w1 hS hw=>?_))
 ·repeat refine zX rfl ?_
  exact aj ⟨⟨rfl,trivial⟩,rfl⟩
 subst hw;refine wp_seq (ep (α:=Nat × SV) 20 (fun x=>[(0,Vp b),(3,Vp x.1)]) (fun x w'=>Hold base w0 w' (srR x.1 L (List.replicate (g.nx.length + 1) 0) (List.replicate g.nx.length 0) x.2 ++ (grR b L tot g ⟨vst,.slice gn g.nx.length cn,.slice ge g.en.length ce⟩ ++ rest))) dc hS ?_ (fun x a w2 hS h=>?_))
 ·have hy : RowKit.Below w1.drew.heap.size w1.drew w1.drew:=RowKit.Below.refl _ _;have hD:=h.drew;refine yT 0 af rfl (by kernel_rfl) hy rfl (rfl) ?_;refine yT 1 af rfl (by kernel_rfl) hy rfl (rfl) ?_;refine yT 2 af rfl (by kernel_rfl) hy rfl (rfl) ?_;refine yL 3 af rfl (by kernel_rfl) hy rfl rfl (hD.r.xcell (i:=0) rfl (j:=0) rfl) ?_;refine yT 4 af rfl (by kernel_rfl) hy rfl (rfl) ?_;refine yT 5 af rfl (by kernel_rfl) hy rfl (rfl) ?_;refine yT 6 af rfl (by kernel_rfl) hy rfl (rfl) ?_;refine yL 7 af rfl (by kernel_rfl) hy rfl rfl (hD.r.xcell (i:=0) rfl (j:=2) rfl) ?_;refine yT 8 af rfl (by kernel_rfl) hy rfl (rfl) ?_;refine yT 9 af rfl (by kernel_rfl) hy rfl (exI _ (anI (bm _ 1 (by omega)) rfl)) ?_;refine yT 11 af rfl (by kernel_rfl) hy rfl (rfl) ?_;refine yT 12 af rfl (by kernel_rfl) hy rfl (rfl) ?_;refine yT 13 af rfl (by kernel_rfl) hy rfl (rfl) ?_;refine yL 14 af rfl (by kernel_rfl) hy rfl rfl (hD.r.xcell (i:=0) rfl (j:=2) rfl) ?_;refine yT 15 af rfl (by kernel_rfl) hy rfl (rfl) ?_;refine v7 10 16 (by kernel_rfl) (y_op 10 af rfl rfl rfl rfl ?_) (y_op 16 af rfl rfl rfl rfl ?_)
  ·refine exI (g.nx.length + 1) (exI (g.nx.length + 1) (anI rfl (anI rfl (anI (Nat.le_refl _) (anI rfl (anI rfl (anI (by show 4 * _ ≤ _; omega) (anI (by omega) ?_))))))));have h1:=hD.makeS (n:=g.nx.length + 1) (by omega);have hy1:=hy.alloc hy.size (.cells (madeCells #[.int .i32 0] (g.nx.length + 1)) 21);refine anI (.inr hy1) ?_;refine bo 16 (by kernel_rfl) (y_op 16 af rfl rfl rfl rfl ?_);refine exI (g.nx.length) (exI (g.nx.length) (anI rfl (anI rfl (anI (Nat.le_refl _) (anI rfl (anI rfl (anI (by show 4 * _ ≤ _; omega) (anI (by omega) ?_))))))));have h2:=h1.makeS (n:=g.nx.length) (by omega);have hy2:=hy1.alloc hy1.size (.cells (madeCells #[.int .i32 0] (g.nx.length)) 21);refine anI (.inr hy2) ?_;refine yT 17 af rfl (by kernel_rfl) hy2 rfl (rfl) ?_;refine bo 18 (by kernel_rfl) (y_op 18 af rfl rfl rfl rfl ?_);have h3:=h2.box (T:=143) (k:=3) #[Vi L,(Vs w1.drew.heap.size (g.nx.length + 1) (g.nx.length + 1)),(Vs (w1.drew.alloc (.cells (madeCells #[.int .i32 0] (g.nx.length + 1)) 21)).heap.size g.nx.length g.nx.length)] rfl;have hy3:=hy2.alloc hy2.size (.cells #[Vi L,(Vs w1.drew.heap.size (g.nx.length + 1) (g.nx.length + 1)),(Vs (w1.drew.alloc (.cells (madeCells #[.int .i32 0] (g.nx.length + 1)) 21)).heap.size g.nx.length g.nx.length)] 143);refine anI (.inr hy3) ?_;refine yT 19 af rfl (by kernel_rfl) hy3 rfl (rfl) ?_;refine fc (((w1.drew.alloc (.cells (madeCells #[.int .i32 0] (g.nx.length + 1)) 21)).alloc (.cells (madeCells #[.int .i32 0] g.nx.length) 21)).heap.size,⟨(Vs w1.drew.heap.size (g.nx.length + 1) (g.nx.length + 1)),(Vs (w1.drew.alloc (.cells (madeCells #[.int .i32 0] (g.nx.length + 1)) 21)).heap.size g.nx.length g.nx.length)⟩) (by kernel_rfl) ⟨rfl,rfl,trivial⟩ (h3.perm ?_);exact .cons _ (.swap _ _ _)
  ·refine exI (g.nx.length) (exI (g.nx.length) (anI rfl (anI rfl (anI (Nat.le_refl _) (anI rfl (anI rfl (anI (by show 4 * _ ≤ _; omega) (anI (by omega) ?_))))))));have h1:=hD.makeS (n:=g.nx.length) (by omega);have hy1:=hy.alloc hy.size (.cells (madeCells #[.int .i32 0] g.nx.length) 21);refine anI (.inr hy1) ?_;refine bo 10 (by kernel_rfl) (y_op 10 af rfl rfl rfl rfl ?_);refine exI (g.nx.length + 1) (exI (g.nx.length + 1) (anI rfl (anI rfl (anI (Nat.le_refl _) (anI rfl (anI rfl (anI (by show 4 * _ ≤ _; omega) (anI (by omega) ?_))))))));have h2:=h1.makeS (n:=g.nx.length + 1) (by omega);have hy2:=hy1.alloc hy1.size (.cells (madeCells #[.int .i32 0] (g.nx.length + 1)) 21);refine anI (.inr hy2) ?_;refine yT 17 af rfl (by kernel_rfl) hy2 rfl (rfl) ?_;refine bo 18 (by kernel_rfl) (y_op 18 af rfl rfl rfl rfl ?_);have h3:=h2.box (T:=143) (k:=3) #[Vi L,(Vs (w1.drew.alloc (.cells (madeCells #[.int .i32 0] g.nx.length) 21)).heap.size (g.nx.length + 1) (g.nx.length + 1)),(Vs w1.drew.heap.size g.nx.length g.nx.length)] rfl;have hy3:=hy2.alloc hy2.size (.cells #[Vi L,(Vs (w1.drew.alloc (.cells (madeCells #[.int .i32 0] g.nx.length) 21)).heap.size (g.nx.length + 1) (g.nx.length + 1)),(Vs w1.drew.heap.size g.nx.length g.nx.length)] 143);refine anI (.inr hy3) ?_;refine yT 19 af rfl (by kernel_rfl) hy3 rfl (rfl) ?_;exact fc (((w1.drew.alloc (.cells (madeCells #[.int .i32 0] g.nx.length) 21)).alloc (.cells (madeCells #[.int .i32 0] (g.nx.length + 1)) 21)).heap.size,⟨(Vs (w1.drew.alloc (.cells (madeCells #[.int .i32 0] g.nx.length) 21)).heap.size (g.nx.length + 1) (g.nx.length + 1)),(Vs w1.drew.heap.size g.nx.length g.nx.length)⟩) (by kernel_rfl) ⟨rfl,rfl,trivial⟩ h3
 obtain ⟨sb,⟨vfs,vls⟩⟩:=x;simp only at hS h;rw [hlen] at h;obtain ⟨gfs,cfs,rfl,-⟩:=h.r.nilOr (i:=1) rfl (by simp);have hk : ∀ a,a < E → keyG g.nx L a < E:=fun a ha=>by rw [hEE]; exact keyG_lt hg (by rw [← hEE]; exact ha)
 obtain ⟨lfs,hlfs⟩ : ∃ x,x = (List.replicate (E + 1) 0).length:=⟨_,rfl⟩;rw [← hlfs] at h;obtain ⟨GVa,hGV⟩ : ∃ V : GV,V = ⟨vst,.slice gn E cn,.slice ge g.en.length ce⟩:=⟨_,rfl⟩;have hgl:=hg.enl;rw [hlen,← hGV];rw [← hGV] at h;refine wp_seq (cut (F:=fun a' w'=>St Tryz.f69.ntmps a' [(0,Vp b),(3,Vp sb)] ∧ ∃ fs,CntS (keyG g.nx L) E E fs ∧ Hold base w0 w' (srR sb L fs (List.replicate E 0) ⟨Vs gfs lfs cfs,vls⟩ ++ (grR b L tot g GVa ++ rest))) ?_ ?_)
 ·refine wp_seq (ai [(0,Vp b),(3,Vp sb),(32,.slice gn E cn),(33,Vi E),(34,Vi (0 : Nat))] (· = w2) af hS ?_ (fun a w3 hS hw=>?_))
  ·subst hGV
   repeat refine zX rfl ?_
   refine zL rfl (h.r.xcell (i:=3) rfl (j:=2) rfl) ?_
   repeat refine zX rfl ?_
   exact aj ⟨⟨rfl,rfl,rfl,rfl,rfl,trivial⟩,rfl⟩
  subst hw
  refine wp_block (cz hS (fun γ E' w'=>∃ (k : Nat) (fs : List Nat),k ≤ E ∧ γ = E - k ∧ E' = [(0,Vp b),(3,Vp sb),(32,.slice gn E cn),(33,Vi E),(34,Vi k)] ∧ CntS (keyG g.nx L) E k fs ∧ Hold base w0 w' (srR sb L fs (List.replicate E 0) ⟨Vs gfs lfs cfs,vls⟩ ++ (grR b L tot g GVa ++ rest))) E
   ⟨0,_,by omega,by omega,rfl,⟨by simp,fun i hi=>by rw [sr (by omega)]; rfl⟩,h⟩ ?_)
  clear h hS;rintro γ E' w4 a ⟨k,fs,hk1,rfl,rfl,hC,h⟩ hS;refine wp_seq (ai [(0,Vp b),(3,Vp sb),(32,.slice gn E cn),(33,Vi E),(34,Vi k),(35,.bool (decide (k < E)))] (· = w4) af hS ?_ (fun a w5 hS hw=>?_))
  ·repeat refine zX rfl ?_
   refine zC rfl (co _ _) ?_
   repeat refine zX rfl ?_
   exact aj ⟨⟨rfl,rfl,rfl,rfl,rfl,rfl,trivial⟩,rfl⟩
  subst hw;refine wp_seq (cond hS rfl (fun hT=>wp_skip ?_) (fun hF=>?_))
  rotate_left
  ·have hkk : k = E:=by have:=of_decide_eq_false hF; omega
   subst hkk;refine wp_exit ?_
   repeat first|refine bf ?_|refine ba ?_|refine az rfl ?_
   exact ⟨hS.sub ⟨rfl,rfl,trivial⟩,fs,hC,h⟩
  have hkk : k < E:=of_decide_eq_true hT;have hkey:=hk k hkk
  have hL0 : 0 < L:=by
   rcases Nat.eq_zero_or_pos L with h | h
   ·subst h; omega
   ·exact h
  have hx : gt g.nx k < N:=by
   have h1:=hg.lt (k / L) (k % L) (Nat.div_lt_of_lt_mul (by rw [Nat.mul_comm,← hEE]; exact hkk)) (Nat.mod_lt _ hL0)
   rwa [show k / L * L + k % L = k by rw [Nat.mul_comm]; exact Nat.div_add_mod k L] at h1
  have hxL : gt g.nx k * L ≤ N * L:=Nat.mul_le_mul_right _ (by omega);refine wp_seq (wp_block (wp_seq (ai [(0,Vp b),(3,Vp sb),(4,Vi k),(5,.int .i32 (gt g.nx k : Int)),(32,.slice gn E cn),(33,Vi E),(34,Vi k)] (· = w5) af hS ?_ (fun a w6 hS hw=>?_))))
  ·subst hGV;obtain ⟨gn',cn',e,-⟩:=h.r.nilOr (i:=5) rfl (by omega);simp only [Value.slice.injEq] at e;obtain ⟨rfl,-,rfl⟩:=e;have hc:=h.r.cS (i:=5) rfl (j:=k) (by omega)
   repeat refine zX rfl ?_
   refine zI rfl (rfl) (hkk) ?_;refine zL rfl (hc) ?_
   repeat refine zX rfl ?_
   exact aj ⟨⟨rfl,rfl,rfl,rfl,rfl,rfl,rfl,trivial⟩,rfl⟩
  subst hw;have hfl:=hC.fl
  have hval : gt fs (keyG g.nx L k) ≤ k:=by
   rw [hC.f _ (by omega)]; exact Nat.le_trans (na _ _) (y5 _ _)
  refine src_r5 h (by omega) hL0 (by omega) (show keyG g.nx L k < _ by omega) (show gt fs (keyG g.nx L k) < _ by omega) hL (by rfl) hS (fun a w7 hS h=>?_);refine ay ?_;refine ai [(0,Vp b),(3,Vp sb),(32,.slice gn E cn),(33,Vi E),(34,Vi (k + 1 : Nat))] (· = w7) af hS ?_ (fun a w8 hS hw=>?_)
  ·repeat refine zX rfl ?_
   refine zN rfl (bm _ 1 (by omega)) ?_
   repeat refine zX rfl ?_
   exact aj ⟨⟨rfl,rfl,rfl,rfl,rfl,trivial⟩,rfl⟩
  subst hw;exact ⟨E - (k + 1),_,by omega,⟨k + 1,_,by omega,rfl,rfl,hC.step hkey,h⟩,hS⟩
 clear h hS;rintro a w3 ⟨hS,fs,hC,h⟩;have hS1:=hC.sum;refine wp_seq (cut (F:=fun a' w'=>St Tryz.f69.ntmps a' [(0,Vp b),(3,Vp sb)] ∧ ∃ fs,SumS (keyG g.nx L) E E fs ∧ Hold base w0 w' (srR sb L fs (List.replicate E 0) ⟨Vs gfs lfs cfs,vls⟩ ++ (grR b L tot g GVa ++ rest))) ?_ ?_)
 ·refine wp_seq (ai [(0,Vp b),(3,Vp sb),(65,.slice gn E cn),(66,Vi E),(67,Vi (0 : Nat))] (· = w3) af hS ?_ (fun a w4 hS hw=>?_))
  ·subst hGV
   repeat refine zX rfl ?_
   refine zL rfl (h.r.xcell (i:=3) rfl (j:=2) rfl) ?_
   repeat refine zX rfl ?_
   exact aj ⟨⟨rfl,rfl,rfl,rfl,rfl,trivial⟩,rfl⟩
  subst hw
  refine wp_block (cz hS (fun γ E' w'=>∃ (k : Nat) (fs : List Nat),k ≤ E ∧ γ = E - k ∧ E' = [(0,Vp b),(3,Vp sb),(65,.slice gn E cn),(66,Vi E),(67,Vi k)] ∧ SumS (keyG g.nx L) E k fs ∧ Hold base w0 w' (srR sb L fs (List.replicate E 0) ⟨Vs gfs lfs cfs,vls⟩ ++ (grR b L tot g GVa ++ rest))) E
   ⟨0,_,by omega,by omega,rfl,hS1,h⟩ ?_)
  clear h hS hS1 hC;clear fs;rintro γ E' w5 a ⟨k,fs,hk1,rfl,rfl,hC,h⟩ hS;refine wp_seq (ai [(0,Vp b),(3,Vp sb),(65,.slice gn E cn),(66,Vi E),(67,Vi k),(68,.bool (decide (k < E)))] (· = w5) af hS ?_ (fun a w6 hS hw=>?_))
  ·repeat refine zX rfl ?_
   refine zC rfl (co _ _) ?_
   repeat refine zX rfl ?_
   exact aj ⟨⟨rfl,rfl,rfl,rfl,rfl,rfl,trivial⟩,rfl⟩
  subst hw;refine wp_seq (cond hS rfl (fun hT=>wp_skip ?_) (fun hF=>?_))
  rotate_left
  ·have hkk : k = E:=by have:=of_decide_eq_false hF; omega
   subst hkk;refine wp_exit ?_
   repeat first|refine bf ?_|refine ba ?_|refine az rfl ?_
   exact ⟨hS.sub ⟨rfl,rfl,trivial⟩,fs,hC,h⟩
  have hkk : k < E:=of_decide_eq_true hT;have hfl:=hC.fl
  have hval : gt fs (k + 1) + gt fs k ≤ E:=by
   rw [hC.hi (k + 1) (by omega) (by omega),hC.lo k (Nat.le_refl _),Nat.add_comm,← m8];exact y5 _ _
  refine wp_seq (wp_block (wp_seq (ai [(0,Vp b),(3,Vp sb),(6,Vi k),(65,.slice gn E cn),(66,Vi E),(67,Vi k)] (· = w6) af hS ?_ (fun a w7 hS hw=>?_))))
  ·repeat refine zX rfl ?_
   exact aj ⟨⟨rfl,rfl,rfl,rfl,rfl,rfl,trivial⟩,rfl⟩
  subst hw;refine src_r10 h (by omega) (by omega) (by omega) (by rfl) hS (fun a w8 hS h=>?_);refine ay ?_;refine ai [(0,Vp b),(3,Vp sb),(65,.slice gn E cn),(66,Vi E),(67,Vi (k + 1 : Nat))] (· = w8) af hS ?_ (fun a w9 hS hw=>?_)
  ·repeat refine zX rfl ?_
   refine zN rfl (bm _ 1 (by omega)) ?_
   repeat refine zX rfl ?_
   exact aj ⟨⟨rfl,rfl,rfl,rfl,rfl,trivial⟩,rfl⟩
  subst hw;exact ⟨E - (k + 1),_,by omega,⟨k + 1,_,by omega,rfl,rfl,hC.step hkk,h⟩,hS⟩
 clear h hS hS1 hC;clear fs;rintro a w4 ⟨hS,fs,hC,h⟩;have hF0:=hC.fill (L:=L);refine wp_seq (cut (F:=fun a' w'=>St Tryz.f69.ntmps a' [(0,Vp b),(3,Vp sb)] ∧ ∃ fs ls,FillS (keyG g.nx L) E L (N * L) fs ls ∧ Hold base w0 w' (srR sb L fs ls ⟨Vs gfs lfs cfs,vls⟩ ++ (grR b L tot g GVa ++ rest))) ?_ ?_)
 ·refine wp_seq (ai [(0,Vp b),(3,Vp sb),(92,Vi N),(93,Vi (0 : Nat))] (· = w4) af hS ?_ (fun a w5 hS hw=>?_))
  ·subst hGV;subst hgl
   repeat refine zX rfl ?_
   refine zL rfl (h.r.xcell (i:=3) rfl (j:=3) rfl) ?_
   repeat refine zX rfl ?_
   exact aj ⟨⟨rfl,rfl,rfl,rfl,trivial⟩,rfl⟩
  subst hw
  refine wp_block (cz hS (fun γ E' w'=>∃ (s : Nat) (fs ls : List Nat),s ≤ N ∧ γ = N - s ∧ E' = [(0,Vp b),(3,Vp sb),(92,Vi N),(93,Vi s)] ∧ FillS (keyG g.nx L) E L (s * L) fs ls ∧ Hold base w0 w' (srR sb L fs ls ⟨Vs gfs lfs cfs,vls⟩ ++ (grR b L tot g GVa ++ rest))) N
   ⟨0,_,_,by omega,by omega,rfl,by rw [Nat.zero_mul]; exact hF0,h⟩ ?_)
  clear h hS hC hF0;clear fs;rintro γ E' w6 a ⟨s,fs,ls,hs1,rfl,rfl,hC,h⟩ hS;refine wp_seq (ai [(0,Vp b),(3,Vp sb),(92,Vi N),(93,Vi s),(94,.bool (decide (s < N)))] (· = w6) af hS ?_ (fun a w7 hS hw=>?_))
  ·repeat refine zX rfl ?_
   refine zC rfl (co _ _) ?_
   repeat refine zX rfl ?_
   exact aj ⟨⟨rfl,rfl,rfl,rfl,rfl,trivial⟩,rfl⟩
  subst hw;refine wp_seq (cond hS rfl (fun hT=>wp_skip ?_) (fun hF=>?_))
  rotate_left
  ·have hss : s = N:=by have:=of_decide_eq_false hF; omega
   subst hss;refine wp_exit ?_
   repeat first|refine bf ?_|refine ba ?_|refine az rfl ?_
   exact ⟨hS.sub ⟨rfl,rfl,trivial⟩,fs,ls,hC,h⟩
  have hss : s < N:=of_decide_eq_true hT;refine wp_seq (wp_block (wp_seq (ai [(0,Vp b),(3,Vp sb),(7,Vi s),(92,Vi N),(93,Vi s)] (· = w7) af hS ?_ (fun a w8 hS hw=>?_))))
  ·repeat refine zX rfl ?_
   exact aj ⟨⟨rfl,rfl,rfl,rfl,rfl,trivial⟩,rfl⟩
  subst hw;refine wp_seq (ai [(0,Vp b),(3,Vp sb),(7,Vi s),(92,Vi N),(93,Vi s),(99,Vi L),(100,Vi (0 : Nat))] (· = w8) af hS ?_ (fun a w9 hS hw=>?_))
  ·repeat refine zX rfl ?_
   refine zL rfl (h.r.xcell (i:=3) rfl (j:=0) rfl) ?_
   repeat refine zX rfl ?_
   exact aj ⟨⟨rfl,rfl,rfl,rfl,rfl,rfl,rfl,trivial⟩,rfl⟩
  subst hw
  refine wp_block (cz hS (fun γ E' w'=>∃ (c : Nat) (fs ls : List Nat),c ≤ L ∧ γ = L - c ∧ E' = [(0,Vp b),(3,Vp sb),(7,Vi s),(92,Vi N),(93,Vi s),(99,Vi L),(100,Vi c)] ∧ FillS (keyG g.nx L) E L (s * L + c) fs ls ∧ Hold base w0 w' (srR sb L fs ls ⟨Vs gfs lfs cfs,vls⟩ ++ (grR b L tot g GVa ++ rest))) L
   ⟨0,_,_,by omega,by omega,rfl,hC,h⟩ ?_)
  clear h hS hC;clear fs ls;rintro γ E' w10 a ⟨c,fs,ls,hc1,rfl,rfl,hC,h⟩ hS;refine wp_seq (ai [(0,Vp b),(3,Vp sb),(7,Vi s),(92,Vi N),(93,Vi s),(99,Vi L),(100,Vi c),(101,.bool (decide (c < L)))] (· = w10) af hS ?_ (fun a w11 hS hw=>?_))
  ·repeat refine zX rfl ?_
   refine zC rfl (co _ _) ?_
   repeat refine zX rfl ?_
   exact aj ⟨⟨rfl,rfl,rfl,rfl,rfl,rfl,rfl,rfl,trivial⟩,rfl⟩
  subst hw;refine wp_seq (cond hS rfl (fun hT=>wp_skip ?_) (fun hF=>?_))
  rotate_left
  ·have hcc : c = L:=by have:=of_decide_eq_false hF; omega
   subst hcc;refine wp_exit ?_
   repeat first|refine bf ?_|refine ba ?_|refine az rfl ?_
   refine ay ?_;refine ai [(0,Vp b),(3,Vp sb),(92,Vi N),(93,Vi (s + 1 : Nat))] (· = w11) af hS ?_ (fun a w12 hS hw=>?_)
   ·repeat refine zX rfl ?_
    refine zN rfl (bm _ 1 (by omega)) ?_
    repeat refine zX rfl ?_
    exact aj ⟨⟨rfl,rfl,rfl,rfl,trivial⟩,rfl⟩
   subst hw;refine ⟨N - (s + 1),_,by omega,⟨s + 1,fs,ls,by omega,rfl,rfl,?_,h⟩,hS⟩;rw [Nat.succ_mul]; exact hC
  have hcc : c < L:=of_decide_eq_true hT
  have hkE : s * L + c < E:=by
   have : (s + 1) * L ≤ N * L:=Nat.mul_le_mul_right _ hss;rw [Nat.succ_mul] at this;omega
  obtain ⟨k,hkk⟩ : ∃ k,k = s * L + c:=⟨_,rfl⟩;have hd : dlG g.nx L s c < N:=hg.lt s c hss hcc
  have hkey : dlG g.nx L s c * L + c = keyG g.nx L k:=by
   unfold keyG;rw [hkk,(pack hcc).2]
  have hkeyE:=hk k (by omega);obtain ⟨i,hi⟩ : ∃ i,i = keyG g.nx L k:=⟨_,rfl⟩;have hdL : dlG g.nx L s c * L ≤ N * L:=Nat.mul_le_mul_right _ (by omega);refine wp_seq (wp_block (wp_seq (ai [(0,Vp b),(3,Vp sb),(7,Vi s),(8,Vi c),(92,Vi N),(93,Vi s),(99,Vi L),(100,Vi c)] (· = w11) af hS ?_ (fun a w12 hS hw=>?_))))
  ·repeat refine zX rfl ?_
   exact aj ⟨⟨rfl,rfl,rfl,rfl,rfl,rfl,rfl,rfl,trivial⟩,rfl⟩
  subst hw;refine wp_seq (b6 [(0,Vp b),(3,Vp sb),(9,Vi i),(7,Vi s),(8,Vi c),(92,Vi N),(93,Vi s),(99,Vi L),(100,Vi c)] af dc (by kernel_rfl) hS ?_ (fun a w13 hS hw=>?_))
  ·have hperm : ∀ w1,RowKit.Below w12.heap.size w12 w1 → Hold base w0 w1 (grR b L tot g GVa ++ (srR sb L fs ls ⟨Vs gfs lfs cfs,vls⟩ ++ rest)):=fun w1 h1=>(h.below h1).perm (by
    have:=(List.perm_append_comm (l₁:=srR sb L fs ls ⟨Vs gfs lfs cfs,vls⟩) (l₂:=grR b L tot g GVa)).append_right rest
    rwa [List.append_assoc,List.append_assoc] at this)
   have e2 : IntKind.i64.wrap (((dlG g.nx L s c * L : Nat) : Int) + (c : Int)) = (i : Int):=by
    rw [hi,← hkey]; exact bm _ _ (by omega)
   repeat refine qX rfl ?_
   refine qF (Vi (dlG g.nx L s c : Int)) rfl (m0) (fun w1 h1=>ky (hperm w1 h1) (by omega) (by omega) (by omega)) ?_
   repeat refine qX rfl ?_
   refine qL rfl (h.r.xcell (i:=3) rfl (j:=0) rfl) ?_;refine qN rfl (lz _ _ (by omega)) ?_
   repeat refine qX rfl ?_
   refine qN rfl (e2) ?_
   repeat refine qX rfl ?_
   exact fa ⟨rfl,rfl,rfl,rfl,rfl,rfl,rfl,rfl,rfl,trivial⟩
  replace h:=h.below hw;clear hw;rw [← hkk] at hC;have hat:=hC.at (by omega) hkeyE;have hfl:=hC.fl;have hll:=hC.ll;rw [← hi] at hat hkeyE;refine wp_seq (src_r19 h (by omega) hat.1 (by omega) (by rfl) hS (fun a w14 hS h=>?_));have hself : gt (fs.set i (gt fs i - 1)) i = gt fs i - 1:=by rw [fh,if_pos ⟨rfl,by omega⟩]
  refine src_r20 h (by rw [List.length_set]; omega) (by rw [hself]; omega) (by omega) (by rfl) hS (fun a w15 hS h=>?_);rw [hself] at h
  have hst:=hC.step (by omega) (by rw [← hi]; exact hkeyE) (fun a ha e e2=>by
   have e3 : a % L = k % L:=by
    have h1 : keyG g.nx L a % L = a % L:=(pack (Nat.mod_lt a (show 0 < L by omega))).2;have h2 : keyG g.nx L k % L = k % L:=(pack (Nat.mod_lt k (show 0 < L by omega))).2;rw [← h1,← h2,e]
   have h1:=Nat.div_add_mod a L;have h2:=Nat.div_add_mod k L;rw [e2,e3] at h1
   omega)
  rw [← hi,show k / L = s by rw [hkk]; exact (pack hcc).1] at hst;refine ay ?_;refine ai [(0,Vp b),(3,Vp sb),(7,Vi s),(92,Vi N),(93,Vi s),(99,Vi L),(100,Vi (c + 1 : Nat))] (· = w15) af hS ?_ (fun a w16 hS hw=>?_)
  ·repeat refine zX rfl ?_
   refine zN rfl (bm _ 1 (by omega)) ?_
   repeat refine zX rfl ?_
   exact aj ⟨⟨rfl,rfl,rfl,rfl,rfl,rfl,rfl,trivial⟩,rfl⟩
  subst hw;refine ⟨L - (c + 1),_,by omega,⟨c + 1,_,_,by omega,rfl,rfl,?_,h⟩,hS⟩;rw [← Nat.add_assoc,← hkk]; exact hst
 clear h hS hC hF0;clear fs;rintro a w5 ⟨hS,fs,ls,hC,h⟩;refine wp_seq (ai [(2,Vp sb)] (· = w5) af hS ?_ (fun a w6 hS hw=>?_))
 ·repeat refine zX rfl ?_
  exact aj ⟨⟨rfl,trivial⟩,rfl⟩
 subst hw;subst hEE;refine wp_ret ?_
 repeat first|refine a8 ?_|refine am ?_
 exact ret1 hS rfl rfl ⟨sb,fs,ls,_,rfl,agu hC,h⟩
theorem of_any {V : SV} {nx : List Nat} (h : Hold base w0 w (srR sb L fs ls V ++ rest)) (hs : SrcOk N L nx fs ls) (hN : N ≤ 100000) (hL : L ≤ 300) {t c : Nat} (ht : t < N) (hc : c < L) :
  Calls Tryz.prog 72 #[Vp sb,.int .i32 (t : Int),Vi c] w fun e w'=>(∃ ad cp,e = .returned (.slice ad (gt fs (t * L + c + 1) - gt fs (t * L + c)) cp) ∧ (gt fs (t * L + c) < gt fs (t * L + c + 1) → ∃ gl cl,V.ls = Vs gl ls.length cl ∧ ad = some ⟨gl,gt fs (t * L + c),none⟩)) ∧ RowKit.Below w.heap.size w w':=by
 obtain ⟨vfs,vls⟩:=V;refine Sym.c8 (args:=[Vp sb,.int .i32 (t : Int),Vi c]) Tryz.func72 rfl rfl rfl (fun a0 hS0=>?_)
 have hkE : t * L + c < N * L:=by
  have : (t + 1) * L ≤ N * L:=Nat.mul_le_mul_right _ ht;rw [Nat.succ_mul] at this;omega
 have hE : N * L ≤ 100000 * 300:=Nat.mul_le_mul hN hL;have htL : t * L ≤ N * L:=Nat.mul_le_mul_right _ (by omega);have hfl:=hs.fl;have hll:=hs.ll;have hle:=hs.le t c ht hc;obtain ⟨gf,cf,rfl,-⟩:=h.r.nilOr (i:=1) rfl (by omega);obtain ⟨gl,cl,rfl,hcl⟩:=h.r.nilOr (i:=2) rfl (by omega);refine wp_seq (ai [(0,Vp sb),(1,.int .i32 (t : Int)),(2,Vi c)] (· = w) af hS0 ?_ (fun a w1 hS hw=>?_))
 ·repeat refine zX rfl ?_
  exact aj ⟨⟨rfl,rfl,rfl,trivial⟩,rfl⟩
 subst hw;refine wp_seq (ai [(0,Vp sb),(7,Vi (t * L + c : Nat))] (· = w1) af hS ?_ (fun a w2 hS hw=>?_))
 ·repeat refine zX rfl ?_
  refine zN rfl (lg t (by omega)) ?_
  repeat refine zX rfl ?_
  refine zL rfl (h.r.xcell (i:=0) rfl (j:=0) rfl) ?_;refine zN rfl (lz _ _ (by omega)) ?_
  repeat refine zX rfl ?_
  refine zN rfl (bm _ _ (by omega)) ?_
  repeat refine zX rfl ?_
  exact aj ⟨⟨rfl,rfl,trivial⟩,rfl⟩
 subst hw;obtain ⟨i,hi⟩ : ∃ i,i = t * L + c:=⟨_,rfl⟩;rw [← hi] at hle hkE hS;obtain ⟨vr,hvr⟩ : ∃ v,v = Value.slice (if cl = gt fs i then some ⟨gl,0,none⟩ else (some (⟨gl,0,none⟩ : Addr)).map (·.add (gt fs i * 1))) (gt fs (i + 1) - gt fs i) (cl - gt fs i):=⟨_,rfl⟩;refine wp_seq (b6 [(6,vr)] af dc (by kernel_rfl) hS ?_ (fun a w3 hS hw=>?_))
 ·repeat refine qX rfl ?_
  refine qL rfl (h.r.xcell (i:=0) rfl (j:=2) rfl) ?_
  repeat refine qX rfl ?_
  refine qL rfl (h.r.xcell (i:=0) rfl (j:=1) rfl) ?_
  repeat refine qX rfl ?_
  refine qI rfl (rfl) ((by omega)) ?_;refine qL rfl (h.r.cS (i:=1) rfl (j:=i) (by omega)) ?_
  repeat refine qX rfl ?_
  refine qL rfl (h.r.xcell (i:=0) rfl (j:=1) rfl) ?_
  repeat refine qX rfl ?_
  refine qN rfl (bm i 1 (by omega)) ?_;refine qI rfl (rfl) ((by omega)) ?_;refine qL rfl (h.r.cS (i:=1) rfl (j:=i + 1) (by omega)) ?_;refine abz rfl rfl rfl (exI (gt fs i) (exI (gt fs (i + 1)) (anI ⟨_,_,rfl,rfl⟩ (anI ⟨_,_,rfl,rfl⟩ (anI hle.1 (anI (by omega) (anI hcl.1 ?_)))))));subst hvr
  repeat refine qX rfl ?_
  exact fa ⟨rfl,trivial⟩
 refine wp_ret ?_
 repeat first|refine a8 ?_|refine am ?_
 refine ret1 hS rfl rfl ⟨?_,hw⟩;rw [← hi];refine ⟨_,_,by rw [hvr],fun hlt=>⟨gl,cl,rfl,?_⟩⟩;rw [if_neg (by omega)];simp only [Option.map_some,Addr.add,Nat.mul_one]
 split
 ·rename_i h0; rw [h0]
 ·simp
end
end
section
open Go Sym
theorem ta : bk Tryz.prog 35 = true:=by kernel_rfl
section
variable {base : Nat} {w0 w : World} {A B C D : List Ow}
theorem Hold.drop : ∀ {A : List Ow},Hold base w0 w (A ++ B) → Hold base w0 w B
 | [],h=>h
 | _ :: A,h=>Hold.drop (A:=A) h.tail
theorem afw (A B C : List Ow) : (A ++ (B ++ C)).Perm (B ++ (A ++ C)):=by
 rw [← List.append_assoc,← List.append_assoc];exact List.perm_append_comm.append_right C
theorem Hold.swap2 (h : Hold base w0 w (A ++ (B ++ C))) : Hold base w0 w (B ++ (A ++ C)):=h.perm (afw A B C)
theorem perm4 (P S G Q R : List Ow) : (P ++ (Q ++ (S ++ (G ++ R)))).Perm (P ++ (S ++ (G ++ (Q ++ R)))):=by
 refine List.Perm.append_left P ?_;refine (afw Q S (G ++ R)).trans ?_;exact List.Perm.append_left S (afw Q G R)
end
structure RefS (L N : Nat) (nx : List Nat) (en : List Bool) (p : Pt) (lev : Nat → Nat → Nat) (R : Nat) : Prop where
 pi : PI p N []
 ml : p.ml = []
 lv : Lev L (dlG nx L) (enG en) p N lev R
 pos : 0 < R
 few : R ≤ N
 cur : ∀ s,s < N → gt p.bl s = lev R s
 tells : ∀ s t,s < N → t < N → (lev R s = lev R t ↔ ∀ w,Word L w → enG en (rnG (dlG nx L) s w) = enG en (rnG (dlG nx L) t w))
def Cl (N L : Nat) (nx : List Nat) (p : Pt) (B : List Nat) (i c : Nat) (q : Pt) : Prop:=
 ∀ s t,s < N → t < N → (gt q.bl s = gt q.bl t ↔ gt p.bl s = gt p.bl t ∧ ∀ j d,j < B.length → d < L → (j < i ∨ (j = i ∧ d < c)) → (gt p.bl (dlG nx L s d) = gt B j ↔ gt p.bl (dlG nx L t d) = gt B j))
theorem Cl.next {N L : Nat} {nx : List Nat} {p : Pt} {B : List Nat} {i : Nat} {q : Pt} (h : Cl N L nx p B i L q) : Cl N L nx p B (i + 1) 0 q:=fun s t hs ht=>by
 rw [h s t hs ht]
 constructor
 ·rintro ⟨h1,h2⟩;exact ⟨h1,fun j d hj hd hc=>h2 j d hj hd (by omega)⟩
 ·rintro ⟨h1,h2⟩;exact ⟨h1,fun j d hj hd hc=>h2 j d hj hd (by omega)⟩
theorem Cl.step {N L : Nat} {nx : List Nat} {p : Pt} {B : List Nat} {i c : Nat} {q q' : Pt} (h : Cl N L nx p B i c q) (hi : i < B.length) (hc : c < L)
  (hq : ∀ s t,s < N → t < N → (gt q'.bl s = gt q'.bl t ↔ gt q.bl s = gt q.bl t ∧ (gt p.bl (dlG nx L s c) = gt B i ↔ gt p.bl (dlG nx L t c) = gt B i))) : Cl N L nx p B i (c + 1) q':=fun s t hs ht=>by
 rw [hq s t hs ht,h s t hs ht]
 constructor
 ·rintro ⟨⟨h1,h2⟩,h3⟩;refine ⟨h1,fun j d hj hd hc=>?_⟩
  by_cases e : j = i ∧ d = c
  ·obtain ⟨rfl,rfl⟩:=e; exact h3
  ·exact h2 j d hj hd (by omega)
 ·rintro ⟨h1,h2⟩;exact ⟨⟨h1,fun j d hj hd hc=>h2 j d hj hd (by omega)⟩,h2 i c hi hc (by omega)⟩
theorem u6 {l : List Nat} {x : Nat} : x ∈ l ↔ ∃ j,j < l.length ∧ gt l j = x:=by
 rw [List.mem_iff_getElem]
 constructor
 ·rintro ⟨j,hj,rfl⟩;exact ⟨j,hj,by show l.getD j 0 = _; rw [List.getD_eq_getElem?_getD,List.getElem?_eq_getElem hj]; rfl⟩
 ·rintro ⟨j,hj,rfl⟩;exact ⟨j,hj,by show _ = l.getD j 0; rw [List.getD_eq_getElem?_getD,List.getElem?_eq_getElem hj]; rfl⟩
theorem gt_part {N : Nat} {part bl : List Nat} {x : Nat} (h : ∀ s,s ∈ part ↔ s < N ∧ gt bl s = x) {s : Nat} (hs : s < N) : s ∈ part ↔ gt bl s = x:=by
 rw [h]; exact ⟨fun h=>h.2,fun h=>⟨hs,h⟩⟩
theorem PI.cs {p : Pt} {N : Nat} {todo cs : List Nat} (h : PI p N todo) : PI { p with cs:=cs } N todo:=⟨h.st,h.pl,h.bl,h.sp,h.ps,h.ib,h.inn,h.bd,h.own,h.tm,h.nd⟩
section
variable {base : Nat} {w0 w : World} {b L tot N : Nat} {g : GP} {gv : GV} {rest : List Ow}
theorem qa (h : Hold base w0 w (grR b L tot g gv ++ rest)) (hg : Gr N L g.nx g.en) (hN : N ≤ 100000) (hL : L ≤ 300) :
  Calls Tryz.prog 35 #[Vp b] w fun e w'=>∃ pb p lev R,e = .returned (Vp pb) ∧ RefS L N g.nx g.en p lev R ∧ du base w0 w' pb p (grR b L tot g gv ++ rest):=by
 refine Sym.c8 (args:=[Vp b]) Tryz.func35 rfl rfl rfl (fun a0 hS0=>?_);have hen:=hg.enl;obtain ⟨vst,vnx,ven⟩:=gv;obtain ⟨ge,ce,rfl,-⟩:=h.r.nilOr (i:=3) rfl (by have:=hg.pos; omega);obtain ⟨GVa,hGV⟩ : ∃ V : GV,V = ⟨vst,vnx,Vs ge g.en.length ce⟩:=⟨_,rfl⟩;refine wp_seq (ai [(0,Vp b)] (· = w) af hS0 ?_ (fun a w1 hS hw=>?_))
 ·repeat refine zX rfl ?_
  exact aj ⟨⟨rfl,trivial⟩,rfl⟩
 subst hw;refine wp_seq (bg (α:=Nat) (fun pb=>[(0,Vp b),(3,Vp pb)]) (fun pb w'=>du base w0 w' pb (Pt.whole N) (grR b L tot g GVa ++ rest)) af hS ?_ (fun pb a w2 hS h=>?_))
 ·repeat refine zX rfl ?_
  refine zL rfl (h.r.xcell (i:=0) rfl (j:=3) rfl) ?_
  repeat refine zX rfl ?_
  refine zF rfl (ajh) (aen (n:=g.en.length) h (by omega)) ?_;rintro e w2 ⟨pb,rfl,h2⟩;refine ⟨_,rfl,?_⟩;rw [hen,← hen,← hGV] at h2;rw [hen] at h2
  repeat refine zX rfl ?_
  exact aj ⟨pb,⟨rfl,rfl,trivial⟩,h2⟩
 have hpos:=hg.pos;have hw0:=ah6 hpos;have hlv0 : Lev L (dlG g.nx L) (enG g.en) (Pt.whole N) N (fun _ _=>0) 0:=Lev.start rfl rfl (fun s hs=>sr hs);refine wp_seq (cut (F:=fun a' w'=>St Tryz.f35.ntmps a' [(0,Vp b),(3,Vp pb)] ∧ ∃ q,Mk (Pt.whole N) q N (fun s=>enG g.en s = true) ∧ du base w0 w' pb q (grR b L tot g GVa ++ rest)) ?_ ?_)
 ·refine wp_seq (ai [(0,Vp b),(3,Vp pb),(23,Vs ge g.en.length ce),(24,Vi N),(25,Vi (0 : Nat))] (· = w2) af hS ?_ (fun a w3 hS hw=>?_))
  ·subst hGV;subst hen;obtain ⟨V,h⟩:=h
   repeat refine zX rfl ?_
   refine zL rfl (h.r.xcell (i:=7) rfl (j:=3) rfl) ?_
   repeat refine zX rfl ?_
   exact aj ⟨⟨rfl,rfl,rfl,rfl,rfl,trivial⟩,rfl⟩
  subst hw
  refine wp_block (cz hS (fun γ E' w'=>∃ (k : Nat) (q : Pt),k ≤ N ∧ γ = N - k ∧ E' = [(0,Vp b),(3,Vp pb),(23,Vs ge g.en.length ce),(24,Vi N),(25,Vi k)] ∧ Mk (Pt.whole N) q N (fun s=>s < k ∧ enG g.en s = true) ∧ du base w0 w' pb q (grR b L tot g GVa ++ rest)) N
   ⟨0,_,by omega,by omega,rfl,(Mk.start hw0 rfl).imp (fun s _=>⟨False.elim,fun h=>by omega⟩),h⟩ ?_)
  clear h hS;rintro γ E' w4 a ⟨k,q,hk1,rfl,rfl,hM,h⟩ hS;refine wp_seq (ai [(0,Vp b),(3,Vp pb),(23,Vs ge g.en.length ce),(24,Vi N),(25,Vi k),(26,.bool (decide (k < N)))] (· = w4) af hS ?_ (fun a w5 hS hw=>?_))
  ·repeat refine zX rfl ?_
   refine zC rfl (co _ _) ?_
   repeat refine zX rfl ?_
   exact aj ⟨⟨rfl,rfl,rfl,rfl,rfl,rfl,trivial⟩,rfl⟩
  subst hw;refine wp_seq (cond hS rfl (fun hT=>wp_skip ?_) (fun hF=>?_))
  rotate_left
  ·have hkk : k = N:=by have:=of_decide_eq_false hF; omega
   subst hkk;refine wp_exit ?_
   repeat first|refine bf ?_|refine ba ?_|refine az rfl ?_
   exact ⟨hS.sub ⟨rfl,rfl,trivial⟩,q,hM.imp (fun s hs=>⟨fun h=>h.2,fun h=>⟨hs,h⟩⟩),h⟩
  have hkk : k < N:=of_decide_eq_true hT;refine wp_seq (wp_block (wp_seq (ai [(0,Vp b),(3,Vp pb),(23,Vs ge g.en.length ce),(24,Vi N),(25,Vi k),(4,Vi k),(5,.bool (enG g.en k))] (· = w5) af hS ?_ (fun a w6 hS hw=>?_))))
  ·subst hGV;obtain ⟨V,h⟩:=h
   repeat refine zX rfl ?_
   refine zI rfl (rfl) ((by omega)) ?_;refine zL rfl (h.r.cB (i:=10) rfl (j:=k) (by omega)) ?_
   repeat refine zX rfl ?_
   exact aj ⟨⟨rfl,rfl,rfl,rfl,rfl,rfl,rfl,trivial⟩,rfl⟩
  subst hw;refine wp_seq (ai [(0,Vp b),(3,Vp pb),(23,Vs ge g.en.length ce),(24,Vi N),(25,Vi k),(4,Vi k),(30,.bool (enG g.en k))] (· = w6) af hS ?_ (fun a w7 hS hw=>?_))
  ·repeat refine zX rfl ?_
   exact aj ⟨⟨rfl,rfl,rfl,rfl,rfl,rfl,rfl,trivial⟩,rfl⟩
  subst hw;refine cond hS rfl (fun hT=>?_) (fun hF=>?_)
  ·refine ai [(0,Vp b),(3,Vp pb),(23,Vs ge g.en.length ce),(24,Vi N),(25,Vi k)] (fun w'=>du base w0 w' pb (q.mark k) (grR b L tot g GVa ++ rest)) af hS ?_ (fun a w8 hS h=>?_)
   ·repeat refine zX rfl ?_
    refine zF rfl (ag0) (ab6 h hM.pi hkk (fun hm=>by have:=(hM.m k hkk).1 hm; omega) (by omega)) ?_;rintro e w8 ⟨rfl,h2⟩;refine ⟨_,rfl,?_⟩
    repeat refine zX rfl ?_
    exact aj ⟨⟨rfl,rfl,rfl,rfl,rfl,trivial⟩,h2⟩
   refine ay ?_;refine ai [(0,Vp b),(3,Vp pb),(23,Vs ge g.en.length ce),(24,Vi N),(25,Vi (k + 1 : Nat))] (· = w8) af hS ?_ (fun a w9 hS hw=>?_)
   ·repeat refine zX rfl ?_
    refine zN rfl (bm _ 1 (by omega)) ?_
    repeat refine zX rfl ?_
    exact aj ⟨⟨rfl,rfl,rfl,rfl,rfl,trivial⟩,rfl⟩
   subst hw;refine ⟨N - (k + 1),_,by omega,⟨k + 1,_,by omega,rfl,rfl,(hM.step hkk (by omega)).imp (fun s hs=>?_),h⟩,hS⟩
   constructor
   ·rintro (⟨h1,h2⟩ | rfl)
    ·exact ⟨by omega,h2⟩
    ·exact ⟨by omega,hT⟩
   ·rintro ⟨h1,h2⟩
    by_cases e : s = k
    ·exact .inr e
    ·exact .inl ⟨by omega,h2⟩
  ·refine wp_skip ?_;refine ay ?_;refine ai [(0,Vp b),(3,Vp pb),(23,Vs ge g.en.length ce),(24,Vi N),(25,Vi (k + 1 : Nat))] (· = w7) af hS ?_ (fun a w9 hS hw=>?_)
   ·repeat refine zX rfl ?_
    refine zN rfl (bm _ 1 (by omega)) ?_
    repeat refine zX rfl ?_
    exact aj ⟨⟨rfl,rfl,rfl,rfl,rfl,trivial⟩,rfl⟩
   subst hw;refine ⟨N - (k + 1),_,by omega,⟨k + 1,_,by omega,rfl,rfl,hM.imp (fun s hs=>?_),h⟩,hS⟩
   constructor
   ·rintro ⟨h1,h2⟩; exact ⟨by omega,h2⟩
   ·rintro ⟨h1,h2⟩
    by_cases e : s = k
    ·subst e; rw [hF] at h2; cases h2
    ·exact ⟨by omega,h2⟩
 clear h hS;rintro a w3 ⟨hS,q,hM,h⟩;obtain ⟨hs1,hs2,hs3,hs4⟩:=hM.split (by show 1 ≤ 1; omega);have hlvq : Lev L (dlG g.nx L) (enG g.en) q.split N (fun _ _=>0) 0:=hlv0.keep hs3;refine wp_seq (ai [(0,Vp b),(3,Vp pb)] (fun w'=>du base w0 w' pb q.split (grR b L tot g GVa ++ rest)) af hS ?_ (fun a w4 hS h=>?_))
 ·have hlow : q.low ≤ q.bs.length:=by
   rw [hM.len];have : q.low = (Pt.whole N).low:=by unfold Pt.low; rw [hM.cs]
   rw [this]; show 1 ≤ 1; omega
  repeat refine zX rfl ?_
  refine zF rfl (aci) (x8 h hM.pi hlow (by rw [hM.cs]; show 0 < 1; omega) (by rw [hM.cs]; show 1 ≤ _; omega) (by omega)) ?_;rintro e w8 ⟨rfl,h2⟩;refine ⟨_,rfl,?_⟩
  repeat refine zX rfl ?_
  exact aj ⟨⟨rfl,rfl,trivial⟩,h2⟩
 refine wp_seq (bg (α:=Nat) (fun sb=>[(0,Vp b),(3,Vp pb),(6,Vp sb)]) (fun sb w'=>∃ fs ls V,SrcOk N L g.nx fs ls ∧ du base w0 w' pb q.split (srR sb L fs ls V ++ (grR b L tot g GVa ++ rest))) af hS ?_ (fun sb a w5 hS h=>?_))
 ·obtain ⟨V,h⟩:=h
  repeat refine zX rfl ?_
  refine zF rfl (yy) (wg h.swap2 hg hN hL) ?_;rintro e w8 ⟨sb,fs,ls,SV,rfl,hok,h2⟩;refine ⟨_,rfl,?_⟩
  repeat refine zX rfl ?_
  refine aj ⟨sb,⟨rfl,rfl,rfl,trivial⟩,fs,ls,SV,hok,V,h2.perm ?_⟩;exact (List.Perm.append_left _ (afw _ _ _)).trans (afw _ _ _)
 obtain ⟨fs,ls,SV,hsrc,h⟩:=h;have hlow1 : q.split.low = 1:=by unfold Pt.low; rw [hs3.cs]; rfl
 have hcl0 : ∀ s t,s < N → t < N → (gt q.split.bl s = gt q.split.bl t ↔ EqG L (dlG g.nx L) (enG g.en) (0 + 1) s t):=fun s t hs ht=>by
  rw [hs4 s t hs ht,EqG.one];have e1 : gt (Pt.whole N).bl s = 0:=sr hs;have e2 : gt (Pt.whole N).bl t = 0:=sr ht;rw [e1,e2]
  constructor
  ·rintro ⟨_,h⟩;exact Bool.eq_iff_iff.2 h
  ·intro h;exact ⟨rfl,by rw [h]⟩
 rw [hs2] at hs1
 refine wp_seq (wp_block (cz hS (fun γ E' w'=>∃ (p : Pt) (lev : Nat → Nat → Nat) (R : Nat),γ = N + 1 - p.low ∧ E' = [(0,Vp b),(3,Vp pb),(6,Vp sb)] ∧ PI p N [] ∧ p.ml = [] ∧ Lev L (dlG g.nx L) (enG g.en) p N lev R ∧ R < p.low ∧ (∀ s t,s < N → t < N → (gt p.bl s = gt p.bl t ↔ EqG L (dlG g.nx L) (enG g.en) (R + 1) s t)) ∧ du base w0 w' pb p (srR sb L fs ls SV ++ (grR b L tot g GVa ++ rest))) (N + 1 - q.split.low)
  ⟨q.split,_,0,rfl,rfl,hs1,hs2,hlvq,by omega,hcl0,h⟩ ?_))
 clear h hS hs1 hs2 hs3 hs4 hlvq hlow1 hcl0 hM hlv0 hw0;rintro γ E' w6 a ⟨p,lev,R,rfl,rfl,hpi,hml,hlv,hRl,hcl,h⟩ hS;have hfew:=hpi.few;have hlow:=hlv.lowLe;have hcsl:=hlv.cs;obtain ⟨hl1,hc1,hc0⟩:=hlv.endR hpi.ib hcl;obtain ⟨lev1,hlev1⟩ : ∃ l : Nat → Nat → Nat,l = (fun r s=>if r ≤ R then lev r s else gt p.bl s):=⟨_,rfl⟩;rw [← hlev1] at hl1;have hcur : ∀ s,lev1 (R + 1) s = gt p.bl s:=fun s=>by rw [hlev1]; exact if_neg (by omega)
 have hp1 : PI p.endR N []:=hpi.cs;refine wp_seq (wp_seq (ai [(0,Vp b),(3,Vp pb),(6,Vp sb),(40,.bool (decide (p.low < p.bs.length)))] (fun w'=>du base w0 w' pb p.endR (srR sb L fs ls SV ++ (grR b L tot g GVa ++ rest))) af hS ?_ (fun a w7 hS h=>?_)))
 ·repeat refine zX rfl ?_
  refine zF rfl (aa4) (yx h (by omega) (by omega)) ?_;rintro e w8 ⟨rfl,h2⟩;refine ⟨_,rfl,?_⟩
  repeat refine zX rfl ?_
  exact aj ⟨⟨rfl,rfl,rfl,rfl,trivial⟩,h2⟩
 refine cond hS rfl (fun hT=>wp_skip ?_) (fun hF=>?_)
 rotate_left
 ·have hend:=of_decide_eq_false hF;refine wp_exit ?_
  repeat first|refine bf ?_|refine ba ?_|refine az rfl ?_
  refine wp_seq (ai [(2,Vp pb)] (· = w7) af hS ?_ (fun a w8 hS hw=>?_))
  ·repeat refine zX rfl ?_
   exact aj ⟨⟨rfl,trivial⟩,rfl⟩
  subst hw;obtain ⟨V,h⟩:=h;have hlw:=hlv.low;refine wp_ret ?_
  repeat first|refine a8 ?_|refine am ?_
  refine ret1 hS rfl rfl ⟨pb,p.endR,lev1,R + 1,rfl,⟨hp1,hml,hl1,by omega,by omega,fun s hs=>(hcur s).symm,fun s t hs ht=>hl1.still (fun s c=>hg.lt s c) (by rw [hc1,hc0]; omega) hs ht⟩,V,?_⟩;rw [hGV] at h;exact h.swap2.drop
 have hmore : p.low < p.bs.length:=of_decide_eq_true hT;have hlw:=hlv.low;refine wp_block ?_;obtain ⟨p1,hp1e⟩ : ∃ p1,p1 = p.endR:=⟨_,rfl⟩;rw [← hp1e] at hl1 hc1 hc0 hp1 h;have hp1bl : p1.bl = p.bl:=by rw [hp1e]; rfl
 have hp1bs : p1.bs.length = p.bs.length:=by rw [hp1e]; rfl
 have hp1ml : p1.ml = []:=by rw [hp1e]; exact hml
 have hcur1 : ∀ s,lev1 (R + 1) s = gt p1.bl s:=fun s=>by rw [hp1bl]; exact hcur s
 have hp1low : p1.low = p.bs.length:=by rw [hl1.low]; exact hc1
 have hc0' : gt p1.cs (R + 1 - 1) = p.low:=by rw [hlw]; exact hc0
 refine wp_seq (bg (α:=Value × List Value × List Nat) (fun x=>[(0,Vp b),(3,Vp pb),(6,Vp sb),(42,x.1),(43,Vi x.2.2.length),(44,Vi (0 : Nat))]) (fun x w'=>aj6 p1 (R + 1) x.2.2 ∧ (∀ y ∈ x.2.2,y < p.bs.length) ∧ x.2.1.length = x.2.2.length ∧ x.2.2.length ≤ N ∧ du base w0 w' pb p1 (srR sb L fs ls SV ++ (grR b L tot g GVa ++ (ia x.1 x.2.1 (x.2.2.map p1.mem) ++ rest)))) af hS ?_ (fun x a w8 hS h=>?_))
 ·repeat refine zX rfl ?_
  refine zF rfl (aji) (afy (R:=R + 1) (c0:=p.low) (c1:=p.bs.length) h hp1 (by omega) hl1.cs (by omega) (by omega) hc0' hc1 (by omega) (by omega) (fun x h1 h2=>by rw [hlw,← hc0]; exact hl1.par R (by omega) x (by rw [hc0,← hlw]; exact h1) (by rw [hc1]; exact h2))) ?_;rintro e w8 ⟨vp,V,vs,B,rfl,hB1,hB2,hB3,hB4,h2⟩;obtain ⟨gvp,cvp,hvp,-⟩:=h2.r.any (i:=7) rfl;subst hvp;refine ⟨_,rfl,?_⟩
  repeat refine zX rfl ?_
  refine aj ⟨(_,vs,B),⟨rfl,rfl,rfl,rfl,by rw [← hB3]; rfl,rfl,trivial⟩,hB1,hB2,hB3,(show B.length ≤ N by omega),V,h2.perm (perm4 _ _ _ _ _)⟩
 obtain ⟨vp,vs,B⟩:=x;simp only at hS h;obtain ⟨hB1,hB2,hB3,hB4,h⟩:=h
 have hBl : ∀ j,j < B.length → gt B j < p1.bs.length:=fun j hj=>by
  rw [hp1bs]; exact hB2 _ (u6.2 ⟨j,hj,rfl⟩)
 have hcl1 : Cl N L g.nx p1 B 0 0 p1:=fun s t _ _=>⟨fun h=>⟨h,fun j d _ _ hc=>by omega⟩,fun h=>h.1⟩
 refine wp_block (cz hS (fun γ E' w'=>∃ (i : Nat) (q : Pt),i ≤ B.length ∧ γ = B.length - i ∧ E' = [(0,Vp b),(3,Vp pb),(6,Vp sb),(42,vp),(43,Vi B.length),(44,Vi i)] ∧ PI q N [] ∧ q.ml = [] ∧ PH p1 q N ∧ Cl N L g.nx p1 B i 0 q ∧ du base w0 w' pb q (srR sb L fs ls SV ++ (grR b L tot g GVa ++ (ia vp vs (B.map p1.mem) ++ rest)))) B.length
  ⟨0,p1,by omega,by omega,rfl,hp1,hp1ml,PH.refl _ _,hcl1,h⟩ ?_)
 clear h hS hcl1 hB2;rintro γ E' w9 a ⟨i,q,hi,rfl,rfl,hq1,hq2,hq3,hq4,h⟩ hS;refine wp_seq (ai [(0,Vp b),(3,Vp pb),(6,Vp sb),(42,vp),(43,Vi B.length),(44,Vi i),(45,.bool (decide (i < B.length)))] (· = w9) af hS ?_ (fun a w10 hS hw=>?_))
 ·repeat refine zX rfl ?_
  refine zC rfl (co _ _) ?_
  repeat refine zX rfl ?_
  exact aj ⟨⟨rfl,rfl,rfl,rfl,rfl,rfl,rfl,trivial⟩,rfl⟩
 subst hw;refine wp_seq (cond hS rfl (fun hT=>wp_skip ?_) (fun hF=>?_))
 rotate_left
 ·have hii : i = B.length:=by have:=of_decide_eq_false hF; omega
  subst hii;refine wp_exit ?_
  repeat first|refine bf ?_|refine ba ?_|refine az rfl ?_
  refine ay ?_;have hql : Lev L (dlG g.nx L) (enG g.en) q N lev1 (R + 1):=hl1.keep hq3
  have hqlow : q.low = p.bs.length:=by
   have : q.low = p1.low:=by unfold Pt.low; rw [hq3.cs]
   rw [this,hp1low]
  obtain ⟨V,h⟩:=h;refine ⟨N + 1 - q.low,_,by rw [hqlow]; omega,⟨q,lev1,R + 1,rfl,rfl,hq1,hq2,hql,by rw [hqlow]; omega,fun s t hs ht=>?_,V,?_⟩,hS.sub ⟨rfl,rfl,rfl,trivial⟩⟩
  ·have hrs:=afi (B:=B) (fun s c=>hg.lt s c) hl1 (by omega) hB1 hs ht;rw [← hrs,hq4 s t hs ht];simp only [hcur1];refine and_congr Iff.rfl ⟨fun h b hb c hc=>?_,fun h j d hj hd _=>?_⟩
   ·obtain ⟨j,hj,rfl⟩:=u6.1 hb;exact h j c hj hc (by omega)
   ·exact h _ (u6.2 ⟨j,hj,rfl⟩) d hd
  ·exact (h.perm (perm4 _ _ _ _ _).symm).swap2.drop
 have hii : i < B.length:=of_decide_eq_true hT
 have hpl : (p1.mem (gt B i)).length ≤ N:=by
  have:=lr hp1 (hBl i hii)
  have:=hp1.bd _ (hBl i hii)
  omega
 obtain ⟨part,hpart⟩ : ∃ part,part = p1.mem (gt B i):=⟨_,rfl⟩;rw [← hpart] at hpl;have hpm : ∀ s,s ∈ part ↔ s < N ∧ gt p1.bl s = gt B i:=fun s=>by rw [hpart]; exact mem_iff hp1 (hBl i hii) s
 have hpn : part.Nodup:=by rw [hpart]; exact af7 hp1 (hBl i hii)
 have hmapl : (B.map p1.mem).length = B.length:=List.length_map _
 have hmapi : (B.map p1.mem)[i]'(by rw [hmapl]; exact hii) = part:=by
  rw [List.getElem_map,hpart]
  congr 1
  show B[i] = B.getD i 0;rw [List.getD_eq_getElem?_getD,List.getElem?_eq_getElem hii]; rfl
 obtain ⟨vi,hvi1,hvi2⟩:=adf (vp:=vp) (vs:=vs) (Ls:=B.map p1.mem) (by rw [hmapl]; exact hB3) (i:=i) (by rw [hmapl]; exact hii) (rest:=rest);rw [hmapi] at hvi2
 have hrow : ∀ V' q',(ptR pb q' V' ++ (srR sb L fs ls SV ++ (grR b L tot g GVa ++ (ia vp vs (B.map p1.mem) ++ rest))))[14 + (i + 1)]? = some (oS vi part):=fun V' q'=>by
  have e : ptR pb q' V' ++ (srR sb L fs ls SV ++ (grR b L tot g GVa ++ (ia vp vs (B.map p1.mem) ++ rest))) = (ptR pb q' V' ++ (srR sb L fs ls SV ++ grR b L tot g GVa)) ++ (ia vp vs (B.map p1.mem) ++ rest):=by simp only [List.append_assoc]
  rw [e,List.getElem?_append_right (by show 14 ≤ 14 + (i + 1); omega)];rw [show 14 + (i + 1) - (ptR pb q' V' ++ (srR sb L fs ls SV ++ grR b L tot g GVa)).length = i + 1 by show 14 + (i + 1) - 14 = i + 1; omega];exact hvi2
 refine wp_seq (wp_block (wp_seq (ai [(0,Vp b),(3,Vp pb),(6,Vp sb),(42,vp),(43,Vi B.length),(44,Vi i),(8,vi)] (· = w10) af hS ?_ (fun a w11 hS hw=>?_))))
 ·obtain ⟨V,h⟩:=h;obtain ⟨gvp,cvp,rfl,-⟩:=h.r.nilOr (i:=14) rfl (by omega);have hc:=h.r.cellV (i:=14) rfl hvi1
  repeat refine zX rfl ?_
  refine zI rfl (rfl) ((by omega)) ?_;refine zL rfl (hc) ?_
  repeat refine zX rfl ?_
  exact aj ⟨⟨rfl,rfl,rfl,rfl,rfl,rfl,rfl,trivial⟩,rfl⟩
 subst hw;refine wp_seq (ai [(0,Vp b),(3,Vp pb),(6,Vp sb),(42,vp),(43,Vi B.length),(44,Vi i),(8,vi),(51,Vi L),(52,Vi (0 : Nat))] (· = w11) af hS ?_ (fun a w12 hS hw=>?_))
 ·obtain ⟨V,h⟩:=h
  repeat refine zX rfl ?_
  refine zL rfl (h.r.xcell (i:=10) rfl (j:=0) rfl) ?_
  repeat refine zX rfl ?_
  exact aj ⟨⟨rfl,rfl,rfl,rfl,rfl,rfl,rfl,rfl,rfl,trivial⟩,rfl⟩
 subst hw
 refine wp_block (cz hS (fun γ E' w'=>∃ (c : Nat) (q : Pt),c ≤ L ∧ γ = L - c ∧ E' = [(0,Vp b),(3,Vp pb),(6,Vp sb),(42,vp),(43,Vi B.length),(44,Vi i),(8,vi),(51,Vi L),(52,Vi c)] ∧ PI q N [] ∧ q.ml = [] ∧ PH p1 q N ∧ Cl N L g.nx p1 B i c q ∧ du base w0 w' pb q (srR sb L fs ls SV ++ (grR b L tot g GVa ++ (ia vp vs (B.map p1.mem) ++ rest)))) L
  ⟨0,q,by omega,by omega,rfl,hq1,hq2,hq3,hq4,h⟩ ?_)
 clear h hS hq1 hq2 hq3 hq4;rintro γ E' w13 a ⟨c,q,hc,rfl,rfl,hq1,hq2,hq3,hq4,h⟩ hS;refine wp_seq (ai [(0,Vp b),(3,Vp pb),(6,Vp sb),(42,vp),(43,Vi B.length),(44,Vi i),(8,vi),(51,Vi L),(52,Vi c),(53,.bool (decide (c < L)))] (· = w13) af hS ?_ (fun a w14 hS hw=>?_))
 ·repeat refine zX rfl ?_
  refine zC rfl (co _ _) ?_
  repeat refine zX rfl ?_
  exact aj ⟨⟨rfl,rfl,rfl,rfl,rfl,rfl,rfl,rfl,rfl,rfl,trivial⟩,rfl⟩
 subst hw;refine wp_seq (cond hS rfl (fun hT=>wp_skip ?_) (fun hF=>?_))
 rotate_left
 ·have hcc : c = L:=by have:=of_decide_eq_false hF; omega
  subst hcc;refine wp_exit ?_
  repeat first|refine bf ?_|refine ba ?_|refine az rfl ?_
  refine ay ?_;refine ai [(0,Vp b),(3,Vp pb),(6,Vp sb),(42,vp),(43,Vi B.length),(44,Vi (i + 1 : Nat))] (· = w14) af hS ?_ (fun a w15 hS hw=>?_)
  ·repeat refine zX rfl ?_
   refine zN rfl (bm _ 1 (by omega)) ?_
   repeat refine zX rfl ?_
   exact aj ⟨⟨rfl,rfl,rfl,rfl,rfl,rfl,trivial⟩,rfl⟩
  subst hw;exact ⟨B.length - (i + 1),_,by omega,⟨i + 1,q,by omega,rfl,rfl,hq1,hq2,hq3,hq4.next,h⟩,hS⟩
 have hcc : c < L:=of_decide_eq_true hT;have hq1' : PI q N q.ml:=by rw [hq2]; exact hq1
 have hql : q.low ≤ q.bs.length:=by
  have : q.low = p1.low:=by unfold Pt.low; rw [hq3.cs]
  rw [this]; exact Nat.le_trans hl1.lowLe hq3.len
 have hqcs : q.cs.length = R + 1 + 1:=by rw [hq3.cs]; exact hl1.cs
 have hpos : 0 < part.length:=by
  have h1:=lr hp1 (hBl i hii);have h2:=hp1.bd _ (hBl i hii);rw [hpart]; omega
 obtain ⟨V0,h⟩:=h;obtain ⟨gi,ci,hvi3,-⟩:=h.r.nilOr (i:=14 + (i + 1)) (hrow V0 q) hpos;replace h : du base w0 w14 pb q (srR sb L fs ls SV ++ (grR b L tot g GVa ++ (ia vp vs (B.map p1.mem) ++ rest))):=⟨V0,h⟩;refine wp_seq (wp_block (wp_seq (ai [(0,Vp b),(3,Vp pb),(6,Vp sb),(42,vp),(43,Vi B.length),(44,Vi i),(8,vi),(51,Vi L),(52,Vi c),(9,Vi c)] (· = w14) af hS ?_ (fun a w15 hS hw=>?_))))
 ·repeat refine zX rfl ?_
  exact aj ⟨⟨rfl,rfl,rfl,rfl,rfl,rfl,rfl,rfl,rfl,rfl,trivial⟩,rfl⟩
 subst hw;refine wp_seq (cut (F:=fun a' w'=>St Tryz.f35.ntmps a' [(0,Vp b),(3,Vp pb),(6,Vp sb),(42,vp),(43,Vi B.length),(44,Vi i),(8,vi),(51,Vi L),(52,Vi c),(9,Vi c)] ∧ ∃ q',Mk q q' N (fun s=>gt p1.bl (dlG g.nx L s c) = gt B i) ∧ du base w0 w' pb q' (srR sb L fs ls SV ++ (grR b L tot g GVa ++ (ia vp vs (B.map p1.mem) ++ rest)))) ?_ ?_)
 ·refine wp_seq (ai [(0,Vp b),(3,Vp pb),(6,Vp sb),(42,vp),(43,Vi B.length),(44,Vi i),(8,vi),(51,Vi L),(52,Vi c),(9,Vi c),(55,vi),(56,Vi part.length),(57,Vi (0 : Nat))] (· = w15) af hS ?_ (fun a w16 hS hw=>?_))
  ·rw [hvi3]
   repeat refine zX rfl ?_
   exact aj ⟨⟨rfl,rfl,rfl,rfl,rfl,rfl,rfl,rfl,rfl,rfl,rfl,rfl,rfl,trivial⟩,rfl⟩
  subst hw
  refine wp_block (cz hS (fun γ E' w'=>∃ (k : Nat) (q' : Pt),k ≤ part.length ∧ γ = part.length - k ∧ E' = [(0,Vp b),(3,Vp pb),(6,Vp sb),(42,vp),(43,Vi B.length),(44,Vi i),(8,vi),(51,Vi L),(52,Vi c),(9,Vi c),(55,vi),(56,Vi part.length),(57,Vi k)] ∧ Mk q q' N (fun s=>∃ j,j < k ∧ dlG g.nx L s c = gt part j) ∧ du base w0 w' pb q' (srR sb L fs ls SV ++ (grR b L tot g GVa ++ (ia vp vs (B.map p1.mem) ++ rest)))) part.length
   ⟨0,q,by omega,by omega,rfl,(Mk.start hq1' hq2).imp (fun s _=>⟨False.elim,fun ⟨j,hj,_⟩=>by omega⟩),h⟩ ?_)
  clear h hS;rintro γ E' w17 a ⟨k,q',hk,rfl,rfl,hM,h⟩ hS;refine wp_seq (ai [(0,Vp b),(3,Vp pb),(6,Vp sb),(42,vp),(43,Vi B.length),(44,Vi i),(8,vi),(51,Vi L),(52,Vi c),(9,Vi c),(55,vi),(56,Vi part.length),(57,Vi k),(58,.bool (decide (k < part.length)))] (· = w17) af hS ?_ (fun a w18 hS hw=>?_))
  ·repeat refine zX rfl ?_
   refine zC rfl (co _ _) ?_
   repeat refine zX rfl ?_
   exact aj ⟨⟨rfl,rfl,rfl,rfl,rfl,rfl,rfl,rfl,rfl,rfl,rfl,rfl,rfl,rfl,trivial⟩,rfl⟩
  subst hw;refine wp_seq (cond hS rfl (fun hT=>wp_skip ?_) (fun hF=>?_))
  rotate_left
  ·have hkk : k = part.length:=by have:=of_decide_eq_false hF; omega
   subst hkk;refine wp_exit ?_
   repeat first|refine bf ?_|refine ba ?_|refine az rfl ?_
   refine ⟨hS.sub ⟨rfl,rfl,rfl,rfl,rfl,rfl,rfl,rfl,rfl,rfl,trivial⟩,q',hM.imp (fun s hs=>?_),h⟩;have hd:=hg.lt s c hs hcc;rw [← gt_part hpm hd]
   constructor
   ·rintro ⟨j,hj,e⟩; exact u6.2 ⟨j,hj,e.symm⟩
   ·intro hm;obtain ⟨j,hj,e⟩:=u6.1 hm;exact ⟨j,hj,e.symm⟩
  have hkk : k < part.length:=of_decide_eq_true hT;obtain ⟨t,ht⟩ : ∃ t,t = gt part k:=⟨_,rfl⟩;have htN : t < N:=((hpm t).1 (u6.2 ⟨k,hkk,ht.symm⟩)).1;refine wp_seq (wp_block (wp_seq (ai [(0,Vp b),(3,Vp pb),(6,Vp sb),(42,vp),(43,Vi B.length),(44,Vi i),(8,vi),(51,Vi L),(52,Vi c),(9,Vi c),(55,vi),(56,Vi part.length),(57,Vi k),(11,.int .i32 (t : Int))] (· = w18) af hS ?_ (fun a w19 hS hw=>?_))))
  ·obtain ⟨V,h⟩:=h;subst hvi3;have hc:=h.r.cS (i:=14 + (i + 1)) (hrow V q') hkk;rw [← ht] at hc
   repeat refine zX rfl ?_
   refine zI rfl (rfl) (hkk) ?_;refine zL rfl (hc) ?_
   repeat refine zX rfl ?_
   exact aj ⟨⟨rfl,rfl,rfl,rfl,rfl,rfl,rfl,rfl,rfl,rfl,rfl,rfl,rfl,rfl,trivial⟩,rfl⟩
  subst hw;obtain ⟨lo,hlo⟩ : ∃ lo,lo = gt fs (t * L + c):=⟨_,rfl⟩;obtain ⟨hi',hhi⟩ : ∃ hi',hi' = gt fs (t * L + c + 1):=⟨_,rfl⟩;have hle:=hsrc.le t c htN hcc;have hmem:=hsrc.mem t c htN hcc;have hnd:=hsrc.nd t c htN hcc;have hll:=hsrc.ll;rw [← hlo,← hhi] at hle hmem hnd;have hNL : N * L ≤ 100000 * 300:=Nat.mul_le_mul hN hL;refine wp_seq (bg (α:=Option Addr × Nat) (fun x=>[(0,Vp b),(3,Vp pb),(6,Vp sb),(42,vp),(43,Vi B.length),(44,Vi i),(8,vi),(51,Vi L),(52,Vi c),(9,Vi c),(55,vi),(56,Vi part.length),(57,Vi k),(64,.slice x.1 (hi' - lo) x.2),(65,Vi (hi' - lo : Nat)),(66,Vi (0 : Nat))]) (fun x w'=>(lo < hi' → ∃ gl cl,SV.ls = Vs gl ls.length cl ∧ x.1 = some ⟨gl,lo,none⟩) ∧ du base w0 w' pb q' (srR sb L fs ls SV ++ (grR b L tot g GVa ++ (ia vp vs (B.map p1.mem) ++ rest)))) af hS ?_ (fun x a w20 hS h=>?_))
  ·obtain ⟨V,h⟩:=h;have hof:=of_any h.swap2 hsrc hN hL htN hcc;rw [← hlo,← hhi] at hof
   repeat refine zX rfl ?_
   refine zF rfl (en_of) (hof) ?_;rintro e w20 ⟨⟨ad,cp,rfl,had⟩,hw⟩;refine ⟨_,rfl,?_⟩
   repeat refine zX rfl ?_
   exact aj ⟨(ad,cp),⟨rfl,rfl,rfl,rfl,rfl,rfl,rfl,rfl,rfl,rfl,rfl,rfl,rfl,rfl,rfl,rfl,trivial⟩,had,V,h.below hw⟩
  obtain ⟨ad,cp⟩:=x;simp only at hS h;obtain ⟨had,h⟩:=h
  refine wp_block (cz hS (fun γ E' w'=>∃ (r : Nat) (q2 : Pt),r ≤ hi' - lo ∧ γ = hi' - lo - r ∧ E' = [(0,Vp b),(3,Vp pb),(6,Vp sb),(42,vp),(43,Vi B.length),(44,Vi i),(8,vi),(51,Vi L),(52,Vi c),(9,Vi c),(55,vi),(56,Vi part.length),(57,Vi k),(64,.slice ad (hi' - lo) cp),(65,Vi (hi' - lo : Nat)),(66,Vi r)] ∧ Mk q q2 N (fun s=>(∃ j,j < k ∧ dlG g.nx L s c = gt part j) ∨ ∃ r',r' < r ∧ gt ls (lo + r') = s) ∧ du base w0 w' pb q2 (srR sb L fs ls SV ++ (grR b L tot g GVa ++ (ia vp vs (B.map p1.mem) ++ rest)))) (hi' - lo)
   ⟨0,q',by omega,by omega,rfl,hM.imp (fun s _=>⟨.inl,fun h=>h.elim id (fun ⟨j,hj,_⟩=>by omega)⟩),h⟩ ?_)
  clear h hS hM;rintro γ E' w21 a ⟨r,q2,hr,rfl,rfl,hM,h⟩ hS;refine wp_seq (ai [(0,Vp b),(3,Vp pb),(6,Vp sb),(42,vp),(43,Vi B.length),(44,Vi i),(8,vi),(51,Vi L),(52,Vi c),(9,Vi c),(55,vi),(56,Vi part.length),(57,Vi k),(64,.slice ad (hi' - lo) cp),(65,Vi (hi' - lo : Nat)),(66,Vi r),(67,.bool (decide (r < hi' - lo)))] (· = w21) af hS ?_ (fun a w22 hS hw=>?_))
  ·repeat refine zX rfl ?_
   refine zC rfl (co _ _) ?_
   repeat refine zX rfl ?_
   exact aj ⟨⟨rfl,rfl,rfl,rfl,rfl,rfl,rfl,rfl,rfl,rfl,rfl,rfl,rfl,rfl,rfl,rfl,rfl,trivial⟩,rfl⟩
  subst hw;refine wp_seq (cond hS rfl (fun hT=>wp_skip ?_) (fun hF=>?_))
  rotate_left
  ·have hrr : r = hi' - lo:=by have:=of_decide_eq_false hF; omega
   subst hrr;refine wp_exit ?_
   repeat first|refine bf ?_|refine ba ?_|refine az rfl ?_
   refine ay ?_;refine ai [(0,Vp b),(3,Vp pb),(6,Vp sb),(42,vp),(43,Vi B.length),(44,Vi i),(8,vi),(51,Vi L),(52,Vi c),(9,Vi c),(55,vi),(56,Vi part.length),(57,Vi (k + 1 : Nat))] (· = w22) af hS ?_ (fun a w23 hS hw=>?_)
   ·repeat refine zX rfl ?_
    refine zN rfl (bm _ 1 (by omega)) ?_
    repeat refine zX rfl ?_
    exact aj ⟨⟨rfl,rfl,rfl,rfl,rfl,rfl,rfl,rfl,rfl,rfl,rfl,rfl,rfl,trivial⟩,rfl⟩
   subst hw;refine ⟨part.length - (k + 1),_,by omega,⟨k + 1,q2,by omega,rfl,rfl,hM.imp (fun s hs=>?_),h⟩,hS⟩
   constructor
   ·rintro (⟨j,hj,e⟩ | ⟨r',hr',e⟩)
    ·exact ⟨j,by omega,e⟩
    ·exact ⟨k,by omega,by rw [← ht]; exact ((hmem s).1 ⟨lo + r',by omega,by omega,e⟩).2⟩
   ·rintro ⟨j,hj,e⟩
    by_cases ej : j = k
    ·subst ej;rw [← ht] at e;obtain ⟨p,h1,h2,h3⟩:=(hmem s).2 ⟨hs,e⟩;exact .inr ⟨p - lo,by omega,by rw [show lo + (p - lo) = p by omega]; exact h3⟩
    ·exact .inl ⟨j,by omega,e⟩
  have hrr : r < hi' - lo:=of_decide_eq_true hT;obtain ⟨gl,cl,hls,rfl⟩:=had (by omega);obtain ⟨x,hx⟩ : ∃ x,x = gt ls (lo + r):=⟨_,rfl⟩;have hxm:=(hmem x).1 ⟨lo + r,by omega,by omega,hx.symm⟩
  have hnew : ¬ ((∃ j,j < k ∧ dlG g.nx L x c = gt part j) ∨ ∃ r',r' < r ∧ gt ls (lo + r') = x):=by
   rintro (⟨j,hj,e⟩ | ⟨r',hr',e⟩)
   ·rw [hxm.2,ht] at e;have g1 : gt part k = part[k]:=by show part.getD k 0 = _; rw [List.getD_eq_getElem?_getD,List.getElem?_eq_getElem hkk]; rfl
    have g2 : gt part j = part[j]:=by show part.getD j 0 = _; rw [List.getD_eq_getElem?_getD,List.getElem?_eq_getElem (by omega)]; rfl
    rw [g1,g2] at e;exact List.pairwise_iff_getElem.1 (List.nodup_iff_pairwise_ne.1 hpn) j k (by omega) hkk hj e.symm
   ·rw [hx] at e;exact hnd (lo + r') (lo + r) (by omega) (by omega) (by omega) e
  refine wp_seq (wp_block (wp_seq (ai [(0,Vp b),(3,Vp pb),(6,Vp sb),(42,vp),(43,Vi B.length),(44,Vi i),(8,vi),(51,Vi L),(52,Vi c),(9,Vi c),(55,vi),(56,Vi part.length),(57,Vi k),(64,.slice (some ⟨gl,lo,none⟩) (hi' - lo) cp),(65,Vi (hi' - lo : Nat)),(66,Vi r),(13,.int .i32 (x : Int))] (· = w22) af hS ?_ (fun a w23 hS hw=>?_))))
  ·obtain ⟨V,h⟩:=h;have hc:=h.r.cS (i:=9) (g:=gl) (n:=ls.length) (c:=cl) (xs:=ls) (by show some (oS SV.ls ls) = _; rw [hls]) (j:=lo + r) (by omega);rw [← hx,Nat.zero_add] at hc
   repeat refine zX rfl ?_
   refine zI rfl (rfl) (hrr) ?_;refine zL rfl (hc) ?_
   repeat refine zX rfl ?_
   exact aj ⟨⟨rfl,rfl,rfl,rfl,rfl,rfl,rfl,rfl,rfl,rfl,rfl,rfl,rfl,rfl,rfl,rfl,rfl,trivial⟩,rfl⟩
  subst hw;refine ai [(0,Vp b),(3,Vp pb),(6,Vp sb),(42,vp),(43,Vi B.length),(44,Vi i),(8,vi),(51,Vi L),(52,Vi c),(9,Vi c),(55,vi),(56,Vi part.length),(57,Vi k),(64,.slice (some ⟨gl,lo,none⟩) (hi' - lo) cp),(65,Vi (hi' - lo : Nat)),(66,Vi r)] (fun w'=>du base w0 w' pb (q2.mark x) (srR sb L fs ls SV ++ (grR b L tot g GVa ++ (ia vp vs (B.map p1.mem) ++ rest)))) af hS ?_ (fun a w24 hS h=>?_)
  ·repeat refine zX rfl ?_
   refine zN rfl (lg x (by omega)) ?_;refine zF rfl (ag0) (ab6 h hM.pi hxm.1 (fun hm=>hnew ((hM.m x hxm.1).1 hm)) (by omega)) ?_;rintro e w8 ⟨rfl,h2⟩;refine ⟨_,rfl,?_⟩
   repeat refine zX rfl ?_
   exact aj ⟨⟨rfl,rfl,rfl,rfl,rfl,rfl,rfl,rfl,rfl,rfl,rfl,rfl,rfl,rfl,rfl,rfl,trivial⟩,h2⟩
  refine ay ?_;refine ai [(0,Vp b),(3,Vp pb),(6,Vp sb),(42,vp),(43,Vi B.length),(44,Vi i),(8,vi),(51,Vi L),(52,Vi c),(9,Vi c),(55,vi),(56,Vi part.length),(57,Vi k),(64,.slice (some ⟨gl,lo,none⟩) (hi' - lo) cp),(65,Vi (hi' - lo : Nat)),(66,Vi (r + 1 : Nat))] (· = w24) af hS ?_ (fun a w25 hS hw=>?_)
  ·repeat refine zX rfl ?_
   refine zN rfl (bm _ 1 (by omega)) ?_
   repeat refine zX rfl ?_
   exact aj ⟨⟨rfl,rfl,rfl,rfl,rfl,rfl,rfl,rfl,rfl,rfl,rfl,rfl,rfl,rfl,rfl,rfl,trivial⟩,rfl⟩
  subst hw;refine ⟨hi' - lo - (r + 1),_,by omega,⟨r + 1,_,by omega,rfl,rfl,(hM.step hxm.1 hnew).imp (fun s hs=>?_),h⟩,hS⟩
  constructor
  ·rintro ((h1 | ⟨r',hr',e⟩) | rfl)
   ·exact .inl h1
   ·exact .inr ⟨r',by omega,e⟩
   ·exact .inr ⟨r,by omega,hx.symm⟩
  ·rintro (h1 | ⟨r',hr',e⟩)
   ·exact .inl (.inl h1)
   ·by_cases er : r' = r
    ·subst er; exact .inr (by rw [hx]; exact e.symm)
    ·exact .inl (.inr ⟨r',by omega,e⟩)
 clear h hS;rintro a w16 ⟨hS,q',hM,h⟩;obtain ⟨hs1,hs2,hs3,hs4⟩:=hM.split hql;rw [hs2] at hs1;refine ai [(0,Vp b),(3,Vp pb),(6,Vp sb),(42,vp),(43,Vi B.length),(44,Vi i),(8,vi),(51,Vi L),(52,Vi c)] (fun w'=>du base w0 w' pb q'.split (srR sb L fs ls SV ++ (grR b L tot g GVa ++ (ia vp vs (B.map p1.mem) ++ rest)))) af hS ?_ (fun a w17 hS h=>?_)
 ·have hlow : q'.low ≤ q'.bs.length:=by
   rw [hM.len];have : q'.low = q.low:=by unfold Pt.low; rw [hM.cs]
   rw [this]; exact hql
  repeat refine zX rfl ?_
  refine zF rfl (aci) (x8 h hM.pi hlow (by rw [hM.cs]; omega) (by rw [hM.cs]; omega) (by omega)) ?_;rintro e w8 ⟨rfl,h2⟩;refine ⟨_,rfl,?_⟩
  repeat refine zX rfl ?_
  exact aj ⟨⟨rfl,rfl,rfl,rfl,rfl,rfl,rfl,rfl,rfl,trivial⟩,h2⟩
 refine ay ?_;refine ai [(0,Vp b),(3,Vp pb),(6,Vp sb),(42,vp),(43,Vi B.length),(44,Vi i),(8,vi),(51,Vi L),(52,Vi (c + 1 : Nat))] (· = w17) af hS ?_ (fun a w18 hS hw=>?_)
 ·repeat refine zX rfl ?_
  refine zN rfl (bm _ 1 (by omega)) ?_
  repeat refine zX rfl ?_
  exact aj ⟨⟨rfl,rfl,rfl,rfl,rfl,rfl,rfl,rfl,rfl,trivial⟩,rfl⟩
 subst hw;exact ⟨L - (c + 1),_,by omega,⟨c + 1,_,by omega,rfl,rfl,hs1,hs2,hq3.trans hl1.lowLe hs3,hq4.step hii hcc hs4,h⟩,hS⟩
end
end
section
def agt (p : Nat → Bool) (n : Nat) : Nat:=((List.range n).find? p).getD 0
theorem s6 {p : Nat → Bool} {n c : Nat} (hc : c < n) (h : p c = true) (hb : ∀ d,d < c → p d = false) : agt p n = c:=by
 unfold agt
 have : (List.range n).find? p = some c:=by
  rw [List.find?_range_eq_some];exact ⟨h,List.mem_range.2 hc,fun j hj=>by simp [hb j hj]⟩
 rw [this]; rfl
theorem ags (p : Nat → Bool) (n : Nat) : (∀ d,d < n → p d = false) ∨ ∃ c,c < n ∧ p c = true ∧ ∀ d,d < c → p d = false:=by
 rcases ab8 p n with h | ⟨i,h1,h2,h3⟩
 ·exact .inl h
 ·exact .inr ⟨i,h1,h2,h3⟩
section
variable (L : Nat) (dl : Nat → Nat → Nat) (lev : Nat → Nat → Nat)
def jm : Nat → Nat → Nat → List Nat
 | 0,_,_=>[]
 | r + 1,x,y=>match decide (lev (r + 1) x ≠ lev (r + 1) y) with
   | true=>jm r x y
   | false=>let c:=agt (fun c=>decide (lev (r + 1) (dl x c) ≠ lev (r + 1) (dl y c))) L
     c :: jm r (dl x c) (dl y c)
end
inductive LexLe : List Nat → List Nat → Prop
 | nil : LexLe [] []
 | lt {c d : Nat} {v u : List Nat} (h : c < d) (hl : v.length = u.length) : LexLe (c :: v) (d :: u)
 | eq {c : Nat} {v u : List Nat} (h : LexLe v u) : LexLe (c :: v) (c :: u)
abbrev ajv (K : Nat) (x : Nat) (w : List Nat) : Nat:=w.foldl (fun x c=>x * K + (c + 1)) x
theorem acm {K : Nat} : ∀ (v u : List Nat) (x y : Nat),v.length = u.length → Word K v → x < y → ajv K x v < ajv K y u
 | [],[],x,y,_,_,h=>h
 | a :: v,b :: u,x,y,hl,hv,h=>acm v u _ _ (by simpa using hl) hv.tail (ahf h hv.head)
 | [],_ :: _,_,_,hl,_,_=>by simp at hl
 | _ :: _,[],_,_,hl,_,_=>by simp at hl
theorem LexLe.code {K : Nat} {v u : List Nat} (h : LexLe v u) (hv : Word K v) : ∀ x,ajv K x v ≤ ajv K x u:=by
 induction h with
 | nil=>intro x; exact Nat.le_refl _
 | @lt c d v u h hl=>
   intro x;exact Nat.le_of_lt (acm v u (x * K + (c + 1)) (x * K + (d + 1)) hl hv.tail (by omega))
 | eq h ih=>intro x; exact ih hv.tail _
section
variable {N L R : Nat} {dl : Nat → Nat → Nat} {en : Nat → Bool} {p : Pt} {lev : Nat → Nat → Nat}
def Tell (dl : Nat → Nat → Nat) (en : Nat → Bool) (x y : Nat) (w : List Nat) : Prop:=en (rnG dl x w) ≠ en (rnG dl y w)
theorem mf (h : Lev L dl en p N lev R) (hdl : ∀ s c,s < N → c < L → dl s c < N) : ∀ (r x y : Nat),x < N → y < N → r + 1 ≤ R → lev (r + 1) x ≠ lev (r + 1) y →
  Word L (jm L dl lev r x y) ∧ (jm L dl lev r x y).length ≤ r ∧ Tell dl en x y (jm L dl lev r x y) ∧
  ∀ u,Word L u → Tell dl en x y u → (jm L dl lev r x y).length < u.length ∨ LexLe (jm L dl lev r x y) u
 | 0,x,y,hx,hy,hR,ha=>by
   have h1 : ¬ EqG L dl en 1 x y:=fun e=>ha ((h.sem 1 hR x y hx hy).2 e);rw [EqG.one] at h1;refine ⟨Word.nil _,Nat.le_refl _,h1,fun u _ hu=>?_⟩
   cases u with
   | nil=>exact .inr .nil
   | cons c u=>exact .inl (by simp [jm])
 | r + 1,x,y,hx,hy,hR,ha=>by
   unfold jm
   cases hd : decide (lev (r + 1) x ≠ lev (r + 1) y)
   case true=>
    obtain ⟨h1,h2,h3,h4⟩:=mf h hdl r x y hx hy (by omega) (of_decide_eq_true hd);exact ⟨h1,Nat.le_succ_of_le h2,h3,h4⟩
   case false=>
    have heq:=Decidable.not_not.1 (of_decide_eq_false hd);have hE:=(h.sem (r + 1) (by omega) x y hx hy).1 heq;have hnE : ¬ EqG L dl en (r + 2) x y:=fun e=>ha ((h.sem (r + 2) hR x y hx hy).2 e);have sem : ∀ c,c < L → (lev (r + 1) (dl x c) = lev (r + 1) (dl y c) ↔ EqG L dl en (r + 1) (dl x c) (dl y c)):=fun c hc=>h.sem (r + 1) (by omega) _ _ (hdl x c hx hc) (hdl y c hy hc)
    rcases ags (fun c=>decide (lev (r + 1) (dl x c) ≠ lev (r + 1) (dl y c))) L with hall | ⟨c,hc,hpc,hb⟩
    ·refine (hnE (EqG.succ.2 ⟨EqG.one.1 (hE.mono (by omega)),fun c hc=>?_⟩)).elim;exact (sem c hc).1 (Decidable.not_not.1 (of_decide_eq_false (hall c hc)))
    ·have hf:=s6 hc hpc hb;simp only [hf];have hac : lev (r + 1) (dl x c) ≠ lev (r + 1) (dl y c):=of_decide_eq_true hpc;obtain ⟨h1,h2,h3,h4⟩:=mf h hdl r (dl x c) (dl y c) (hdl x c hx hc) (hdl y c hy hc) (by omega) hac;have hTell : Tell dl en x y (c :: jm L dl lev r (dl x c) (dl y c)):=h3
     have low : ∀ u,Word L u → Tell dl en x y u → r + 1 ≤ u.length:=fun u hu ht=>by
      refine Nat.le_of_not_lt fun hlt=>ht (hE u hu hlt)
     have hlen:=low _ (Word.cons hc h1) hTell;simp only [List.length_cons] at hlen;refine ⟨Word.cons hc h1,by simp only [List.length_cons]; omega,hTell,fun u hu ht=>?_⟩;have hul:=low u hu ht
     cases u with
     | nil=>simp at hul
     | cons d u=>
       simp only [List.length_cons] at hul ⊢
       by_cases hlt : r < u.length
       ·exact .inl (by omega)
       ·have hul2 : u.length = r:=by omega
        have hdne : lev (r + 1) (dl x d) ≠ lev (r + 1) (dl y d):=fun e=>ht ((sem d hu.head).1 e u hu.tail (by omega))
        rcases Nat.lt_trichotomy c d with hcd | rfl | hcd
        ·exact .inr (.lt hcd (by omega))
        ·rcases h4 u hu.tail ht with h5 | h5
         ·omega
         ·exact .inr (.eq h5)
        ·have:=hb d hcd
         exact (hdne (Decidable.not_not.1 (of_decide_eq_false this))).elim
theorem acx {s1 s2 : Int} {n1 n2 : List (List Int)} {f1 f2 : List Bool} (h : Lev L dl en p N lev R) (hdl : ∀ s c,s < N → c < L → dl s c < N) {x y : Nat} (hx : x < N) (hy : y < N) (hR : 0 < R) (ha : lev R x ≠ lev R y)
  (g1 : ∀ w,Word L w → en (rnG dl x w) = accM n1 f1 s1 w) (g2 : ∀ w,Word L w → en (rnG dl y w) = accM n2 f2 s2 w) :
  ah1 L s1 n1 f1 s2 n2 f2 (jm L dl lev (R - 1) x y) (en (rnG dl x (jm L dl lev (R - 1) x y))) 0:=by
 obtain ⟨h1,h2,h3,h4⟩:=mf h hdl (R - 1) x y hx hy (by omega) (by rw [show R - 1 + 1 = R by omega]; exact ha);refine .inl ⟨rfl,h1,?_,g1 _ h1,fun u hu hne=>?_⟩
 ·rw [← g1 _ h1,← g2 _ h1]; exact h3
 ·have ht : Tell dl en x y u:=by
   unfold Tell;rw [g1 _ hu,g2 _ hu]; exact hne
  rcases h4 u hu ht with h5 | h5
  ·exact Nat.le_of_lt (y7 _ _ _ (Nat.le_refl _) h1 hu h5)
  ·exact h5.code h1 0
end
end
section
open Go Sym
theorem ajn : bk Tryz.prog 39 = true:=by kernel_rfl
theorem akh (a b c d e f g h : Value) (cs : Array Value) : Instr.fill (fun i=>some (i * 4,4)) (madeCells cs (2 * 4)) [(0,.agg #[a,b,c,d]),(1,.agg #[e,f,g,h])] = some #[a,b,c,d,e,f,g,h]:=by
 have hz : (madeCells cs (2 * 4)).size = 8:=by simp [madeCells]
 generalize madeCells cs (2 * 4) = z at hz ⊢
 obtain ⟨l⟩:=z
 match l,hz with
 | [_,_,_,_,_,_,_,_],_=>
   have h1 : (Value.agg #[a,b,c,d]).cells = #[a,b,c,d]:=rfl;have h2 : (Value.agg #[e,f,g,h]).cells = #[e,f,g,h]:=rfl;simp [Instr.fill,h1,h2]
structure TwoF (Ln tot : Nat) (s1 : Int) (n1 : List (List Int)) (f1 : List Bool) (s2 : Int) (n2 : List (List Int)) (f2 : List Bool) (g : GP) (x y : Nat) : Prop where
 st : g.st = [x,y]
 gr : Gr (tot + 1) Ln g.nx g.en
 xl : x < tot + 1
 yl : y < tot + 1
 g1 : ∀ w,Word Ln w → enG g.en (rnG (dlG g.nx Ln) x w) = accM n1 f1 s1 w
 g2 : ∀ w,Word Ln w → enG g.en (rnG (dlG g.nx Ln) y w) = accM n2 f2 s2 w
theorem x5 {L s1 s2 : Int} {n1 n2 : List (List Int)} {f1 f2 : List Bool} (h1 : Shape L s1 n1 f1) (h2 : Shape L s2 n2 f2) : ∃ x y,TwoF L.toNat (n1.length + n2.length) s1 n1 f1 s2 n2 f2 (layG L.toNat [⟨s1,n1,f1⟩,⟨s2,n2,f2⟩]) x y:=by
 obtain ⟨k1,k2⟩:=jw h1;obtain ⟨k3,k4⟩:=jw h2;obtain ⟨nx,en,e,l1,l2,d1,d2,hle⟩:=lay_two k1 k3 k2 k4;have hL : ((L.toNat : Nat) : Int) = L:=by have:=h1.L0; omega
 have h1' : Shape ((L.toNat : Nat) : Int) s1 n1 f1:=by rw [hL]; exact h1
 have h2' : Shape ((L.toNat : Nat) : Int) s2 n2 f2:=by rw [hL]; exact h2
 have t1:=sq (m:=⟨s1,n1,f1⟩) h1' d1 l1 l2;have t2:=sq (m:=⟨s2,n2,f2⟩) h2' d2 l1 l2;rw [e];exact ⟨_,_,rfl,gr_of l1 l2 hle,aka (m:=⟨s1,n1,f1⟩) (by simp) h1.s2,aka (m:=⟨s2,n2,f2⟩) (by simp) h2.s2,fun w hw=>t1 w s1 h1.s1 h1.s2 hw,fun w hw=>t2 w s2 h2.s1 h2.s2 hw⟩
theorem MsIn.two {w : World} {Bm : Nat} {L s1 s2 : Int} {vn1 ve1 vn2 ve2 : Value} {n1 n2 : List (List Int)} {f1 f2 : List Bool} (hm : Ma w L s1 n1 f1 vn1 ve1) (hm2 : Ma w L s2 n2 f2 vn2 ve2)
  (hc : ca w.cell? Bm 0 [Vi L,Vi s1,vn1,ve1,Vi L,Vi s2,vn2,ve2]) : MsIn w Bm L [⟨s1,n1,f1⟩,⟨s2,n2,f2⟩]:=fun j hj=>by
 obtain ⟨c0,c1,c2,c3,c4,c5,c6,c7,_⟩:=hc
 match j,hj with
 | 0,_=>exact ⟨vn1,ve1,⟨c0,c1,c2,c3,trivial⟩,hm⟩
 | 1,_=>exact ⟨vn2,ve2,⟨c4,c5,c6,c7,trivial⟩,hm2⟩
theorem ahr (L s1 s2 : Int) (vn1 ve1 vn2 ve2 : Value) (n1 n2 : List (List Int)) (f1 f2 : List Bool) (w : World) (hm : Ma w L s1 n1 f1 vn1 ve1) (hm2 : Ma w L s2 n2 f2 vn2 ve2) (h1 : Shape L s1 n1 f1) (h2 : Shape L s2 n2 f2) (hL : L ≤ 300) (hl1 : n1.length ≤ 4000) (hl2 : n2.length ≤ 4000) :
  Calls Tryz.prog 39 #[.agg #[Vi L,Vi s1,vn1,ve1],.agg #[Vi L,Vi s2,vn2,ve2]] w fun e w'=>∃ b,e = .returned (.bool b) ∧ (b = true ↔ dq L.toNat n1 f1 s1 n2 f2 s2) ∧ RowKit.Below w.heap.size w w':=by
 refine Sym.c8 (args:=[.agg #[Vi L,Vi s1,vn1,ve1],.agg #[Vi L,Vi s2,vn2,ve2]]) Tryz.func39 rfl rfl rfl (fun a0 hS0=>?_);obtain ⟨B,hBB⟩ : ∃ B,B = w.heap.size:=⟨_,rfl⟩;refine wp_seq (ai [(2,Vp B),(3,Vp (B + 1))] (· = (w.alloc (.cells #[Vi L,Vi s1,vn1,ve1] 25)).alloc (.cells #[Vi L,Vi s2,vn2,ve2] 25)) af hS0 ?_ (fun a wc hS hw=>?_))
 ·subst hBB;refine zB rfl ?_;refine zB rfl ?_;rw [b5]
  repeat refine zX rfl ?_
  exact aj ⟨⟨rfl,rfl,trivial⟩,rfl⟩
 obtain ⟨hB,hx1,hx2⟩:=lc hw;rw [← hBB] at hx1 hx2;clear hw;replace hm:=hm.keep hB;replace hm2:=hm2.keep hB;have h:=(Hold.start w).below hB;obtain ⟨x,y,hT⟩:=x5 h1 h2;obtain ⟨Ln,hLn⟩ : ∃ Ln : Nat,L = (Ln : Int):=⟨L.toNat,by have:=h1.L0; omega⟩;subst hLn;rw [Int.toNat_natCast] at hT ⊢;obtain ⟨g,hg⟩ : ∃ g,g = layG Ln [⟨s1,n1,f1⟩,⟨s2,n2,f2⟩]:=⟨_,rfl⟩;rw [← hg] at hT;obtain ⟨tot,htot⟩ : ∃ tot,tot = n1.length + n2.length:=⟨_,rfl⟩;rw [← htot] at hT;have htg : totG [⟨s1,n1,f1⟩,⟨s2,n2,f2⟩] = tot:=by simp [totG,htot]
 obtain ⟨k1,k2⟩:=jw h1;obtain ⟨k3,k4⟩:=jw h2;rw [Int.toNat_natCast] at k1 k3;refine wp_seq (bg (α:=Nat × GV) (fun v=>[(5,Vp v.1)]) (fun v w'=>Hold w.heap.size w w' (grR v.1 Ln tot g v.2 ++ [])) af hS ?_ (fun v a w2 hS h=>?_))
 ·repeat refine zX rfl ?_
  refine zL rfl (hx1.c0) ?_;refine zA ([Vi Ln,Vi s1,vn1,ve1]) rfl rfl (⟨hx1.c0,hx1.c1,hx1.c2,hx1.c3,trivial⟩) ?_;refine zA ([Vi Ln,Vi s2,vn2,ve2]) rfl rfl (⟨hx2.c0,hx2.c1,hx2.c2,hx2.c3,trivial⟩) ?_;refine b8 rfl rfl rfl ?_;refine exI [(0,.agg #[Vi Ln,Vi s1,vn1,ve1]),(1,.agg #[Vi Ln,Vi s2,vn2,ve2])] (exI #[Vi Ln,Vi s1,vn1,ve1,Vi Ln,Vi s2,vn2,ve2] (anI (anI rfl rfl) (anI (by decide) (anI (akh _ _ _ _ _ _ _ _ _) ?_))));have ha:=ao wc (.cells #[Vi Ln,Vi s1,vn1,ve1,Vi Ln,Vi s2,vn2,ve2] 25);have hMs:=MsIn.two (Bm:=wc.heap.size) (hm.keep ha) (hm2.keep ha) ⟨ax rfl,ax rfl,ax rfl,ax rfl,ax rfl,ax rfl,ax rfl,ax rfl,trivial⟩
  have hlay:=aaq (cm:=2) hMs (by simp) (by simp) (by omega) (by
   intro m hmm;simp only [List.mem_cons,List.not_mem_nil,or_false] at hmm
   rcases hmm with rfl | rfl
   ·exact ⟨k1,k2,h1.s2⟩
   ·exact ⟨k3,k4,h2.s2⟩) (by rw [htg]; omega)
  rw [htg,← hg] at hlay;refine zF rfl (ag3) (hlay) ?_;rintro e w3 ⟨gb,V,rfl,hG⟩;refine ⟨_,rfl,?_⟩
  repeat refine zX rfl ?_
  exact aj ⟨(gb,V),⟨rfl,trivial⟩,by
   have:=(h.below ha).join hG
   exact this⟩
 obtain ⟨gb,gv⟩:=v;simp only at hS h;refine wp_seq (bg (α:=Nat × Pt × (Nat → Nat → Nat) × Nat) (fun v=>[(5,Vp gb),(6,Vp v.1)]) (fun v w'=>RefS Ln (tot + 1) g.nx g.en v.2.1 v.2.2.1 v.2.2.2 ∧ du w.heap.size w w' v.1 v.2.1 (grR gb Ln tot g gv ++ [])) af hS ?_ (fun v a w3 hS h=>?_))
 ·repeat refine zX rfl ?_
  refine zF rfl (ta) (qa h hT.gr (by omega) (by omega)) ?_;rintro e w3 ⟨pb,p,lev,R,rfl,hR,h2⟩;refine ⟨_,rfl,?_⟩
  repeat refine zX rfl ?_
  exact aj ⟨(pb,p,lev,R),⟨rfl,rfl,trivial⟩,hR,h2⟩
 obtain ⟨pb,p,lev,R⟩:=v;simp only at hS h;obtain ⟨hR,V,h⟩:=h;obtain ⟨vst,vpl,vbl,vbs,vcs,vml⟩:=V;obtain ⟨gst,gnx,gen⟩:=gv;have hbl:=hR.pi.bl;obtain ⟨gbl,cbl,rfl,-⟩:=h.r.nilOr (i:=3) rfl (by omega);obtain ⟨gs,cs,rfl,-⟩:=h.r.nilOr (i:=8) rfl (by rw [hT.st]; simp);have e0 : gt g.st 0 = x:=by rw [hT.st]; rfl
 have e1 : gt g.st 1 = y:=by rw [hT.st]; rfl
 have hgl : g.st.length = 2:=by rw [hT.st]; rfl
 have hxx:=hT.xl;have hyy:=hT.yl;refine wp_seq (b6 [(4,.bool (decide (gt p.bl x = gt p.bl y)))] af dc (by kernel_rfl) hS ?_ (fun a w4 hS hw=>?_))
 ·have c0:=h.r.cN (i:=8) rfl (j:=0) (by omega);have c1:=h.r.cN (i:=8) rfl (j:=1) (by omega);rw [e0] at c0;rw [e1] at c1
  repeat refine qX rfl ?_
  refine qL rfl (h.r.xcell (i:=0) rfl (j:=2) rfl) ?_
  repeat refine qX rfl ?_
  refine qL rfl (h.r.xcell (i:=7) rfl (j:=1) rfl) ?_;refine qI rfl (show (0 : Int) = ((0 : Nat) : Int) from rfl) ((by omega)) ?_
  refine qL rfl (c0) ?_;refine qI rfl (rfl) ((by omega)) ?_;refine qL rfl (h.r.cN (i:=3) rfl (j:=x) (by omega)) ?_
  repeat refine qX rfl ?_
  refine qL rfl (h.r.xcell (i:=0) rfl (j:=2) rfl) ?_
  repeat refine qX rfl ?_
  refine qL rfl (h.r.xcell (i:=7) rfl (j:=1) rfl) ?_;refine qI rfl (show (1 : Int) = ((1 : Nat) : Int) from rfl) ((by omega)) ?_
  refine qL rfl (c1) ?_;refine qI rfl (rfl) ((by omega)) ?_;refine qL rfl (h.r.cN (i:=3) rfl (j:=y) (by omega)) ?_;refine qC rfl (m7 _ _) ?_
  repeat refine qX rfl ?_
  exact fa ⟨rfl,trivial⟩
 refine wp_ret ?_
 repeat first|refine a8 ?_|refine am ?_
 refine ret1 hS rfl rfl ⟨_,rfl,?_,?_⟩
 ·rw [decide_eq_true_eq,hR.cur x hxx,hR.cur y hyy,hR.tells x y hxx hyy]
  constructor
  ·intro h w hw;rw [← hT.g1 w hw,← hT.g2 w hw]; exact h w hw
  ·intro h w hw;rw [hT.g1 w hw,hT.g2 w hw]; exact h w hw
 ·exact (h.below hw).b
theorem zy {N L R r x y : Nat} {dl : Nat → Nat → Nat} {en : Nat → Bool} {p : Pt} {lev : Nat → Nat → Nat} (h : Lev L dl en p N lev R) (hdl : ∀ s c,s < N → c < L → dl s c < N) (hx : x < N) (hy : y < N) (hr : r + 1 ≤ R) (h0 : 0 < r) (heq : lev r x = lev r y) (hne : lev (r + 1) x ≠ lev (r + 1) y)
  (hall : ∀ c,c < L → lev r (dl x c) = lev r (dl y c)) : False:=by
 have hE:=(h.sem r (by omega) x y hx hy).1 heq;refine hne ((h.sem (r + 1) hr x y hx hy).2 (EqG.succ.2 ⟨EqG.one.1 (hE.mono (by omega)),fun c hc=>?_⟩));exact (h.sem r (by omega) _ _ (hdl x c hx hc) (hdl y c hy hc)).1 (hall c hc)
theorem zq {L r x y : Nat} {dl lev : Nat → Nat → Nat} (h : lev (r + 1) x ≠ lev (r + 1) y) : jm L dl lev (r + 1) x y = jm L dl lev r x y:=by
 rw [jm,decide_eq_true h]
theorem xz {L r x y c : Nat} {dl lev : Nat → Nat → Nat} (h : lev (r + 1) x = lev (r + 1) y) (hc : c < L) (hn : lev (r + 1) (dl x c) ≠ lev (r + 1) (dl y c)) (hb : ∀ d,d < c → lev (r + 1) (dl x d) = lev (r + 1) (dl y d)) : jm L dl lev (r + 1) x y = c :: jm L dl lev r (dl x c) (dl y c):=by
 rw [jm,decide_eq_false (by simpa using h)]
 have:=s6 (p:=fun c=>decide (lev (r + 1) (dl x c) ≠ lev (r + 1) (dl y c))) hc (decide_eq_true hn) (fun d hd=>decide_eq_false (by simpa using hb d hd))
 simp only [this]
theorem ain (dl : Nat → Nat → Nat) (x : Nat) (w : List Nat) (c : Nat) : rnG dl x (w ++ [c]) = dl (rnG dl x w) c:=by simp [rnG,List.foldl_append]
theorem sl_nats {base : Nat} {w : World} {l : List Ow} (h : Rows base w l) {i : Nat} {v : Value} {xs : List Nat} (hi : l[i]? = some (oN v xs)) (hx : ∀ x ∈ xs,x ≤ 9223372036854775807) : Sl w v (xs.map Int.ofNat) PInt ∧ Ok v:=
 jn (P:=PInt) (h.1 i _ hi) (by simp) fun j hj=>by
  have hj' : j < xs.length:=by simpa using hj
  refine ⟨Vi (xs[j] : Int),by simp [hj'],?_⟩
  have:=hx _ (List.getElem_mem hj')
  rw [List.getElem_map];refine ⟨rfl,?_⟩;show (-9223372036854775808 : Int) ≤ ((xs[j] : Nat) : Int) ∧ ((xs[j] : Nat) : Int) ≤ 9223372036854775807;omega
theorem acb {x c N L : Nat} (hx : x < N) (hc : c < L) : x * L + c < N * L:=by
 have:=Nat.mul_le_mul_right L (show x + 1 ≤ N from hx)
 rw [Nat.succ_mul] at this; omega
theorem n8 {Q : Exit → Act → World → Prop} {a : Act} {w : World} (h : Q .ret a w) : Exit.noGoto Q .ret a w:=h
theorem ad4 {base : Nat} {w0 w : World} {pb gb Ln tot x y rd c : Nat} {q : Pt} {g : GP} {gv : GV} {wd : List Nat} {vw vL vx vy : Value} (h : du base w0 w pb q (grR gb Ln tot g gv ++ [oN vw wd])) (hl : wd.length ≤ 100000000)
  {Q : Exit → Act → World → Prop} {a : Act} {ops : Array Oper} {id : Nat} (hops : Sym.da Tryz.f13.body 18 = some (id,ops))
  (hS : St Tryz.f13.ntmps a [(4,vw),(8,Vp gb),(9,Vp pb),(10,Vi x),(11,Vi y),(12,Vi rd),(72,vL),(13,Vi c),(14,vx),(15,vy)])
  (hq : ∀ vw' a' w',St Tryz.f13.ntmps a' [(4,vw'),(8,Vp gb),(9,Vp pb),(10,Vi x),(11,Vi y),(12,Vi rd),(14,vx),(15,vy)] → du base w0 w' pb q (grR gb Ln tot g gv ++ [oN vw' (wd ++ [c])]) → Q .normal a' w') : (Code.region id ops false).wp Tryz.prog Q a w:=by
 cases hops
 refine bg (α:=Value) (fun vw'=>[(4,vw'),(8,Vp gb),(9,Vp pb),(10,Vi x),(11,Vi y),(12,Vi rd),(14,vx),(15,vy)]) (fun vw' w'=>du base w0 w' pb q (grR gb Ln tot g gv ++ [oN vw' (wd ++ [c])])) af hS ?_ hq;obtain ⟨V,h⟩:=h;obtain ⟨gw,cw,rfl,hcw⟩:=h.r.any (i:=11) rfl
 repeat refine zX rfl ?_
 refine b8 rfl rfl rfl ?_;refine exI [(0,Vi ((c : Int)))] (exI #[Vi ((c : Int))] (anI (anI rfl rfl) (anI (by decide) (anI (jv _ _ _) ?_))));have h1:=h.alloc (.cells #[Vi c] 3)
 have ask : AppAsk (w.alloc (.cells #[Vi c] 3)) ⟨3,.int .i64,1,8,Vi 0⟩ (.slice gw wd.length cw) wd.length (nats wd) (Vs w.heap.size 1 1) 1 [Vi c] base:=
  ⟨h1.r.1 11 _ rfl,.inr ⟨_,0,_,rfl,ax rfl,trivial⟩,rfl,(by simp [Value.oneCell']),(by omega),(by show (wd.length + 1) * 8 ≤ _; omega),h1.s⟩
 refine b8 rfl rfl rfl ?_;refine exI _ (exI _ (exI _ (exI _ (exI _ (anI (ask) (anI (fun _ h=>h.symm) (anI (by decide) ?_)))))));rintro v' w2 hown hgr - hat;have h2:=h1.appN (i:=11) rfl hown hgr hat
 repeat refine zX rfl ?_
 exact aj ⟨v',⟨rfl,rfl,rfl,rfl,rfl,rfl,rfl,rfl,trivial⟩,V,h2⟩
theorem abh (L1 s1 L2 s2 : Int) (vn1 ve1 vn2 ve2 : Value) (n1 n2 : List (List Int)) (f1 f2 : List Bool) (w : World) (hm : Ma w L1 s1 n1 f1 vn1 ve1) (hm2 : Ma w L2 s2 n2 f2 vn2 ve2) :
  Calls Tryz.prog 13 #[.agg #[Vi L1,Vi s1,vn1,ve1],.agg #[Vi L2,Vi s2,vn2,ve2]] w fun e w'=>∃ (vw : Value) (word : List Nat) (b : Bool) (r : Int),e = .returned (.tuple #[vw,.bool b,Vi r]) ∧ Sl w' vw (word.map Int.ofNat) PInt ∧ Ok vw ∧ RowKit.Below w.heap.size w w' ∧ aeh L1 s1 n1 f1 L2 s2 n2 f2 word b r:=by
 refine Sym.c8 (args:=[.agg #[Vi L1,Vi s1,vn1,ve1],.agg #[Vi L2,Vi s2,vn2,ve2]]) Tryz.func13 rfl rfl rfl (fun a0 hS0=>?_);obtain ⟨B,hBB⟩ : ∃ B,B = w.heap.size:=⟨_,rfl⟩;refine wp_seq (ai [(2,Vp B),(3,Vp (B + 1)),(4,.slice none 0 0),(5,.bool false),(6,Vi 0)] (· = (w.alloc (.cells #[Vi L1,Vi s1,vn1,ve1] 25)).alloc (.cells #[Vi L2,Vi s2,vn2,ve2] 25)) af hS0 ?_ (fun a wc hS hw=>?_))
 ·subst hBB;refine zB rfl ?_;refine zB rfl ?_;rw [b5]
  repeat refine zX rfl ?_
  exact aj ⟨⟨rfl,rfl,rfl,rfl,rfl,trivial⟩,rfl⟩
 obtain ⟨hB,hx1,hx2⟩:=lc hw;rw [← hBB] at hx1 hx2;clear hw;replace hm:=hm.keep hB;replace hm2:=hm2.keep hB;have nilok : ∀ w' : World,Sl w' (Value.slice none 0 0) (([] : List Nat).map Int.ofNat) PInt ∧ Ok (Value.slice none 0 0):=fun w'=>⟨⟨none,0,0,0,rfl,by simp,by simp,by omega,fun i hi=>by simp at hi⟩,.inl (.inl rfl)⟩;refine wp_scope_straight (wp_seq (wp_seq (ai [(2,Vp B),(3,Vp (B + 1)),(4,.slice none 0 0),(7,Vi (twoM L1 s1 n1 f1 L2 s2 n2 f2))] (fun w'=>RowKit.Below wc.heap.size wc w') af hS ?_ (fun a w2 hS hw=>?_))))
 ·refine zA ([Vi L1,Vi s1,vn1,ve1]) rfl rfl (⟨hx1.c0,hx1.c1,hx1.c2,hx1.c3,trivial⟩) ?_;refine zA ([Vi L2,Vi s2,vn2,ve2]) rfl rfl (⟨hx2.c0,hx2.c1,hx2.c2,hx2.c3,trivial⟩) ?_;refine zF rfl (aa5) (xx L1 s1 L2 s2 vn1 ve1 vn2 ve2 n1 n2 f1 f2 wc hm hm2) ?_;rintro e w3 ⟨rfl,h3⟩;refine ⟨_,rfl,?_⟩
  repeat refine zX rfl ?_
  exact aj ⟨⟨rfl,rfl,rfl,rfl,trivial⟩,h3⟩
 replace hx1:=hx1.keep hw;replace hx2:=hx2.keep hw;replace hm:=hm.keep hw;replace hm2:=hm2.keep hw;replace hB:=ak hB hw;clear hw;refine wp_seq (ai [(2,Vp B),(3,Vp (B + 1)),(4,.slice none 0 0),(7,Vi (twoM L1 s1 n1 f1 L2 s2 n2 f2)),(20,.bool (decide (twoM L1 s1 n1 f1 L2 s2 n2 f2 ≠ 0)))] (· = w2) af hS ?_ (fun a w3 hS hw=>?_))
 ·repeat refine zX rfl ?_
  refine zC rfl (rfl) ?_
  repeat refine zX rfl ?_
  exact aj ⟨⟨rfl,rfl,rfl,rfl,rfl,trivial⟩,rfl⟩
 subst hw;refine cond hS rfl (fun hT=>?_) (fun hF=>?_)
 ·refine wp_seq (ai [(4,.slice none 0 0),(5,.bool false),(6,Vi (twoM L1 s1 n1 f1 L2 s2 n2 f2))] (· = w3) af hS ?_ (fun a w4 hS hw=>?_))
  ·repeat refine zX rfl ?_
   exact aj ⟨⟨rfl,rfl,rfl,trivial⟩,rfl⟩
  subst hw;refine wp_ret ?_
  repeat first|refine a8 ?_|refine am ?_
  exact n8 (ret3 hS rfl rfl rfl rfl ⟨_,[],false,_,rfl,(nilok _).1,(nilok w).2,hB,.inl ⟨of_decide_eq_true hT,rfl,rfl,rfl⟩⟩)
 have h0:=Decidable.not_not.1 (of_decide_eq_false hF);obtain ⟨v1,v2,rfl⟩:=wa h0;obtain ⟨h1,hL,hl1⟩:=db v1;obtain ⟨h2,-,hl2⟩:=db v2;refine wp_skip ?_;have h:=(Hold.start w).below hB;obtain ⟨x0,y0,hT⟩:=x5 h1 h2;obtain ⟨Ln,hLn⟩ : ∃ Ln : Nat,L1 = (Ln : Int):=⟨L1.toNat,by have:=h1.L0; omega⟩;subst hLn;rw [Int.toNat_natCast] at hT;obtain ⟨g,hg⟩ : ∃ g,g = layG Ln [⟨s1,n1,f1⟩,⟨s2,n2,f2⟩]:=⟨_,rfl⟩;rw [← hg] at hT;obtain ⟨tot,htot⟩ : ∃ tot,tot = n1.length + n2.length:=⟨_,rfl⟩;rw [← htot] at hT;have htg : totG [⟨s1,n1,f1⟩,⟨s2,n2,f2⟩] = tot:=by simp [totG,htot]
 obtain ⟨k1,k2⟩:=jw h1;obtain ⟨k3,k4⟩:=jw h2;rw [Int.toNat_natCast] at k1 k3;refine wp_seq (bg (α:=Nat × GV) (fun v=>[(4,.slice none 0 0),(8,Vp v.1)]) (fun v w'=>Hold w.heap.size w w' (grR v.1 Ln tot g v.2 ++ [])) af hS ?_ (fun v a w4 hS h=>?_))
 ·repeat refine zX rfl ?_
  refine zL rfl (hx1.c0) ?_;refine zA ([Vi Ln,Vi s1,vn1,ve1]) rfl rfl (⟨hx1.c0,hx1.c1,hx1.c2,hx1.c3,trivial⟩) ?_;refine zA ([Vi Ln,Vi s2,vn2,ve2]) rfl rfl (⟨hx2.c0,hx2.c1,hx2.c2,hx2.c3,trivial⟩) ?_;refine b8 rfl rfl rfl ?_;refine exI [(0,.agg #[Vi Ln,Vi s1,vn1,ve1]),(1,.agg #[Vi Ln,Vi s2,vn2,ve2])] (exI #[Vi Ln,Vi s1,vn1,ve1,Vi Ln,Vi s2,vn2,ve2] (anI (anI rfl rfl) (anI (by decide) (anI (akh _ _ _ _ _ _ _ _ _) ?_))));have ha:=ao w3 (.cells #[Vi Ln,Vi s1,vn1,ve1,Vi Ln,Vi s2,vn2,ve2] 25);have hMs:=MsIn.two (Bm:=w3.heap.size) (hm.keep ha) (hm2.keep ha) ⟨ax rfl,ax rfl,ax rfl,ax rfl,ax rfl,ax rfl,ax rfl,ax rfl,trivial⟩
  have hlay:=aaq (cm:=2) hMs (by simp) (by simp) (by omega) (by
   intro m hmm;simp only [List.mem_cons,List.not_mem_nil,or_false] at hmm
   rcases hmm with rfl | rfl
   ·exact ⟨k1,k2,h1.s2⟩
   ·exact ⟨k3,k4,h2.s2⟩) (by rw [htg]; omega)
  rw [htg,← hg] at hlay;refine zF rfl (ag3) (hlay) ?_;rintro e w5 ⟨gb,V,rfl,hG⟩;refine ⟨_,rfl,?_⟩
  repeat refine zX rfl ?_
  exact aj ⟨(gb,V),⟨rfl,rfl,trivial⟩,(h.below ha).join hG⟩
 obtain ⟨gb,gv⟩:=v;simp only at hS h;refine wp_seq (bg (α:=Nat × Pt × (Nat → Nat → Nat) × Nat) (fun v=>[(4,.slice none 0 0),(8,Vp gb),(9,Vp v.1)]) (fun v w'=>RefS Ln (tot + 1) g.nx g.en v.2.1 v.2.2.1 v.2.2.2 ∧ du w.heap.size w w' v.1 v.2.1 (grR gb Ln tot g gv ++ [])) af hS ?_ (fun v a w5 hS h=>?_))
 ·repeat refine zX rfl ?_
  refine zF rfl (ta) (qa h hT.gr (by omega) (by omega)) ?_;rintro e w3 ⟨pb,p,lev,R,rfl,hR,h2⟩;refine ⟨_,rfl,?_⟩
  repeat refine zX rfl ?_
  exact aj ⟨(pb,p,lev,R),⟨rfl,rfl,rfl,trivial⟩,hR,h2⟩
 obtain ⟨pb,p,lev,R⟩:=v;simp only at hS h;obtain ⟨hR,V,h⟩:=h;obtain ⟨vst,vpl,vbl,vbs,vcs,vml⟩:=V;obtain ⟨gst,gnx,gen⟩:=gv;have hbl:=hR.pi.bl;obtain ⟨gbl,cbl,rfl,-⟩:=h.r.nilOr (i:=3) rfl (by omega);obtain ⟨gs,cs,rfl,-⟩:=h.r.nilOr (i:=8) rfl (by rw [hT.st]; simp);have e0 : gt g.st 0 = x0:=by rw [hT.st]; rfl
 have e1 : gt g.st 1 = y0:=by rw [hT.st]; rfl
 have hgl : g.st.length = 2:=by rw [hT.st]; rfl
 have hxx:=hT.xl;have hyy:=hT.yl;refine wp_seq (b6 [(4,.slice none 0 0),(8,Vp gb),(9,Vp pb),(10,Vi x0),(11,Vi y0)] af dc (by kernel_rfl) hS ?_ (fun a w6 hS hw=>?_))
 ·have c0:=h.r.cN (i:=8) rfl (j:=0) (by omega);have c1:=h.r.cN (i:=8) rfl (j:=1) (by omega);rw [e0] at c0;rw [e1] at c1
  repeat refine qX rfl ?_
  refine qL rfl (h.r.xcell (i:=7) rfl (j:=1) rfl) ?_;refine qI rfl (show (0 : Int) = ((0 : Nat) : Int) from rfl) ((by omega)) ?_
  refine qL rfl (c0) ?_
  repeat refine qX rfl ?_
  refine qL rfl (h.r.xcell (i:=7) rfl (j:=1) rfl) ?_;refine qI rfl (show (1 : Int) = ((1 : Nat) : Int) from rfl) ((by omega)) ?_
  refine qL rfl (c1) ?_
  repeat refine qX rfl ?_
  exact fa ⟨rfl,rfl,rfl,rfl,rfl,trivial⟩
 replace h:=h.below hw;clear hw;refine wp_seq (wp_seq (b6 [(4,.slice none 0 0),(8,Vp gb),(9,Vp pb),(10,Vi x0),(11,Vi y0),(56,.bool (decide (gt p.bl x0 = gt p.bl y0)))] af dc (by kernel_rfl) hS ?_ (fun a w7 hS hw=>?_)))
 ·repeat refine qX rfl ?_
  refine qL rfl (h.r.xcell (i:=0) rfl (j:=2) rfl) ?_
  repeat refine qX rfl ?_
  refine qI rfl (rfl) ((by omega)) ?_;refine qL rfl (h.r.cN (i:=3) rfl (j:=x0) (by omega)) ?_
  repeat refine qX rfl ?_
  refine qL rfl (h.r.xcell (i:=0) rfl (j:=2) rfl) ?_
  repeat refine qX rfl ?_
  refine qI rfl (rfl) ((by omega)) ?_;refine qL rfl (h.r.cN (i:=3) rfl (j:=y0) (by omega)) ?_;refine qC rfl (m7 _ _) ?_
  repeat refine qX rfl ?_
  exact fa ⟨rfl,rfl,rfl,rfl,rfl,rfl,trivial⟩
 replace h:=h.below hw;clear hw;refine cond hS rfl (fun hT2=>?_) (fun hF2=>?_)
 ·refine wp_seq (ai [(4,.slice none 0 0),(5,.bool false),(6,Vi 7)] (· = w7) af hS ?_ (fun a w8 hS hw=>?_))
  ·repeat refine zX rfl ?_
   exact aj ⟨⟨rfl,rfl,rfl,trivial⟩,rfl⟩
  subst hw;have heq:=of_decide_eq_true hT2;rw [hR.cur x0 hxx,hR.cur y0 hyy,hR.tells x0 y0 hxx hyy] at heq;refine wp_ret ?_
  repeat first|refine a8 ?_|refine am ?_
  refine n8 (ret3 hS rfl rfl rfl rfl ⟨_,[],false,7,rfl,(nilok _).1,(nilok w).2,h.b,.inr ⟨h0,.inr ⟨rfl,rfl,rfl,fun w hw=>?_⟩⟩⟩);rw [Int.toNat_natCast] at hw;rw [← hT.g1 w hw,← hT.g2 w hw]; exact heq w hw
 have hne:=of_decide_eq_false hF2;rw [hR.cur x0 hxx,hR.cur y0 hyy] at hne;refine wp_skip ?_;refine wp_seq (wp_label ?_);have hcs:=hR.lv.cs;have hpos:=hR.pos;have hfew:=hR.few;have hdl : ∀ s c,s < tot + 1 → c < Ln → dlG g.nx Ln s c < tot + 1:=fun s c hs hc=>hT.gr.lt s c hs hc;have hlen:=hT.gr.len;have hLb : Ln ≤ 300:=by omega
 have hNb : tot + 1 ≤ 10000:=by omega
 have hbs : p.bs.length ≤ 100000000:=by have:=hR.pi.few; omega
 have hpt:=acx (s1:=s1) (s2:=s2) hR.lv hdl hxx hyy hpos hne hT.g1 hT.g2;have hwsp:=mf hR.lv hdl (R - 1) x0 y0 hxx hyy (by omega) (by rw [show R - 1 + 1 = R by omega]; exact hne);obtain ⟨GVa,hGV⟩ : ∃ v : GV,v = ⟨Vs gs g.st.length cs,gnx,gen⟩:=⟨_,rfl⟩
 have hN : du w.heap.size w w7 pb { p with bl:=p.bl } (grR gb Ln tot g GVa ++ [oN (.slice none 0 0) []]):=by
  rw [List.append_nil] at h;refine ⟨⟨vst,vpl,Vs gbl p.bl.length cbl,vbs,vcs,vml⟩,?_⟩;rw [hGV,← List.append_assoc];exact (h.nil _ _).perm (List.perm_append_comm (l₁:=[_]))
 clear h;refine wp_seq (wp_seq (ai [(4,.slice none 0 0),(8,Vp gb),(9,Vp pb),(10,Vi x0),(11,Vi y0),(12,Vi (R - 1 : Nat))] (fun w'=>du w.heap.size w w' pb { p with bl:=p.bl } (grR gb Ln tot g GVa ++ [oN (.slice none 0 0) []])) af hS ?_ (fun a w8 hS h=>?_)))
 ·obtain ⟨V,h⟩:=hN;have e1 : IntKind.i64.wrap (((p.cs.length - 1 : Nat) : Int) - 1) = ((R - 1 : Nat) : Int):=by rw [hcs]; exact qk R 1 (by omega) (by omega)
  repeat refine zX rfl ?_
  refine zF rfl (mz) (kd h (by omega) (by omega)) ?_;rintro e w8 ⟨rfl,h2⟩;refine ⟨_,rfl,?_⟩;refine zN rfl (e1) ?_
  repeat refine zX rfl ?_
  exact aj ⟨⟨rfl,rfl,rfl,rfl,rfl,rfl,trivial⟩,⟨V,h.below h2⟩⟩
 clear hN
 refine wp_block (cz hS (fun rd E w'=>∃ (x y : Nat) (wd bl : List Nat) (vw : Value),E = [(4,vw),(8,Vp gb),(9,Vp pb),(10,Vi x),(11,Vi y),(12,Vi rd)] ∧ rd + 1 ≤ R ∧ x < tot + 1 ∧ y < tot + 1 ∧ lev (rd + 1) x ≠ lev (rd + 1) y ∧ wd ++ jm Ln (dlG g.nx Ln) lev rd x y = jm Ln (dlG g.nx Ln) lev (R - 1) x0 y0 ∧ rnG (dlG g.nx Ln) x0 wd = x ∧ wd.length + rd ≤ R ∧ o4 lev (tot + 1) R rd bl ∧ du w.heap.size w w' pb { p with bl:=bl } (grR gb Ln tot g GVa ++ [oN vw wd])) (R - 1)
  ⟨x0,y0,[],p.bl,_,rfl,by omega,hxx,hyy,by rw [show R - 1 + 1 = R by omega]; exact hne,rfl,rfl,by simp,⟨hbl,fun s hs=>⟨R,by omega,Nat.le_refl _,hR.cur s hs⟩⟩,h⟩ ?_)
 clear h hS;rintro rd E w9 a ⟨x,y,wd,bl,vw,rfl,hrd,hx,hy,hap,hwk,hxe,hwl,hbk,h⟩ hS;refine wp_seq (wp_seq (ai [(4,vw),(8,Vp gb),(9,Vp pb),(10,Vi x),(11,Vi y),(12,Vi rd),(61,.bool (decide (0 < rd)))] (· = w9) af hS ?_ (fun a w10 hS hw=>?_)))
 ·repeat refine zX rfl ?_
  refine zC rfl (gt_nat rd 0) ?_
  repeat refine zX rfl ?_
  exact aj ⟨⟨rfl,rfl,rfl,rfl,rfl,rfl,rfl,trivial⟩,rfl⟩
 subst hw;refine cond hS rfl (fun hTr=>wp_skip ?_) (fun hFr=>?_)
 rotate_left
 ·have h0r : rd = 0:=by have:=of_decide_eq_false hFr; omega
  subst h0r;rw [show jm Ln (dlG g.nx Ln) lev 0 x y = [] from rfl,List.append_nil] at hwk
  refine wp_exit ?_
  repeat first|refine bf ?_|refine ba ?_|refine az rfl ?_
  obtain ⟨⟨ust,upl,ubl,ubs,ucs,uml⟩,h⟩:=h;obtain ⟨hst,hnx,hen⟩:=GVa;have henl:=hT.gr.enl;obtain ⟨ge,ce,rfl,-⟩:=h.r.nilOr (i:=10) rfl (by omega);refine wp_seq (b6 [(4,vw),(5,.bool (enG g.en x)),(6,Vi 0)] af dc (by kernel_rfl) hS ?_ (fun a w11 hS hw=>?_))
  ·repeat refine qX rfl ?_
   refine qL rfl (h.r.xcell (i:=7) rfl (j:=3) rfl) ?_
   repeat refine qX rfl ?_
   refine qI rfl (rfl) ((by omega)) ?_;refine qL rfl (h.r.cB (i:=10) rfl (j:=x) (by omega)) ?_
   repeat refine qX rfl ?_
   exact fa ⟨rfl,rfl,rfl,trivial⟩
  replace h:=h.below hw
  have hsl:=sl_nats h.r (i:=11) rfl (fun z hz=>by
   have:=(hwk ▸ hwsp.1 : Word Ln wd) z hz
   omega)
  refine wp_ret ?_
  repeat first|refine a8 ?_|refine am ?_
  refine n8 (ret3 hS rfl rfl rfl rfl ⟨vw,wd,enG g.en x,0,rfl,hsl.1,hsl.2,h.b,.inr ⟨h0,?_⟩⟩);rw [Int.toNat_natCast];rw [← hwk] at hpt;rw [hxe] at hpt;exact hpt
 have hr0 : 0 < rd:=of_decide_eq_true hTr;obtain ⟨r,rfl⟩ : ∃ r,rd = r + 1:=⟨rd - 1,by omega⟩;refine wp_seq (cut (F:=fun a' w'=>∃ (x' y' : Nat) (wd' bl' : List Nat) (vw' : Value),St Tryz.f13.ntmps a' [(4,vw'),(8,Vp gb),(9,Vp pb),(10,Vi x'),(11,Vi y'),(12,Vi (r + 1 : Nat))] ∧ x' < tot + 1 ∧ y' < tot + 1 ∧ lev (r + 1) x' ≠ lev (r + 1) y' ∧ wd' ++ jm Ln (dlG g.nx Ln) lev r x' y' = jm Ln (dlG g.nx Ln) lev (R - 1) x0 y0 ∧ rnG (dlG g.nx Ln) x0 wd' = x' ∧ wd'.length + r ≤ R ∧ o4 lev (tot + 1) R (r + 1) bl' ∧ du w.heap.size w w' pb { p with bl:=bl' } (grR gb Ln tot g GVa ++ [oN vw' wd'])) ?_ ?_)
 rotate_left
 ·rintro a w11 ⟨x',y',wd',bl',vw',hS,hx',hy',hap',hwk',hxe',hwl',hbk',h⟩;refine ai [(4,vw'),(8,Vp gb),(9,Vp pb),(10,Vi x'),(11,Vi y'),(12,Vi r)] (· = w11) af hS ?_ (fun a w12 hS hw=>?_)
  ·repeat refine zX rfl ?_
   refine zN rfl (qk (r + 1) 1 (by omega) (by omega)) ?_
   repeat refine zX rfl ?_
   exact aj ⟨⟨rfl,rfl,rfl,rfl,rfl,rfl,trivial⟩,rfl⟩
  subst hw;exact ⟨r,_,by omega,⟨x',y',wd',bl',vw',rfl,by omega,hx',hy',hap',hwk',hxe',hwl',hbk'.mono (by omega),h⟩,hS⟩
 refine wp_block (wp_seq (wp_seq (bg (α:=List Nat) (fun _=>[(4,vw),(8,Vp gb),(9,Vp pb),(10,Vi x),(11,Vi y),(12,Vi (r + 1 : Nat)),(68,.bool (decide (lev (r + 1) x ≠ lev (r + 1) y)))]) (fun bl' w'=>o4 lev (tot + 1) R (r + 1) bl' ∧ du w.heap.size w w' pb { p with bl:=bl' } (grR gb Ln tot g GVa ++ [oN vw wd])) af hS ?_ (fun bl a w11 hS h=>?_))))
 ·repeat refine zX rfl ?_
  refine zF rfl (acl) (zh hR.lv hbk hx hy (by omega) (by omega) hbs h) ?_;rintro e w11 ⟨rfl,bl',hb',h'⟩;refine ⟨_,rfl,?_⟩
  repeat refine zX rfl ?_
  exact aj ⟨bl',⟨rfl,rfl,rfl,rfl,rfl,rfl,rfl,trivial⟩,hb',h'⟩
 clear hbk;obtain ⟨hbk,h⟩:=h;refine cond hS rfl (fun hTa=>?_) (fun hFa=>?_)
 ·have hap2:=of_decide_eq_true hTa;rw [zq hap2] at hwk;refine wp_exit ?_
  repeat first|refine bf ?_|refine ba ?_|refine az rfl ?_
  exact ⟨x,y,wd,bl,vw,hS.sub ⟨rfl,rfl,rfl,rfl,rfl,rfl,trivial⟩,hx,hy,hap2,hwk,hxe,by omega,hbk,h⟩
 have heq:=Decidable.not_not.1 (of_decide_eq_false hFa);refine wp_skip ?_;obtain ⟨V0,h0'⟩:=h;refine wp_seq (ai [(4,vw),(8,Vp gb),(9,Vp pb),(10,Vi x),(11,Vi y),(12,Vi (r + 1 : Nat)),(72,Vi Ln),(73,Vi (0 : Nat))] (· = w11) af hS ?_ (fun a w12 hS hw=>?_))
 ·repeat refine zX rfl ?_
  refine zL rfl (h0'.r.xcell (i:=7) rfl (j:=0) rfl) ?_
  repeat refine zX rfl ?_
  exact aj ⟨⟨rfl,rfl,rfl,rfl,rfl,rfl,rfl,rfl,trivial⟩,rfl⟩
 subst hw;have h : du w.heap.size w w12 pb { p with bl:=bl } (grR gb Ln tot g GVa ++ [oN vw wd]):=⟨V0,h0'⟩
 clear h0'
 refine wp_block (cz hS (fun γ E w'=>∃ (c : Nat) (bl : List Nat),c ≤ Ln ∧ γ = Ln - c ∧ E = [(4,vw),(8,Vp gb),(9,Vp pb),(10,Vi x),(11,Vi y),(12,Vi (r + 1 : Nat)),(72,Vi Ln),(73,Vi c)] ∧ (∀ d,d < c → lev (r + 1) (dlG g.nx Ln x d) = lev (r + 1) (dlG g.nx Ln y d)) ∧ o4 lev (tot + 1) R (r + 1) bl ∧ du w.heap.size w w' pb { p with bl:=bl } (grR gb Ln tot g GVa ++ [oN vw wd])) Ln
  ⟨0,bl,by omega,by omega,rfl,fun d hd=>by omega,hbk,h⟩ ?_)
 clear h hS hbk;rintro γ E w13 a ⟨c,bl,hc,rfl,rfl,hbef,hbk,h⟩ hS;refine wp_seq (ai [(4,vw),(8,Vp gb),(9,Vp pb),(10,Vi x),(11,Vi y),(12,Vi (r + 1 : Nat)),(72,Vi Ln),(73,Vi c),(74,.bool (decide (c < Ln)))] (· = w13) af hS ?_ (fun a w14 hS hw=>?_))
 ·repeat refine zX rfl ?_
  refine zC rfl (co _ _) ?_
  repeat refine zX rfl ?_
  exact aj ⟨⟨rfl,rfl,rfl,rfl,rfl,rfl,rfl,rfl,rfl,trivial⟩,rfl⟩
 subst hw;refine wp_seq (cond hS rfl (fun hTc=>wp_skip ?_) (fun hFc=>?_))
 rotate_left
 ·have hcc : c = Ln:=by have:=of_decide_eq_false hFc; omega
  exact (zy hR.lv hdl hx hy hrd (by omega) heq hap (fun d hd=>hbef d (by omega))).elim
 have hcc : c < Ln:=of_decide_eq_true hTc;refine wp_seq (wp_block (wp_seq (ai [(4,vw),(8,Vp gb),(9,Vp pb),(10,Vi x),(11,Vi y),(12,Vi (r + 1 : Nat)),(72,Vi Ln),(73,Vi c),(13,Vi c)] (· = w14) af hS ?_ (fun a w15 hS hw=>?_))))
 ·repeat refine zX rfl ?_
  exact aj ⟨⟨rfl,rfl,rfl,rfl,rfl,rfl,rfl,rfl,rfl,trivial⟩,rfl⟩
 subst hw;have hxi : x * Ln + c < g.nx.length:=by rw [hlen]; exact acb hx hcc
 have hyi : y * Ln + c < g.nx.length:=by rw [hlen]; exact acb hy hcc
 have hnxl : g.nx.length ≤ 1000000000:=by
  rw [hlen]
  have:=Nat.mul_le_mul hNb hLb
  omega
 obtain ⟨x1,hx1e⟩ : ∃ x1,x1 = dlG g.nx Ln x c:=⟨_,rfl⟩;obtain ⟨y1,hy1e⟩ : ∃ y1,y1 = dlG g.nx Ln y c:=⟨_,rfl⟩;have hx1 : x1 < tot + 1:=by rw [hx1e]; exact hdl _ _ hx hcc
 have hy1 : y1 < tot + 1:=by rw [hy1e]; exact hdl _ _ hy hcc
 refine wp_seq (ai [(4,vw),(8,Vp gb),(9,Vp pb),(10,Vi x),(11,Vi y),(12,Vi (r + 1 : Nat)),(72,Vi Ln),(73,Vi c),(13,Vi c),(14,Vi x1),(15,Vi y1)] (fun w'=>du w.heap.size w w' pb { p with bl:=bl } (grR gb Ln tot g GVa ++ [oN vw wd])) af hS ?_ (fun a w16 hS h=>?_))
 ·obtain ⟨V,h⟩:=h;have hg1:=ky (s:=x) (c:=c) h.swap2 hxi hnxl (by rw [← hx1e]; omega);rw [← hx1e] at hg1
  repeat refine zX rfl ?_
  refine zF rfl (m0) (hg1) ?_;rintro e w16 ⟨rfl,hw1⟩;refine ⟨_,rfl,?_⟩;have h2:=h.below hw1;have hg2:=ky (s:=y) (c:=c) h2.swap2 hyi hnxl (by rw [← hy1e]; omega);rw [← hy1e] at hg2
  repeat refine zX rfl ?_
  refine zF rfl (m0) (hg2) ?_;rintro e w17 ⟨rfl,hw2⟩;refine ⟨_,rfl,?_⟩
  repeat refine zX rfl ?_
  exact aj ⟨⟨rfl,rfl,rfl,rfl,rfl,rfl,rfl,rfl,rfl,rfl,rfl,trivial⟩,⟨V,h2.below hw2⟩⟩
 refine wp_seq (bg (α:=List Nat) (fun _=>[(4,vw),(8,Vp gb),(9,Vp pb),(10,Vi x),(11,Vi y),(12,Vi (r + 1 : Nat)),(72,Vi Ln),(73,Vi c),(13,Vi c),(14,Vi x1),(15,Vi y1),(88,.bool (decide (lev (r + 1) x1 ≠ lev (r + 1) y1)))]) (fun bl' w'=>o4 lev (tot + 1) R (r + 1) bl' ∧ du w.heap.size w w' pb { p with bl:=bl' } (grR gb Ln tot g GVa ++ [oN vw wd])) af hS ?_ (fun bl a w17 hS h=>?_))
 ·repeat refine zX rfl ?_
  refine zF rfl (acl) (zh hR.lv hbk hx1 hy1 (by omega) (by omega) hbs h) ?_;rintro e w11 ⟨rfl,bl',hb',h'⟩;refine ⟨_,rfl,?_⟩
  repeat refine zX rfl ?_
  exact aj ⟨bl',⟨rfl,rfl,rfl,rfl,rfl,rfl,rfl,rfl,rfl,rfl,rfl,rfl,trivial⟩,hb',h'⟩
 clear hbk;obtain ⟨hbk,h⟩:=h;refine cond hS rfl (fun hTf=>?_) (fun hFf=>wp_skip ?_)
 ·have hap2:=of_decide_eq_true hTf;rw [xz heq hcc (by rw [← hx1e,← hy1e]; exact hap2) hbef,← hx1e,← hy1e] at hwk;refine wp_seq (ad4 (vL:=Vi Ln) h (by omega) rfl (hS.sub ⟨rfl,rfl,rfl,rfl,rfl,rfl,rfl,rfl,rfl,rfl,trivial⟩) (fun vw' a w18 hS h=>?_));refine wp_seq (ai [(4,vw'),(8,Vp gb),(9,Vp pb),(10,Vi x1),(11,Vi y1),(12,Vi (r + 1 : Nat))] (· = w18) af hS ?_ (fun a w19 hS hw=>?_))
  ·repeat refine zX rfl ?_
   exact aj ⟨⟨rfl,rfl,rfl,rfl,rfl,rfl,trivial⟩,rfl⟩
  subst hw;refine wp_exit ?_
  repeat first|refine bf ?_|refine ba ?_|refine az rfl ?_
  refine ⟨x1,y1,wd ++ [c],bl,vw',hS,hx1,hy1,hap2,by rw [← hwk,List.append_assoc]; rfl,by rw [ain,hxe,hx1e],by rw [List.length_append]; simp only [List.length_cons,List.length_nil]; omega,hbk,h⟩
 have heq2:=Decidable.not_not.1 (of_decide_eq_false hFf);refine ay ?_;refine ai [(4,vw),(8,Vp gb),(9,Vp pb),(10,Vi x),(11,Vi y),(12,Vi (r + 1 : Nat)),(72,Vi Ln),(73,Vi (c + 1 : Nat))] (· = w17) af hS ?_ (fun a w18 hS hw=>?_)
 ·repeat refine zX rfl ?_
  refine zN rfl (bm c 1 (by omega)) ?_
  repeat refine zX rfl ?_
  exact aj ⟨⟨rfl,rfl,rfl,rfl,rfl,rfl,rfl,rfl,trivial⟩,rfl⟩
 subst hw;refine ⟨Ln - (c + 1),_,by omega,⟨c + 1,bl,by omega,rfl,rfl,fun d hd=>?_,hbk,h⟩,hS⟩
 by_cases e : d = c
 ·subst e; rw [← hx1e,← hy1e]; exact heq2
 ·exact hbef d (by omega)
end
section
open Go Sym
theorem uk : bk Tryz.prog 21 = true:=by kernel_rfl
abbrev u64s (l : List Nat) : List Value:=l.map fun (n : Nat)=>.int .u64 (n : Int)
abbrev oU (v : Value) (l : List Nat) : Ow:=⟨v,43,1,l.length,u64s l⟩
theorem ah9 (l : List Nat) {j : Nat} (hj : j < l.length) : (u64s l)[j]? = some (.int .u64 (gt l j : Int)):=by
 simp [gt,List.getD_eq_getElem?_getD,hj]
section
variable {base : Nat} {w0 w : World} {l : List Ow}
theorem oU_set (v : Value) (l : List Nat) (j x : Nat) : (⟨v,43,1,l.length,(u64s l).set j (.int .u64 (x : Int))⟩ : Ow) = oU v (l.set j x):=by
 rw [show (u64s l).set j (.int .u64 (x : Int)) = u64s (l.set j x) by simp [u64s,List.map_set],oU,List.length_set]
theorem Rows.cU (h : Rows base w l) {i g n c : Nat} {xs : List Nat} (hi : l[i]? = some (oU (Vs g n c) xs)) {j : Nat} (hj : j < xs.length) : w.cell? ⟨g,0 + j,none⟩ = some (.int .u64 (gt xs j : Int)):=h.cellV hi (ah9 xs hj)
theorem Hold.storeU (h : Hold base w0 w l) {i g n c : Nat} {xs : List Nat} (hi : l[i]? = some (oU (Vs g n c) xs)) (j x : Nat) : Hold base w0 (w.setCell ⟨g,0 + j,none⟩ (.int .u64 (x : Int))) (l.set i (oU (Vs g n c) (xs.set j x))):=by
 have:=h.store hi j (.int .u64 (x : Int))
 rwa [oU_set] at this
theorem Hold.makeU (h : Hold base w0 w l) {n : Nat} (hn : n ≤ 9223372036854775807) : Hold base w0 (w.alloc (.cells (madeCells #[.int .u64 0] n) 43)) (oU (Vs w.heap.size n n) (List.replicate n 0) :: l):=by
 have h1:=h.lit (e:=43) (s:=1) (n:=n) (madeCells #[.int .u64 0] n) (by simp [madeCells]) hn;rw [toList_madeCells_one] at h1
 simpa [oU,u64s] using h1
end
def rowU (m : Nat) (f : Nat → Nat) : List Nat:=(List.range m).map f
theorem jf (m : Nat) (f : Nat → Nat) : (rowU m f).length = m:=by simp [rowU]
theorem p6 {m j : Nat} (f : Nat → Nat) (h : j < m) : gt (rowU m f) j = f j:=by simp [rowU,gt,List.getD_eq_getElem?_getD,h]
theorem s8 {xs : List Nat} {m : Nat} {f : Nat → Nat} (h : xs.length = m) (hf : ∀ j,j < m → gt xs j = f j) : xs = rowU m f:=by
 refine List.ext_getElem (by rw [h,jf]) fun j h1 h2=>?_
 have:=hf j (by omega)
 simp only [gt,List.getD_eq_getElem?_getD,List.getElem?_eq_getElem h1,Option.getD_some] at this;rw [this]; simp [rowU]
theorem ail {m i v : Nat} {f g : Nat → Nat} (h : ∀ j,j < m → g j = if i = j then v else f j) : (rowU m f).set i v = rowU m g:=by
 refine s8 (by rw [List.length_set,jf]) fun j hj=>?_;rw [fh,jf,h j hj,p6 f hj]
 by_cases e : i = j
 ·rw [if_pos ⟨e,by omega⟩,if_pos e]
 ·rw [if_neg (by omega),if_neg e]
def fA (fin : List Bool) (i j : Nat) : Nat:=if 0 < j ∧ j ≤ i ∧ fin.getD (j - 1) false = true then 1 else 0
def cU (L : Nat) (next : List (List Int)) (fin : List Bool) (k j : Nat) : Nat:=if j = 0 then 0 else cntM next fin L k ((j - 1 : Nat) : Int) % 18446744073709551616
def sU (L : Nat) (next : List (List Int)) (fin : List Bool) (k i c : Nat) : Nat:=((List.range c).map fun (d : Nat)=>cntM next fin L k (dd next (i : Int) d)).sum % 18446744073709551616
theorem y9 {next : List (List Int)} {fin : List Bool} {L : Nat} : ∀ k,cntM next fin L k (-1) = 0
 | 0=>rfl
 | k + 1=>by
   unfold cntM
   have : ∀ c : Nat,cntM next fin L k (dd next (-1) c) = 0:=fun c=>by
    rw [show dd next (-1) c = -1 from rfl]; exact y9 k
   simp only [this];have h0 : ∀ l : List Nat,(l.map fun _=>0).sum = 0:=fun l=>by induction l <;> simp_all
   exact h0 _
theorem cU_at {L : Nat} {next : List (List Int)} {fin : List Bool} {k : Nat} {st : Int} (h : -1 ≤ st) : cU L next fin k (st + 1).toNat = cntM next fin L k st % 18446744073709551616:=by
 by_cases e : st = -1
 ·subst e;rw [y9]; rfl
 ·obtain ⟨n,rfl⟩ : ∃ n : Nat,st = n:=⟨st.toNat,by omega⟩;rw [show ((n : Int) + 1).toNat = n + 1 by omega,cU,if_neg (by omega),Nat.add_sub_cancel]
theorem sU_step {L : Nat} {next : List (List Int)} {fin : List Bool} {k i c : Nat} : sU L next fin k i (c + 1) = (sU L next fin k i c + cntM next fin L k (dd next (i : Int) c) % 18446744073709551616) % 18446744073709551616:=by
 simp only [sU,List.range_succ,List.map_append,List.sum_append,List.map_cons,List.map_nil,List.sum_cons,List.sum_nil];omega
theorem sU_all {L : Nat} {next : List (List Int)} {fin : List Bool} {k i : Nat} : sU L next fin k i L = cU L next fin (k + 1) (i + 1):=by
 rw [cU,if_neg (by omega),Nat.add_sub_cancel]; rfl
theorem u64_add (a b : Nat) : IntKind.u64.wrap ((a : Int) + (b : Int)) = (((a + b) % 18446744073709551616 : Nat) : Int):=by
 have h1 : ((a : Int) + (b : Int)) % 2 ^ 64 = (((a + b) % 18446744073709551616 : Nat) : Int):=by omega
 simp only [IntKind.wrap,IntKind.bits,IntKind.signed,h1];simp
theorem aef (L s len : Int) (vn ve : Value) (next : List (List Int)) (fin : List Bool) (w : World) (hm : Ma w L s next fin vn ve) (hlen : I64 len) :
  Calls Tryz.prog 15 #[.agg #[Vi L,Vi s,vn,ve],Vi len] w fun e w'=>e = .returned (.tuple #[.int .u64 (td L s next fin len).1,Vi (td L s next fin len).2]) ∧ RowKit.Below w.heap.size w w':=by
 refine Sym.c8 (args:=[.agg #[Vi L,Vi s,vn,ve],Vi len]) Tryz.func15 rfl rfl rfl (fun a0 hS0=>?_);obtain ⟨B,hBB⟩ : ∃ B,B = w.heap.size:=⟨_,rfl⟩;refine wp_seq (ai [(2,Vp B),(1,Vi len)] (· = w.alloc (.cells #[Vi L,Vi s,vn,ve] 25)) af hS0 ?_ (fun a wc hS hw=>?_))
 ·subst hBB;refine zB rfl ?_
  repeat refine zX rfl ?_
  exact aj ⟨⟨rfl,rfl,trivial⟩,rfl⟩
 obtain ⟨hB,hx⟩:=l6 hw;rw [← hBB] at hx;clear hw;replace hm:=hm.keep hB;refine wp_seq (wp_seq (ai [(2,Vp B),(1,Vi len),(25,.bool (decide (de L s next fin ≠ 0) || (decide (len < 0) || decide (1000 < len))))] (fun w'=>RowKit.Below wc.heap.size wc w') af hS ?_ (fun a w2 hS hw=>?_)))
 ·refine zA ([Vi L,Vi s,vn,ve]) rfl rfl (⟨hx.c0,hx.c1,hx.c2,hx.c3,trivial⟩) ?_;refine zF rfl (uk) (jl L s vn ve next fin wc hm) ?_;rintro e w3 ⟨rfl,h3⟩;refine ⟨_,rfl,?_⟩
  repeat refine zX rfl ?_
  cases h1 : decide (de L s next fin ≠ 0)
  case true=>
   refine zC rfl (h1) ?_
   repeat refine zX rfl ?_
   exact aj ⟨⟨rfl,rfl,rfl,trivial⟩,h3⟩
  refine zC rfl (h1) ?_
  repeat refine zX rfl ?_
  cases h2 : decide (len < 0)
  case true=>
   refine zC rfl (h2) ?_
   repeat refine zX rfl ?_
   exact aj ⟨⟨rfl,rfl,rfl,trivial⟩,h3⟩
  refine zC rfl (h2) ?_
  repeat refine zX rfl ?_
  refine zC rfl (rfl) ?_
  repeat refine zX rfl ?_
  exact aj ⟨⟨rfl,rfl,rfl,trivial⟩,h3⟩
 replace hx:=hx.keep hw;replace hm:=hm.keep hw;replace hB:=ak hB hw;clear hw;refine cond hS rfl (fun hT=>?_) (fun hF=>wp_skip ?_)
 ·refine wp_seq (ai [(4,.int .u64 0),(5,Vi 1)] (· = w2) af hS ?_ (fun a w3 hS hw=>?_))
  ·repeat refine zX rfl ?_
   exact aj ⟨⟨rfl,rfl,trivial⟩,rfl⟩
  subst hw
  have hc : td L s next fin len = (0,1):=by
   simp only [Bool.or_eq_true,decide_eq_true_eq] at hT;exact if_pos hT
  rw [hc];refine wp_ret ?_
  repeat first|refine a8 ?_|refine am ?_
  exact ret2 hS rfl rfl rfl ⟨rfl,hB⟩
 simp only [Bool.or_eq_false_iff,decide_eq_false_iff_not,ne_eq,Decidable.not_not] at hF;obtain ⟨hv,hl0,hl1⟩:=hF;have hc : td L s next fin len = (((cntM next fin L.toNat len.toNat s % 18446744073709551616 : Nat) : Int),0):=if_neg (by omega);obtain ⟨h1,hL,hn⟩:=db hv;have hfl:=h1.fin;obtain ⟨ln,rfl⟩ : ∃ n : Nat,len = n:=⟨len.toNat,by omega⟩;obtain ⟨Ln,rfl⟩ : ∃ n : Nat,L = n:=⟨L.toNat,by have:=h1.L0; omega⟩;rw [Int.toNat_natCast,Int.toNat_natCast] at hc;have K:=fun w' (h : RowKit.Below w2.heap.size w2 w')=>anI (hx.keep h) (hm.keep h);have fin' : ∀ {w'},RowKit.Below w2.heap.size w2 w' → RowKit.Below w.heap.size w w':=fun h=>ak hB h;refine wp_seq (bg (α:=Nat) (fun g=>[(2,Vp B),(1,Vi ln),(6,(Vs g (next.length + 1) (next.length + 1)))]) (fun g w'=>Hold w2.heap.size w2 w' [oU (Vs g (next.length + 1) (next.length + 1)) (rowU (next.length + 1) (fA fin 0))]) af hS ?_ (fun g a w3 hS h=>?_))
 ·obtain ⟨an,bn,on,cn,hvn,-⟩:=hm.n;subst hvn
  repeat refine zX rfl ?_
  refine zL rfl (hx.c2) ?_
  repeat refine zX rfl ?_
  refine zN rfl (bm next.length 1 (by omega)) ?_;refine zM (next.length + 1) rfl rfl rfl rfl rfl ((by show 8 * _ ≤ _; omega)) ((by omega)) ?_
  repeat refine zX rfl ?_
  have h0:=(Hold.start w2).makeU (n:=next.length + 1) (by omega)
  rw [show List.replicate (next.length + 1) 0 = rowU (next.length + 1) (fA fin 0) from s8 (by simp) fun j hj=>by
   rw [fA,if_neg (by omega)]; simp [gt,List.getD_eq_getElem?_getD,List.getElem?_replicate,hj]] at h0
  exact aj ⟨_,⟨rfl,rfl,rfl,trivial⟩,h0⟩
 refine wp_seq (wp_seq (ai [(2,Vp B),(1,Vi ln),(6,(Vs g (next.length + 1) (next.length + 1))),(32,ve),(33,Vi fin.length),(34,Vi (0 : Nat))] (· = w3) af hS ?_ (fun a w' hS hw=>?_)))
 ·obtain ⟨hx,hm⟩:=K _ h.b;obtain ⟨ae,be,oe,ce,hve,-⟩:=hm.e;subst hve
  repeat refine zX rfl ?_
  refine zL rfl (hx.c3) ?_
  repeat refine zX rfl ?_
  exact aj ⟨⟨rfl,rfl,rfl,rfl,rfl,rfl,trivial⟩,rfl⟩
 subst hw;refine wp_block (cz hS (fun γ E w'=>∃ i : Nat,i ≤ fin.length ∧ γ = fin.length - i ∧ E = [(2,Vp B),(1,Vi ln),(6,(Vs g (next.length + 1) (next.length + 1))),(32,ve),(33,Vi fin.length),(34,Vi i)] ∧ Hold w2.heap.size w2 w' [oU (Vs g (next.length + 1) (next.length + 1)) (rowU (next.length + 1) (fA fin i))]) fin.length ⟨0,by omega,by omega,rfl,h⟩ ?_);clear h hS;rintro γ E w4 a ⟨i,hi,rfl,rfl,h⟩ hS;refine wp_seq (ai [(2,Vp B),(1,Vi ln),(6,(Vs g (next.length + 1) (next.length + 1))),(32,ve),(33,Vi fin.length),(34,Vi i),(35,.bool (decide (i < fin.length)))] (· = w4) af hS ?_ (fun a w5 hS hw=>?_))
 ·repeat refine zX rfl ?_
  refine zC rfl (co _ _) ?_
  repeat refine zX rfl ?_
  exact aj ⟨⟨rfl,rfl,rfl,rfl,rfl,rfl,rfl,trivial⟩,rfl⟩
 subst hw;refine wp_seq (cond hS rfl (fun hT=>wp_skip ?_) (fun hF=>?_))
 ·have hii : i < fin.length:=of_decide_eq_true hT;refine wp_seq (cut (F:=fun a' w'=>St Tryz.f15.ntmps a' [(2,Vp B),(1,Vi ln),(6,(Vs g (next.length + 1) (next.length + 1))),(32,ve),(33,Vi fin.length),(34,Vi i)] ∧ Hold w2.heap.size w2 w' [oU (Vs g (next.length + 1) (next.length + 1)) (rowU (next.length + 1) (fA fin (i + 1)))]) ?_ ?_)
  ·refine wp_block (wp_seq (ai [(2,Vp B),(1,Vi ln),(6,(Vs g (next.length + 1) (next.length + 1))),(32,ve),(33,Vi fin.length),(34,Vi i),(7,Vi i),(8,.bool fin[i])] (· = w5) af hS ?_ (fun a w6 hS hw=>?_)))
   ·obtain ⟨hx,hm⟩:=K _ h.b;obtain ⟨b,o,ce,hve,hcell⟩:=hm.end hii;subst hve
    repeat refine zX rfl ?_
    refine zI rfl (rfl) (hii) ?_;refine zL rfl (hcell) ?_
    repeat refine zX rfl ?_
    exact aj ⟨⟨rfl,rfl,rfl,rfl,rfl,rfl,rfl,rfl,trivial⟩,rfl⟩
   subst hw;refine wp_seq (ai [(2,Vp B),(1,Vi ln),(6,(Vs g (next.length + 1) (next.length + 1))),(32,ve),(33,Vi fin.length),(34,Vi i),(7,Vi i),(39,.bool fin[i])] (· = w6) af hS ?_ (fun a w7 hS hw=>?_))
   ·repeat refine zX rfl ?_
    exact aj ⟨⟨rfl,rfl,rfl,rfl,rfl,rfl,rfl,rfl,trivial⟩,rfl⟩
   subst hw;have hg : fin.getD i false = fin[i]:=by simp [List.getD_eq_getElem?_getD,hii]
   refine cond hS rfl (fun hT2=>?_) (fun hF2=>wp_skip ?_)
   ·refine ai [(2,Vp B),(1,Vi ln),(6,(Vs g (next.length + 1) (next.length + 1))),(32,ve),(33,Vi fin.length),(34,Vi i)] (fun w'=>Hold w2.heap.size w2 w' [oU (Vs g (next.length + 1) (next.length + 1)) (rowU (next.length + 1) (fA fin (i + 1)))]) af hS ?_ (fun a w8 hS h=>?_)
    ·have hlt : i + 1 < (rowU (next.length + 1) (fA fin i)).length:=by rw [jf]; omega
     repeat refine zX rfl ?_
     refine zN rfl (bm i 1 (by omega)) ?_;refine zI rfl (rfl) ((by omega)) ?_;refine zS rfl rfl (h.r.cU (i:=0) rfl (j:=i + 1) hlt) (h.r.free (i:=0) rfl _) ?_;have h2:=h.storeU (i:=0) rfl (i + 1) 1
     rw [ail (g:=fA fin (i + 1)) (fun j hj=>by
      unfold fA
      by_cases e : i + 1 = j
      ·subst e;rw [if_pos ⟨by omega,by omega,by rw [Nat.add_sub_cancel,hg]; exact hT2⟩,if_pos rfl]
      ·rw [if_neg e]
       by_cases e2 : 0 < j ∧ j ≤ i ∧ fin.getD (j - 1) false = true
       ·rw [if_pos e2,if_pos ⟨e2.1,by omega,e2.2.2⟩]
       ·rw [if_neg e2,if_neg (fun k=>e2 ⟨k.1,by omega,k.2.2⟩)])] at h2
     exact aj ⟨⟨rfl,rfl,rfl,rfl,rfl,rfl,trivial⟩,h2⟩
    exact ⟨hS,h⟩
   ·refine ⟨hS.sub ⟨rfl,rfl,rfl,rfl,rfl,rfl,trivial⟩,?_⟩
    rw [s8 (xs:=rowU (next.length + 1) (fA fin i)) (f:=fA fin (i + 1)) (jf _ _) (fun j hj=>by
     rw [p6 _ hj];unfold fA
     by_cases e : i + 1 = j
     ·subst e;rw [if_neg (by omega),if_neg (fun k=>by have k3:=k.2.2; rw [Nat.add_sub_cancel,hg,hF2] at k3; cases k3)]
     ·by_cases e2 : 0 < j ∧ j ≤ i ∧ fin.getD (j - 1) false = true
      ·rw [if_pos e2,if_pos ⟨e2.1,by omega,e2.2.2⟩]
      ·rw [if_neg e2,if_neg (fun k=>e2 ⟨k.1,by omega,k.2.2⟩)])] at h
    exact h
  ·rintro a w6 ⟨hS,h⟩;refine ai [(2,Vp B),(1,Vi ln),(6,(Vs g (next.length + 1) (next.length + 1))),(32,ve),(33,Vi fin.length),(34,Vi (i + 1 : Nat))] (· = w6) af hS ?_ (fun a w7 hS hw=>?_)
   ·repeat refine zX rfl ?_
    refine zN rfl (bm i 1 (by omega)) ?_
    repeat refine zX rfl ?_
    exact aj ⟨⟨rfl,rfl,rfl,rfl,rfl,rfl,trivial⟩,rfl⟩
   subst hw;exact ⟨fin.length - (i + 1),_,by omega,⟨i + 1,by omega,rfl,rfl,h⟩,hS⟩
 have hii : i = fin.length:=by have:=of_decide_eq_false hF; omega
 subst hii;refine wp_exit ?_
 repeat first|refine bf ?_|refine ba ?_|refine az rfl ?_
 rw [s8 (xs:=rowU (next.length + 1) (fA fin fin.length)) (f:=cU Ln next fin 0) (jf _ _) (fun j hj=>by
  rw [p6 _ hj,fA,cU]
  by_cases e : j = 0
  ·subst e; rw [if_pos rfl,if_neg (by omega)]
  ·rw [if_neg e];unfold cntM fo;rw [Int.toNat_natCast,decide_eq_true (show (0 : Int) ≤ ((j - 1 : Nat) : Int) by omega),Bool.true_and]
   by_cases e2 : fin.getD (j - 1) false = true
   ·rw [if_pos ⟨by omega,by omega,e2⟩,if_pos e2]
   ·rw [if_neg (fun k=>e2 k.2.2),if_neg e2])] at h
 refine wp_seq (bg (α:=Nat) (fun gl=>[(2,Vp B),(1,Vi ln),(6,(Vs g (next.length + 1) (next.length + 1))),(9,(Vs gl (next.length + 1) (next.length + 1)))]) (fun gl w'=>Hold w2.heap.size w2 w' [oU (Vs gl (next.length + 1) (next.length + 1)) (List.replicate (next.length + 1) 0),oU (Vs g (next.length + 1) (next.length + 1)) (rowU (next.length + 1) (cU Ln next fin 0))]) af hS ?_ (fun gl a w6 hS h=>?_))
 ·repeat refine zX rfl ?_
  refine zM (next.length + 1) rfl rfl rfl rfl rfl ((by show 8 * _ ≤ _; omega)) ((by omega)) ?_
  repeat refine zX rfl ?_
  exact aj ⟨_,⟨rfl,rfl,rfl,rfl,trivial⟩,h.makeU (n:=next.length + 1) (by omega)⟩
 refine wp_seq (wp_seq (ai [(2,Vp B),(6,(Vs g (next.length + 1) (next.length + 1))),(9,(Vs gl (next.length + 1) (next.length + 1))),(48,Vi ln),(49,Vi (0 : Nat))] (· = w6) af hS ?_ (fun a w' hS hw=>?_)))
 ·repeat refine zX rfl ?_
  exact aj ⟨⟨rfl,rfl,rfl,rfl,rfl,trivial⟩,rfl⟩
 subst hw;refine wp_block (cz hS (fun γ E w'=>∃ (t g gl : Nat) (xs : List Nat),t ≤ ln ∧ γ = ln - t ∧ E = [(2,Vp B),(6,(Vs g (next.length + 1) (next.length + 1))),(9,(Vs gl (next.length + 1) (next.length + 1))),(48,Vi ln),(49,Vi t)] ∧ xs.length = next.length + 1 ∧ gt xs 0 = 0 ∧ Hold w2.heap.size w2 w' [oU (Vs gl (next.length + 1) (next.length + 1)) xs,oU (Vs g (next.length + 1) (next.length + 1)) (rowU (next.length + 1) (cU Ln next fin t))]) ln ⟨0,g,gl,_,by omega,by omega,rfl,by simp,by simp [gt],h⟩ ?_);clear h hS;rintro γ E w7 a ⟨t,g,gl,xs,ht,rfl,rfl,hxl,hx0,h⟩ hS;refine wp_seq (ai [(2,Vp B),(6,(Vs g (next.length + 1) (next.length + 1))),(9,(Vs gl (next.length + 1) (next.length + 1))),(48,Vi ln),(49,Vi t),(50,.bool (decide (t < ln)))] (· = w7) af hS ?_ (fun a w8 hS hw=>?_))
 ·repeat refine zX rfl ?_
  refine zC rfl (co _ _) ?_
  repeat refine zX rfl ?_
  exact aj ⟨⟨rfl,rfl,rfl,rfl,rfl,rfl,trivial⟩,rfl⟩
 subst hw;refine wp_seq (cond hS rfl (fun hT=>wp_skip ?_) (fun hF=>?_))
 rotate_left
 ·have htt : t = ln:=by have:=of_decide_eq_false hF; omega
  subst htt;refine wp_exit ?_
  repeat first|refine bf ?_|refine ba ?_|refine az rfl ?_
  obtain ⟨hx,hm⟩:=K _ h.b;have hs1:=h1.s1;have hs2:=h1.s2;have hcell:=h.r.cU (i:=1) rfl (j:=(s + 1).toNat) (by rw [jf]; omega);rw [p6 _ (by omega),cU_at hs1] at hcell
  have e1 : IntKind.i64.wrap (s + 1) = (((s + 1).toNat : Nat) : Int):=by
   rw [show s + 1 = (((s + 1).toNat : Nat) : Int) by omega]; exact lg _ (by omega)
  refine wp_seq (ai [(4,.int .u64 (((cntM next fin Ln t s % 18446744073709551616 : Nat)) : Int)),(5,Vi 0)] (· = w8) af hS ?_ (fun a w9 hS hw=>?_))
  ·repeat refine zX rfl ?_
   refine zL rfl (hx.c1) ?_;refine zN rfl (e1) ?_;refine zI rfl (rfl) ((by omega)) ?_;refine zL rfl (hcell) ?_
   repeat refine zX rfl ?_
   exact aj ⟨⟨rfl,rfl,trivial⟩,rfl⟩
  subst hw;rw [hc];refine wp_ret ?_
  repeat first|refine a8 ?_|refine am ?_
  exact ret2 hS rfl rfl rfl ⟨rfl,fin' h.b⟩
 have htt : t < ln:=of_decide_eq_true hT;refine wp_seq (wp_block (wp_seq (wp_seq (ai [(2,Vp B),(6,(Vs g (next.length + 1) (next.length + 1))),(9,(Vs gl (next.length + 1) (next.length + 1))),(48,Vi ln),(49,Vi t),(52,vn),(53,Vi next.length),(54,Vi (0 : Nat))] (· = w8) af hS ?_ (fun a w9 hS hw=>?_)))))
 ·obtain ⟨hx,hm⟩:=K _ h.b;obtain ⟨an,bn,on,cn,hvn,-⟩:=hm.n;subst hvn
  repeat refine zX rfl ?_
  refine zL rfl (hx.c2) ?_
  repeat refine zX rfl ?_
  exact aj ⟨⟨rfl,rfl,rfl,rfl,rfl,rfl,rfl,rfl,trivial⟩,rfl⟩
 subst hw;refine wp_block (cz hS (fun γ E w'=>∃ (i : Nat) (xs : List Nat),i ≤ next.length ∧ γ = next.length - i ∧ E = [(2,Vp B),(6,(Vs g (next.length + 1) (next.length + 1))),(9,(Vs gl (next.length + 1) (next.length + 1))),(48,Vi ln),(49,Vi t),(52,vn),(53,Vi next.length),(54,Vi i)] ∧ xs.length = next.length + 1 ∧ gt xs 0 = 0 ∧ (∀ j,j < i → gt xs (j + 1) = cU Ln next fin (t + 1) (j + 1)) ∧ Hold w2.heap.size w2 w' [oU (Vs gl (next.length + 1) (next.length + 1)) xs,oU (Vs g (next.length + 1) (next.length + 1)) (rowU (next.length + 1) (cU Ln next fin t))]) next.length ⟨0,xs,by omega,by omega,rfl,hxl,hx0,fun j hj=>by omega,h⟩ ?_);clear h hS hxl hx0;rintro γ E w10 a ⟨i,xs,hi,rfl,rfl,hxl,hx0,hxs,h⟩ hS;refine wp_seq (ai [(2,Vp B),(6,(Vs g (next.length + 1) (next.length + 1))),(9,(Vs gl (next.length + 1) (next.length + 1))),(48,Vi ln),(49,Vi t),(52,vn),(53,Vi next.length),(54,Vi i),(55,.bool (decide (i < next.length)))] (· = w10) af hS ?_ (fun a w11 hS hw=>?_))
 ·repeat refine zX rfl ?_
  refine zC rfl (co _ _) ?_
  repeat refine zX rfl ?_
  exact aj ⟨⟨rfl,rfl,rfl,rfl,rfl,rfl,rfl,rfl,rfl,trivial⟩,rfl⟩
 subst hw;refine wp_seq (cond hS rfl (fun hT=>wp_skip ?_) (fun hF=>?_))
 rotate_left
 ·have hii : i = next.length:=by have:=of_decide_eq_false hF; omega
  subst hii;refine wp_exit ?_
  repeat first|refine bf ?_|refine ba ?_|refine az rfl ?_
  have hrow : xs = rowU (next.length + 1) (cU Ln next fin (t + 1)):=s8 hxl fun j hj=>by
   cases j with
   | zero=>rw [hx0]; rfl
   | succ j=>exact hxs j (by omega)
  refine ai [(2,Vp B),(6,(Vs gl (next.length + 1) (next.length + 1))),(9,(Vs g (next.length + 1) (next.length + 1))),(48,Vi ln),(49,Vi t)] (· = w11) af hS ?_ (fun a w12 hS hw=>?_)
  ·repeat refine zX rfl ?_
   exact aj ⟨⟨rfl,rfl,rfl,rfl,rfl,trivial⟩,rfl⟩
  subst hw;refine ay ?_;refine ai [(2,Vp B),(6,(Vs gl (next.length + 1) (next.length + 1))),(9,(Vs g (next.length + 1) (next.length + 1))),(48,Vi ln),(49,Vi (t + 1 : Nat))] (· = w12) af hS ?_ (fun a w13 hS hw=>?_)
  ·repeat refine zX rfl ?_
   refine zN rfl (bm t 1 (by omega)) ?_
   repeat refine zX rfl ?_
   exact aj ⟨⟨rfl,rfl,rfl,rfl,rfl,trivial⟩,rfl⟩
  subst hw;rw [hrow] at h;exact ⟨ln - (t + 1),_,by omega,⟨t + 1,gl,g,_,by omega,rfl,rfl,jf _ _,by rw [p6 _ (by omega)]; rfl,h.swap⟩,hS⟩
 have hii : i < next.length:=of_decide_eq_true hT;obtain ⟨hxw,hmw⟩:=K _ h.b;obtain ⟨hrl,hrow⟩:=h1.rows i hii;obtain ⟨bn,on,cn,hvn,ar,cr,hcell,hcol⟩:=hmw.cell hii;refine wp_seq (wp_block (wp_seq (ai [(2,Vp B),(6,(Vs g (next.length + 1) (next.length + 1))),(9,(Vs gl (next.length + 1) (next.length + 1))),(48,Vi ln),(49,Vi t),(52,vn),(53,Vi next.length),(54,Vi i),(10,Vi i),(11,.slice ar next[i].length cr)] (· = w11) af hS ?_ (fun a w12 hS hw=>?_))))
 ·subst hvn
  repeat refine zX rfl ?_
  refine zI rfl (rfl) (hii) ?_;refine zL rfl (hcell) ?_
  repeat refine zX rfl ?_
  exact aj ⟨⟨rfl,rfl,rfl,rfl,rfl,rfl,rfl,rfl,rfl,rfl,trivial⟩,rfl⟩
 subst hw;refine wp_seq (ai [(2,Vp B),(6,(Vs g (next.length + 1) (next.length + 1))),(9,(Vs gl (next.length + 1) (next.length + 1))),(48,Vi ln),(49,Vi t),(52,vn),(53,Vi next.length),(54,Vi i),(10,Vi i),(11,.slice ar next[i].length cr),(12,.int .u64 0)] (· = w12) af hS ?_ (fun a w13 hS hw=>?_))
 ·repeat refine zX rfl ?_
  exact aj ⟨⟨rfl,rfl,rfl,rfl,rfl,rfl,rfl,rfl,rfl,rfl,rfl,trivial⟩,rfl⟩
 subst hw;refine wp_seq (wp_seq (ai [(2,Vp B),(6,(Vs g (next.length + 1) (next.length + 1))),(9,(Vs gl (next.length + 1) (next.length + 1))),(48,Vi ln),(49,Vi t),(52,vn),(53,Vi next.length),(54,Vi i),(10,Vi i),(59,.slice ar next[i].length cr),(60,Vi (next[i].length : Int)),(12,.int .u64 ((sU Ln next fin t i 0 : Nat) : Int)),(61,Vi (0 : Nat))] (· = w13) af hS ?_ (fun a w14 hS hw=>?_)))
 ·repeat refine zX rfl ?_
  exact aj ⟨⟨rfl,rfl,rfl,rfl,rfl,rfl,rfl,rfl,rfl,rfl,rfl,rfl,rfl,trivial⟩,rfl⟩
 subst hw;refine wp_block (cz hS (fun γ E w'=>∃ c : Nat,c ≤ next[i].length ∧ γ = next[i].length - c ∧ E = [(2,Vp B),(6,(Vs g (next.length + 1) (next.length + 1))),(9,(Vs gl (next.length + 1) (next.length + 1))),(48,Vi ln),(49,Vi t),(52,vn),(53,Vi next.length),(54,Vi i),(10,Vi i),(59,.slice ar next[i].length cr),(60,Vi (next[i].length : Int)),(12,.int .u64 ((sU Ln next fin t i c : Nat) : Int)),(61,Vi c)] ∧ w' = w14) next[i].length ⟨0,by omega,by omega,rfl,rfl⟩ ?_);clear hS;rintro γ E w15 a ⟨c,hc',rfl,rfl,rfl⟩ hS;refine wp_seq (ai [(2,Vp B),(6,(Vs g (next.length + 1) (next.length + 1))),(9,(Vs gl (next.length + 1) (next.length + 1))),(48,Vi ln),(49,Vi t),(52,vn),(53,Vi next.length),(54,Vi i),(10,Vi i),(59,.slice ar next[i].length cr),(60,Vi (next[i].length : Int)),(12,.int .u64 ((sU Ln next fin t i c : Nat) : Int)),(61,Vi c),(62,.bool (decide (c < next[i].length)))] (· = w15) af hS ?_ (fun a w16 hS hw=>?_))
 ·repeat refine zX rfl ?_
  refine zC rfl (co _ _) ?_
  repeat refine zX rfl ?_
  exact aj ⟨⟨rfl,rfl,rfl,rfl,rfl,rfl,rfl,rfl,rfl,rfl,rfl,rfl,rfl,rfl,trivial⟩,rfl⟩
 subst hw;have hrl' : next[i].length = Ln:=by omega
 refine wp_seq (cond hS rfl (fun hT=>wp_skip ?_) (fun hF=>?_))
 rotate_left
 ·have hcc : c = Ln:=by have:=of_decide_eq_false hF; omega
  subst hcc;rw [sU_all] at hS;refine wp_exit ?_
  repeat first|refine bf ?_|refine ba ?_|refine az rfl ?_
  have hlt : i + 1 < xs.length:=by omega
  refine ai [(2,Vp B),(6,(Vs g (next.length + 1) (next.length + 1))),(9,(Vs gl (next.length + 1) (next.length + 1))),(48,Vi ln),(49,Vi t),(52,vn),(53,Vi next.length),(54,Vi i)] (fun w'=>Hold w2.heap.size w2 w' [oU (Vs gl (next.length + 1) (next.length + 1)) (xs.set (i + 1) (cU c next fin (t + 1) (i + 1))),oU (Vs g (next.length + 1) (next.length + 1)) (rowU (next.length + 1) (cU c next fin t))]) af hS ?_ (fun a w17 hS h=>?_)
  ·repeat refine zX rfl ?_
   refine zN rfl (bm i 1 (by omega)) ?_
   repeat refine zX rfl ?_
   refine zI rfl (rfl) ((by omega)) ?_;refine zS rfl rfl (h.r.cU (i:=0) rfl (j:=i + 1) hlt) (h.r.free (i:=0) rfl _) ?_;exact aj ⟨⟨rfl,rfl,rfl,rfl,rfl,rfl,rfl,rfl,trivial⟩,h.storeU (i:=0) rfl (i + 1) _⟩
  refine ay ?_;refine ai [(2,Vp B),(6,(Vs g (next.length + 1) (next.length + 1))),(9,(Vs gl (next.length + 1) (next.length + 1))),(48,Vi ln),(49,Vi t),(52,vn),(53,Vi next.length),(54,Vi (i + 1 : Nat))] (· = w17) af hS ?_ (fun a w18 hS hw=>?_)
  ·repeat refine zX rfl ?_
   refine zN rfl (bm i 1 (by omega)) ?_
   repeat refine zX rfl ?_
   exact aj ⟨⟨rfl,rfl,rfl,rfl,rfl,rfl,rfl,rfl,trivial⟩,rfl⟩
  subst hw;refine ⟨next.length - (i + 1),_,by omega,⟨i + 1,_,by omega,rfl,rfl,by rw [List.length_set]; exact hxl,by rw [fh,if_neg (by omega)]; exact hx0,fun j hj=>?_,h⟩,hS⟩;rw [fh]
  by_cases e : i = j
  ·subst e; rw [if_pos ⟨rfl,by omega⟩]
  ·rw [if_neg (by omega)]; exact hxs j (by omega)
 have hcc : c < next[i].length:=of_decide_eq_true hT;obtain ⟨br,orr,har,hcl⟩:=hcol c hcc;obtain ⟨x,hxe⟩ : ∃ x,x = next[i][c]:=⟨_,rfl⟩;obtain ⟨hx1,hx2⟩:=hrow c hcc;rw [← hxe] at hcl hx1 hx2
 have hst : dd next (i : Int) c = x:=by
  rw [dd,if_neg (by omega),Int.toNat_natCast,Int.toNat_natCast];simp [List.getD_eq_getElem?_getD,hii,hcc,hxe]
 have e1 : IntKind.i64.wrap (x + 1) = (((x + 1).toNat : Nat) : Int):=by
  rw [show x + 1 = (((x + 1).toNat : Nat) : Int) by omega]; exact lg _ (by omega)
 have hcu:=h.r.cU (i:=1) rfl (j:=(x + 1).toNat) (by rw [jf]; omega);rw [p6 _ (by omega),cU_at hx1] at hcu;refine wp_seq (wp_block (wp_seq (ai [(2,Vp B),(6,(Vs g (next.length + 1) (next.length + 1))),(9,(Vs gl (next.length + 1) (next.length + 1))),(48,Vi ln),(49,Vi t),(52,vn),(53,Vi next.length),(54,Vi i),(10,Vi i),(59,.slice ar next[i].length cr),(60,Vi (next[i].length : Int)),(12,.int .u64 ((sU Ln next fin t i c : Nat) : Int)),(61,Vi c),(14,Vi x)] (· = w16) af hS ?_ (fun a w17 hS hw=>?_))))
 ·subst har
  repeat refine zX rfl ?_
  refine zI rfl (rfl) (hcc) ?_;refine zL rfl (hcl) ?_
  repeat refine zX rfl ?_
  exact aj ⟨⟨rfl,rfl,rfl,rfl,rfl,rfl,rfl,rfl,rfl,rfl,rfl,rfl,rfl,rfl,trivial⟩,rfl⟩
 subst hw;refine ai [(2,Vp B),(6,(Vs g (next.length + 1) (next.length + 1))),(9,(Vs gl (next.length + 1) (next.length + 1))),(48,Vi ln),(49,Vi t),(52,vn),(53,Vi next.length),(54,Vi i),(10,Vi i),(59,.slice ar next[i].length cr),(60,Vi (next[i].length : Int)),(12,.int .u64 ((sU Ln next fin t i (c + 1) : Nat) : Int)),(61,Vi c)] (· = w17) af hS ?_ (fun a w18 hS hw=>?_)
 ·have e2:=u64_add (sU Ln next fin t i c) (cntM next fin Ln t x % 18446744073709551616);rw [← hst,← sU_step,hst] at e2
  repeat refine zX rfl ?_
  refine zN rfl (e1) ?_;refine zI rfl (rfl) ((by omega)) ?_;refine zL rfl (hcu) ?_;refine zN rfl (e2) ?_
  repeat refine zX rfl ?_
  exact aj ⟨⟨rfl,rfl,rfl,rfl,rfl,rfl,rfl,rfl,rfl,rfl,rfl,rfl,rfl,trivial⟩,rfl⟩
 subst hw;refine ay ?_;refine ai [(2,Vp B),(6,(Vs g (next.length + 1) (next.length + 1))),(9,(Vs gl (next.length + 1) (next.length + 1))),(48,Vi ln),(49,Vi t),(52,vn),(53,Vi next.length),(54,Vi i),(10,Vi i),(59,.slice ar next[i].length cr),(60,Vi (next[i].length : Int)),(12,.int .u64 ((sU Ln next fin t i (c + 1) : Nat) : Int)),(61,Vi (c + 1 : Nat))] (· = w18) af hS ?_ (fun a w19 hS hw=>?_)
 ·repeat refine zX rfl ?_
  refine zN rfl (bm c 1 (by omega)) ?_
  repeat refine zX rfl ?_
  exact aj ⟨⟨rfl,rfl,rfl,rfl,rfl,rfl,rfl,rfl,rfl,rfl,rfl,rfl,rfl,trivial⟩,rfl⟩
 subst hw;exact ⟨next[i].length - (c + 1),_,by omega,⟨c + 1,by omega,rfl,rfl,rfl⟩,hS⟩
theorem aj4 : akl 15:=fun L s len vn ve next fin w hm hl _=>aef L s len vn ve next fin w hm hl
end
section
open Go Sym
theorem rh : bk Tryz.prog 97 = true:=by kernel_rfl
theorem m6 : bk Tryz.prog 78 = true:=by kernel_rfl
theorem en_Or : bk Tryz.prog 77 = true:=by kernel_rfl
theorem ag7 : bk Tryz.prog 47 = true:=by kernel_rfl
theorem od : bk Tryz.prog 41 = true:=by kernel_rfl
theorem vo : bk Tryz.prog 45 = true:=by kernel_rfl
theorem nm : bk Tryz.prog 43 = true:=by kernel_rfl
theorem uj : bk Tryz.prog 48 = true:=by kernel_rfl
def cmpI (x y : Int) : Int:=if x < y then -1 else if y < x then 1 else 0
def orL : List Int → Int
 | []=>0
 | x :: l=>if x ≠ 0 then x else orL l
def ordP (a b c d : Int) : Int:=orL [cmpI a c,cmpI b d]
theorem aam (a b c d : Int) : 0 ≤ ordP a b c d ↔ ¬ (a < c ∨ (a = c ∧ b < d)):=by
 unfold ordP orL orL orL cmpI
 repeat' split
 all_goals omega
theorem pd : ∀ (i : Nat) (l : List Int),(∀ j (h : j < l.length),j < i → l[j] = 0) → orL l = orL (l.drop i)
 | 0,l,_=>rfl
 | i + 1,[],_=>rfl
 | i + 1,x :: l,h=>by
   have h0 : x = 0:=h 0 (by simp) (by omega);rw [List.drop_succ_cons,← pd i l (fun j hj hji=>h (j + 1) (by simpa using hj) (by omega)),orL,if_neg (by omega)]
theorem pj (x : Int) (w : World) : Calls Tryz.prog 97 #[Vi x] w fun e w'=>e = .returned (.bool false) ∧ w' = w:=by
 refine Sym.c8 (args:=[Vi x]) Tryz.func97 rfl rfl rfl (fun a0 hS0=>?_);refine wp_seq (ai [(0,Vi x)] (· = w) af hS0 ?_ (fun a w1 hS hw=>?_))
 ·repeat refine zX rfl ?_
  exact aj ⟨⟨rfl,trivial⟩,rfl⟩
 subst hw;refine wp_seq (ai [(2,.bool false)] (· = w1) af hS ?_ (fun a w2 hS hw=>?_))
 ·repeat refine zX rfl ?_
  refine zC rfl (show decide (x ≠ x) = false by simp) ?_
  repeat refine zX rfl ?_
  exact aj ⟨⟨rfl,trivial⟩,rfl⟩
 subst hw;refine wp_ret ?_
 repeat first|refine a8 ?_|refine am ?_
 exact ret1 hS rfl rfl ⟨rfl,rfl⟩
theorem te (x y : Int) (w : World) : Calls Tryz.prog 78 #[Vi x,Vi y] w fun e w'=>e = .returned (Vi (cmpI x y)) ∧ RowKit.Below w.heap.size w w':=by
 refine Sym.c8 (args:=[Vi x,Vi y]) Tryz.func78 rfl rfl rfl (fun a0 hS0=>?_);refine wp_seq (ai [(0,Vi x),(1,Vi y)] (· = w) af hS0 ?_ (fun a w1 hS hw=>?_))
 ·repeat refine zX rfl ?_
  exact aj ⟨⟨rfl,rfl,trivial⟩,rfl⟩
 subst hw;have hB:=RowKit.Below.refl w1.heap.size w1;refine wp_seq (ai [(0,Vi x),(1,Vi y),(5,.bool false)] (· = w1) af hS ?_ (fun a w2 hS hw=>?_))
 ·repeat refine zX rfl ?_
  refine zF rfl (rh) (pj x w1) ?_;rintro e w2 ⟨rfl,rfl⟩;refine ⟨_,rfl,?_⟩
  repeat refine zX rfl ?_
  exact aj ⟨⟨rfl,rfl,rfl,trivial⟩,rfl⟩
 subst hw;refine wp_seq (ai [(0,Vi x),(1,Vi y),(5,.bool false),(6,.bool false)] (· = w2) af hS ?_ (fun a w3 hS hw=>?_))
 ·repeat refine zX rfl ?_
  refine zF rfl (rh) (pj y w2) ?_;rintro e w2 ⟨rfl,rfl⟩;refine ⟨_,rfl,?_⟩
  repeat refine zX rfl ?_
  exact aj ⟨⟨rfl,rfl,rfl,rfl,trivial⟩,rfl⟩
 subst hw;refine wp_seq (wp_seq (ai [(0,Vi x),(1,Vi y),(6,.bool false),(11,.bool false)] (· = w3) af hS ?_ (fun a w4 hS hw=>?_)))
 ·repeat refine zX rfl ?_
  exact aj ⟨⟨rfl,rfl,rfl,rfl,trivial⟩,rfl⟩
 subst hw;refine cond hS rfl (fun hT=>by cases hT) (fun hF=>wp_skip ?_);refine wp_seq (wp_seq (ai [(0,Vi x),(1,Vi y),(13,.bool false)] (· = w4) af hS ?_ (fun a w5 hS hw=>?_)))
 ·repeat refine zX rfl ?_
  exact aj ⟨⟨rfl,rfl,rfl,trivial⟩,rfl⟩
 subst hw;refine cond hS rfl (fun hT=>by cases hT) (fun hF=>wp_skip ?_);refine wp_seq (wp_seq (ai [(0,Vi x),(1,Vi y),(16,.bool (decide (x < y)))] (· = w5) af hS ?_ (fun a w6 hS hw=>?_)))
 ·repeat refine zX rfl ?_
  refine zC rfl (rfl) ?_
  repeat refine zX rfl ?_
  exact aj ⟨⟨rfl,rfl,rfl,trivial⟩,rfl⟩
 subst hw;refine cond hS rfl (fun hT=>?_) (fun hF=>wp_skip ?_)
 ·refine wp_seq (ai [(4,Vi (-1))] (· = w6) af hS ?_ (fun a w7 hS hw=>?_))
  ·repeat refine zX rfl ?_
   exact aj ⟨⟨rfl,trivial⟩,rfl⟩
  subst hw;refine wp_ret ?_
  repeat first|refine a8 ?_|refine am ?_
  exact ret1 hS rfl rfl ⟨by rw [cmpI,if_pos (of_decide_eq_true hT)],hB⟩
 have h1:=of_decide_eq_false hF;refine wp_seq (wp_seq (ai [(0,Vi x),(1,Vi y),(19,.bool (decide (y < x)))] (· = w6) af hS ?_ (fun a w7 hS hw=>?_)))
 ·repeat refine zX rfl ?_
  refine zC rfl (rfl) ?_
  repeat refine zX rfl ?_
  exact aj ⟨⟨rfl,rfl,rfl,trivial⟩,rfl⟩
 subst hw;refine cond hS rfl (fun hT=>?_) (fun hF=>wp_skip ?_)
 ·refine wp_seq (ai [(4,Vi 1)] (· = w7) af hS ?_ (fun a w8 hS hw=>?_))
  ·repeat refine zX rfl ?_
   exact aj ⟨⟨rfl,trivial⟩,rfl⟩
  subst hw;refine wp_ret ?_
  repeat first|refine a8 ?_|refine am ?_
  exact ret1 hS rfl rfl ⟨by rw [cmpI,if_neg h1,if_pos (of_decide_eq_true hT)],hB⟩
 refine wp_seq (ai [(4,Vi 0)] (· = w7) af hS ?_ (fun a w8 hS hw=>?_))
 ·repeat refine zX rfl ?_
  exact aj ⟨⟨rfl,trivial⟩,rfl⟩
 subst hw;refine wp_ret ?_
 repeat first|refine a8 ?_|refine am ?_
 exact ret1 hS rfl rfl ⟨by rw [cmpI,if_neg h1,if_neg (of_decide_eq_false hF)],hB⟩
theorem or_any (v : Value) (l : List Int) (w : World) (hl : Sl w v l PInt) : Calls Tryz.prog 77 #[v] w fun e w'=>e = .returned (Vi (orL l)) ∧ RowKit.Below w.heap.size w w':=by
 refine Sym.c8 (args:=[v]) Tryz.func77 rfl rfl rfl (fun a0 hS0=>?_);have hB:=RowKit.Below.refl w.heap.size w;obtain ⟨al,bl,ol,cl,rfl,h1,h2,h3,h4⟩:=hl;refine wp_seq (ai [(0,.slice al l.length cl)] (· = w) af hS0 ?_ (fun a w1 hS hw=>?_))
 ·repeat refine zX rfl ?_
  exact aj ⟨⟨rfl,trivial⟩,rfl⟩
 subst hw;refine wp_seq (ai [(0,.slice al l.length cl),(3,Vi 0)] (· = w1) af hS ?_ (fun a w2 hS hw=>?_))
 ·repeat refine zX rfl ?_
  exact aj ⟨⟨rfl,rfl,trivial⟩,rfl⟩
 subst hw;refine wp_seq (wp_seq (ai [(3,Vi 0),(6,.slice al l.length cl),(7,Vi l.length),(8,Vi (0 : Nat))] (· = w2) af hS ?_ (fun a w3 hS hw=>?_)))
 ·repeat refine zX rfl ?_
  exact aj ⟨⟨rfl,rfl,rfl,rfl,trivial⟩,rfl⟩
 subst hw;refine wp_block (cz hS (fun γ E w'=>∃ i : Nat,i ≤ l.length ∧ γ = l.length - i ∧ E = [(3,Vi 0),(6,.slice al l.length cl),(7,Vi l.length),(8,Vi i)] ∧ w' = w3 ∧ ∀ j (h : j < l.length),j < i → l[j] = 0) l.length ⟨0,by omega,by omega,rfl,rfl,fun j _ hj=>by omega⟩ ?_);clear hS;rintro γ E w4 a ⟨i,hi,rfl,rfl,rfl,hz⟩ hS;refine wp_seq (ai [(3,Vi 0),(6,.slice al l.length cl),(7,Vi l.length),(8,Vi i),(9,.bool (decide (i < l.length)))] (· = w4) af hS ?_ (fun a w5 hS hw=>?_))
 ·repeat refine zX rfl ?_
  refine zC rfl (co _ _) ?_
  repeat refine zX rfl ?_
  exact aj ⟨⟨rfl,rfl,rfl,rfl,rfl,trivial⟩,rfl⟩
 subst hw;refine wp_seq (cond hS rfl (fun hT=>wp_skip ?_) (fun hF=>?_))
 rotate_left
 ·have hii : i = l.length:=by have:=of_decide_eq_false hF; omega
  refine wp_exit ?_
  repeat first|refine bf ?_|refine ba ?_|refine az rfl ?_
  refine wp_seq (ai [(2,Vi 0)] (· = w5) af hS ?_ (fun a w6 hS hw=>?_))
  ·repeat refine zX rfl ?_
   exact aj ⟨⟨rfl,trivial⟩,rfl⟩
  subst hw;refine wp_ret ?_
  repeat first|refine a8 ?_|refine am ?_
  exact ret1 hS rfl rfl ⟨by rw [pd i l hz,List.drop_eq_nil_of_le (by omega)]; rfl,hB⟩
 have hii : i < l.length:=of_decide_eq_true hT;obtain rfl:=h1 (by omega);obtain ⟨y,hy,rfl,-⟩:=h4 i hii
 have hor : orL l = if l[i] ≠ 0 then l[i] else orL (l.drop (i + 1)):=by
  rw [pd i l hz,List.drop_eq_getElem_cons hii]; rfl
 refine wp_seq (wp_block (wp_seq (ai [(3,Vi 0),(6,.slice (some ⟨bl,ol,none⟩) l.length cl),(7,Vi l.length),(8,Vi i),(5,Vi l[i])] (· = w5) af hS ?_ (fun a w6 hS hw=>?_))))
 ·repeat refine zX rfl ?_
  refine zI rfl (rfl) (hii) ?_;refine zL rfl (hy) ?_
  repeat refine zX rfl ?_
  exact aj ⟨⟨rfl,rfl,rfl,rfl,rfl,trivial⟩,rfl⟩
 subst hw;refine wp_seq (ai [(3,Vi 0),(6,.slice (some ⟨bl,ol,none⟩) l.length cl),(7,Vi l.length),(8,Vi i),(5,Vi l[i]),(14,.bool (decide (l[i] ≠ 0)))] (· = w6) af hS ?_ (fun a w7 hS hw=>?_))
 ·repeat refine zX rfl ?_
  refine zC rfl (rfl) ?_
  repeat refine zX rfl ?_
  exact aj ⟨⟨rfl,rfl,rfl,rfl,rfl,rfl,trivial⟩,rfl⟩
 subst hw;refine cond hS rfl (fun hT2=>?_) (fun hF2=>wp_skip ?_)
 ·refine wp_seq (ai [(2,Vi l[i])] (· = w7) af hS ?_ (fun a w8 hS hw=>?_))
  ·repeat refine zX rfl ?_
   exact aj ⟨⟨rfl,trivial⟩,rfl⟩
  subst hw;refine wp_ret ?_
  repeat first|refine a8 ?_|refine am ?_
  exact ret1 hS rfl rfl ⟨by rw [hor,if_pos (of_decide_eq_true hT2)],hB⟩
 have h0:=Decidable.not_not.1 (of_decide_eq_false hF2);refine ay ?_;refine ai [(3,Vi 0),(6,.slice (some ⟨bl,ol,none⟩) l.length cl),(7,Vi l.length),(8,Vi (i + 1 : Nat))] (· = w7) af hS ?_ (fun a w8 hS hw=>?_)
 ·repeat refine zX rfl ?_
  refine zN rfl (bm i 1 (by omega)) ?_
  repeat refine zX rfl ?_
  exact aj ⟨⟨rfl,rfl,rfl,rfl,trivial⟩,rfl⟩
 subst hw;refine ⟨l.length - (i + 1),_,by omega,⟨i + 1,by omega,rfl,rfl,rfl,fun j hj hji=>?_⟩,hS⟩
 rcases Nat.lt_or_ge j i with h | h
 ·exact hz j hj h
 ·obtain rfl : j = i:=by omega
  exact h0
theorem qc {w wc : World} {a b c d : Int} (hw : wc = (w.alloc (.cells #[Vi a,Vi b] 83)).alloc (.cells #[Vi c,Vi d] 83)) : RowKit.Below w.heap.size w wc ∧ BoxP wc w.heap.size a b ∧ BoxP wc (w.heap.size + 1) c d:=by
 have hB1:=ao w (.cells #[Vi a,Vi b] 83);have hB2:=ao (w.alloc (.cells #[Vi a,Vi b] 83)) (.cells #[Vi c,Vi d] 83);have h2:=BoxP.new (w.alloc (.cells #[Vi a,Vi b] 83)) c d 83;rw [b5] at h2;rw [hw];exact ⟨ak hB1 hB2,(BoxP.new w a b 83).keep hB2,h2⟩
theorem ahg (x y : Int) : I64 (cmpI x y):=by
 unfold cmpI I64
 repeat' split
 all_goals omega
set_option maxHeartbeats 2000000 in
theorem aed (p q c d : Int) (w : World) : Calls Tryz.prog 47 #[.agg #[Vi p,Vi q],.agg #[Vi c,Vi d]] w fun e w'=>e = .returned (Vi (ordP p q c d)) ∧ RowKit.Below w.heap.size w w':=by
 refine Sym.c8 (args:=[.agg #[Vi p,Vi q],.agg #[Vi c,Vi d]]) Tryz.func47 rfl rfl rfl (fun a0 hS0=>?_);obtain ⟨B,hBB⟩ : ∃ B,B = w.heap.size:=⟨_,rfl⟩;refine wp_seq (ai [(2,Vp B),(3,Vp (B + 1))] (· = (w.alloc (.cells #[Vi p,Vi q] 83)).alloc (.cells #[Vi c,Vi d] 83)) af hS0 ?_ (fun a w1 hS hw=>?_))
 ·subst hBB;refine zB rfl ?_;refine zB rfl ?_;rw [b5]
  repeat refine zX rfl ?_
  exact aj ⟨⟨rfl,rfl,trivial⟩,rfl⟩
 obtain ⟨hB,hx,hz⟩:=qc hw;rw [← hBB] at hx hz;clear hw;refine wp_seq (d5 13 [(4,Vi (ordP p q c d))] (fun w'=>RowKit.Below w1.heap.size w1 w') dc hS ?_ (fun a w2 hS hw=>?_))
 ·have hy : RowKit.Below w1.drew.heap.size w1.drew w1.drew:=RowKit.Below.refl _ _;refine yT 0 af rfl (by kernel_rfl) hy rfl (rfl) ?_;refine yL 1 af rfl (by kernel_rfl) hy rfl rfl (hx.c0) ?_;refine yT 2 af rfl (by kernel_rfl) hy rfl (rfl) ?_;refine yL 3 af rfl (by kernel_rfl) hy rfl rfl (hz.c0) ?_;refine yT 5 af rfl (by kernel_rfl) hy rfl (rfl) ?_;refine yL 6 af rfl (by kernel_rfl) hy rfl rfl (hx.c1) ?_;refine yT 7 af rfl (by kernel_rfl) hy rfl (rfl) ?_;refine yL 8 af rfl (by kernel_rfl) hy rfl rfl (hz.c1) ?_;refine bo 4 (by kernel_rfl) (y_op 4 af rfl rfl rfl rfl ?_);refine anI m6 ((te p c _).mono ?_);rintro e w2 ⟨rfl,h1⟩;refine ⟨_,rfl,?_⟩;refine anI (.inr h1) ?_;refine bo 9 (by kernel_rfl) (y_op 9 af rfl rfl rfl rfl ?_);refine anI m6 ((te q d _).mono ?_);rintro e w3 ⟨rfl,h2⟩;refine ⟨_,rfl,?_⟩;have hy2:=ak h1 h2;refine anI (.inr hy2) ?_;refine bo 10 (by kernel_rfl) (y_op 10 af rfl rfl rfl rfl ?_);refine exI [(0,Vi (cmpI p c)),(1,Vi (cmpI q d))] (exI _ (anI (anI rfl rfl) (anI (by decide) (anI (acg ..) ?_))));have hy3:=hy2.alloc hy2.size (.cells #[Vi (cmpI p c),Vi (cmpI q d)] 3);refine anI (.inr hy3) ?_
  have hs : Sl _ (Vs w3.heap.size 2 2) [cmpI p c,cmpI q d] PInt:=qw w3 [cmpI p c,cmpI q d] 2 rfl (by
   intro x hx;simp only [List.mem_cons,List.not_mem_nil,or_false] at hx
   rcases hx with rfl | rfl <;> exact ahg _ _) (by simp)
  refine bo 11 (by kernel_rfl) (y_op 11 af rfl rfl rfl rfl ?_);refine anI en_Or ((or_any _ _ _ hs).mono ?_);rintro e w4 ⟨rfl,h4⟩;refine ⟨_,rfl,?_⟩;have hy4:=ak hy3 h4;refine anI (.inr hy4) ?_;refine yT 12 af rfl (by kernel_rfl) hy4 rfl (rfl) ?_;exact iq (by kernel_rfl) ⟨rfl,trivial⟩ (fe hy4)
 refine wp_ret ?_
 repeat first|refine a8 ?_|refine am ?_
 exact ret1 hS rfl rfl ⟨rfl,ak hB hw⟩
theorem l7 (w : World) : Calls Tryz.prog 41 #[] w fun e w'=>e = .returned (.agg #[Vi (-1),Vi (-1)]) ∧ RowKit.Below w.heap.size w w':=by
 refine Sym.c8 (args:=[]) Tryz.func41 rfl rfl rfl (fun a0 hS0=>?_);obtain ⟨N,hN⟩ : ∃ N,N = w.heap.size:=⟨_,rfl⟩;refine wp_seq (ai [(0,Vp N)] (· = w.alloc (.cells #[Vi 0,Vi 0] 83)) af hS0 ?_ (fun a wc hS hw=>?_))
 ·subst hN;refine zB rfl ?_
  repeat refine zX rfl ?_
  exact aj ⟨⟨rfl,trivial⟩,rfl⟩
 refine wp_seq (ai [(0,Vp N)] (· = newP w (-1) (-1)) af hS ?_ (fun a w1 hS hw1=>?_))
 ·subst hw hN
  repeat refine zX rfl ?_
  refine cj rfl rfl (anI rfl (anI rfl (anI (fj (OwnB.new w [Vi 0,Vi 0] 83)) ?_)));exact aj ⟨⟨rfl,trivial⟩,rfl⟩
 have hp:=rf w (-1) (-1);rw [← hw1,← hN] at hp;refine wp_ret ?_
 repeat first|refine a8 ?_|refine am ?_
 exact wl af hS rfl rfl rfl rfl (o:=0) (vs:=[Vi (-1),Vi (-1)]) ⟨hp.c0,hp.c1,trivial⟩ rfl ⟨rfl,by rw [hw1]; exact mq w _ _⟩
theorem x7 {w wc : World} {L1 s1 L2 s2 : Int} {vn1 ve1 vn2 ve2 : Value} (hw : wc = ((w.alloc (.cells #[Vi L1,Vi s1,vn1,ve1] 25)).alloc (.cells #[Vi L2,Vi s2,vn2,ve2] 25)).alloc (.cells #[Vi 0,Vi 0] 83)) : RowKit.Below w.heap.size w wc ∧ Box wc w.heap.size L1 s1 vn1 ve1 ∧ Box wc (w.heap.size + 1) L2 s2 vn2 ve2 ∧ OwnB wc (w.heap.size + 1 + 1) 83 [Vi 0,Vi 0]:=by
 obtain ⟨h1,h2,h3⟩:=lc (w:=w) (wc:=(w.alloc (.cells #[Vi L1,Vi s1,vn1,ve1] 25)).alloc (.cells #[Vi L2,Vi s2,vn2,ve2] 25)) rfl;have h4:=ao ((w.alloc (.cells #[Vi L1,Vi s1,vn1,ve1] 25)).alloc (.cells #[Vi L2,Vi s2,vn2,ve2] 25)) (.cells #[Vi 0,Vi 0] 83);have h5:=OwnB.new ((w.alloc (.cells #[Vi L1,Vi s1,vn1,ve1] 25)).alloc (.cells #[Vi L2,Vi s2,vn2,ve2] 25)) [Vi 0,Vi 0] 83;rw [b5,b5] at h5;rw [hw];exact ⟨ak h1 h4,h2.keep h4,h3.keep h4,h5⟩
theorem wm {w0 w : World} {b : Nat} {T : TypeId} {v0 v1 : Value} (h : OwnB w b T [v0,v1]) (hB : RowKit.Below w0.heap.size w0 w) (hb : w0.heap.size ≤ b) (x y : Value) : OwnB (w.setCells b 0 [x,y]) b T [x,y] ∧ RowKit.Below w0.heap.size w0 (w.setCells b 0 [x,y]):=
 ⟨h.sets rfl,a6 hB (bz b _ 0 _) (fun k hk=>by cases hk; exact hb)⟩
theorem tp (L1 s1 L2 s2 : Int) (vn1 ve1 vn2 ve2 : Value) (w : World) : Calls Tryz.prog 45 #[.agg #[Vi L1,Vi s1,vn1,ve1],.agg #[Vi L2,Vi s2,vn2,ve2]] w fun e w'=>e = .returned (.agg #[Vi s1,Vi s2]) ∧ RowKit.Below w.heap.size w w':=by
 refine Sym.c8 (args:=[.agg #[Vi L1,Vi s1,vn1,ve1],.agg #[Vi L2,Vi s2,vn2,ve2]]) Tryz.func45 rfl rfl rfl (fun a0 hS0=>?_);obtain ⟨B,hBB⟩ : ∃ B,B = w.heap.size:=⟨_,rfl⟩;refine wp_seq (ai [(2,Vp B),(3,Vp (B + 1)),(4,Vp (B + 1 + 1))] (· = ((w.alloc (.cells #[Vi L1,Vi s1,vn1,ve1] 25)).alloc (.cells #[Vi L2,Vi s2,vn2,ve2] 25)).alloc (.cells #[Vi 0,Vi 0] 83)) af hS0 ?_ (fun a wc hS hw=>?_))
 ·subst hBB;refine zB rfl ?_;refine zB rfl ?_;refine zB rfl ?_;rw [b5,b5]
  repeat refine zX rfl ?_
  exact aj ⟨⟨rfl,rfl,rfl,trivial⟩,rfl⟩
 obtain ⟨hB,hx,hy,ho⟩:=x7 hw;rw [← hBB] at hx hy ho;clear hw;obtain ⟨h1,h2⟩:=wm ho hB (by omega) (Vi s1) (Vi s2);refine wp_seq (ai [(4,Vp (B + 1 + 1))] (· = wc.setCells (B + 1 + 1) 0 [Vi s1,Vi s2]) af hS ?_ (fun a w1 hS hw1=>?_))
 ·repeat refine zX rfl ?_
  refine zL rfl (hx.c1) ?_
  repeat refine zX rfl ?_
  refine zL rfl (hy.c1) ?_
  repeat refine zX rfl ?_
  refine cj rfl rfl (anI rfl (anI rfl (anI (fj ho) ?_)));exact aj ⟨⟨rfl,trivial⟩,rfl⟩
 rw [← hw1] at h1 h2;refine wp_ret ?_
 repeat first|refine a8 ?_|refine am ?_
 exact wl af hS rfl rfl rfl rfl (o:=0) (vs:=[Vi s1,Vi s2]) ⟨h1.cell (i:=0) rfl,h1.cell (i:=1) rfl,trivial⟩ rfl ⟨rfl,h2⟩
theorem aeb {w wc : World} {L1 s1 L2 s2 p q : Int} {vn1 ve1 vn2 ve2 : Value} (hw : wc = (((w.alloc (.cells #[Vi L1,Vi s1,vn1,ve1] 25)).alloc (.cells #[Vi L2,Vi s2,vn2,ve2] 25)).alloc (.cells #[Vi p,Vi q] 83)).alloc (.cells #[Vi 0,Vi 0] 83)) : RowKit.Below w.heap.size w wc ∧ Box wc w.heap.size L1 s1 vn1 ve1 ∧ Box wc (w.heap.size + 1) L2 s2 vn2 ve2 ∧ BoxP wc (w.heap.size + 1 + 1) p q ∧ OwnB wc (w.heap.size + 1 + 1 + 1) 83 [Vi 0,Vi 0]:=by
 obtain ⟨h1,h2,h3⟩:=lc (w:=w) (wc:=(w.alloc (.cells #[Vi L1,Vi s1,vn1,ve1] 25)).alloc (.cells #[Vi L2,Vi s2,vn2,ve2] 25)) rfl;have h4:=ao ((w.alloc (.cells #[Vi L1,Vi s1,vn1,ve1] 25)).alloc (.cells #[Vi L2,Vi s2,vn2,ve2] 25)) (.cells #[Vi p,Vi q] 83);have h5:=ao (((w.alloc (.cells #[Vi L1,Vi s1,vn1,ve1] 25)).alloc (.cells #[Vi L2,Vi s2,vn2,ve2] 25)).alloc (.cells #[Vi p,Vi q] 83)) (.cells #[Vi 0,Vi 0] 83);have h6:=BoxP.new ((w.alloc (.cells #[Vi L1,Vi s1,vn1,ve1] 25)).alloc (.cells #[Vi L2,Vi s2,vn2,ve2] 25)) p q 83;have h7:=OwnB.new (((w.alloc (.cells #[Vi L1,Vi s1,vn1,ve1] 25)).alloc (.cells #[Vi L2,Vi s2,vn2,ve2] 25)).alloc (.cells #[Vi p,Vi q] 83)) [Vi 0,Vi 0] 83;rw [b5,b5] at h6;rw [b5,b5,b5] at h7;rw [hw];have h8:=h6.keep (by rw [b5,b5] at *; exact h5);exact ⟨ak (ak h1 h4) h5,(h2.keep h4).keep h5,(h3.keep h4).keep h5,h8,h7⟩
set_option maxHeartbeats 2000000 in
theorem l9 (L1 s1 L2 s2 p q l : Int) (vn1 ve1 vn2 ve2 : Value) (n1 n2 : List (List Int)) (w : World) (hn1 : Sl w vn1 n1 PRow) (hn2 : Sl w vn2 n2 PRow) (h1 : p < n1.length) (h2 : q < n2.length) (h3 : 0 ≤ p → 0 ≤ l ∧ l < (n1.getD p.toNat []).length) (h4 : 0 ≤ q → 0 ≤ l ∧ l < (n2.getD q.toNat []).length) :
  Calls Tryz.prog 43 #[.agg #[Vi L1,Vi s1,vn1,ve1],.agg #[Vi L2,Vi s2,vn2,ve2],.agg #[Vi p,Vi q],Vi l] w fun e w'=>e = .returned (.agg #[Vi (dd n1 p l),Vi (dd n2 q l)]) ∧ RowKit.Below w.heap.size w w':=by
 refine Sym.c8 (args:=[.agg #[Vi L1,Vi s1,vn1,ve1],.agg #[Vi L2,Vi s2,vn2,ve2],.agg #[Vi p,Vi q],Vi l]) Tryz.func43 rfl rfl rfl (fun a0 hS0=>?_);obtain ⟨B,hBB⟩ : ∃ B,B = w.heap.size:=⟨_,rfl⟩;refine wp_seq (ai [(3,Vi l),(4,Vp B),(5,Vp (B + 1)),(6,Vp (B + 1 + 1)),(8,Vp (B + 1 + 1 + 1))] (· = (((w.alloc (.cells #[Vi L1,Vi s1,vn1,ve1] 25)).alloc (.cells #[Vi L2,Vi s2,vn2,ve2] 25)).alloc (.cells #[Vi p,Vi q] 83)).alloc (.cells #[Vi 0,Vi 0] 83)) af hS0 ?_ (fun a wc hS hw=>?_))
 ·subst hBB;refine zB rfl ?_;refine zB rfl ?_;refine zB rfl ?_
  repeat refine zX rfl ?_
  refine zB rfl ?_;rw [b5,b5,b5]
  repeat refine zX rfl ?_
  exact aj ⟨⟨rfl,rfl,rfl,rfl,rfl,trivial⟩,rfl⟩
 obtain ⟨hB,hx,hy,hp,ho⟩:=aeb hw;rw [← hBB] at hx hy hp ho;clear hw;replace hn1:=hn1.keep hB (fun _ _ h=>PRow.keep hB h);replace hn2:=hn2.keep hB (fun _ _ h=>PRow.keep hB h);refine wp_seq (d5 11 [(8,Vp (B + 1 + 1 + 1))] (fun w'=>OwnB w' (B + 1 + 1 + 1) 83 [Vi (dd n1 p l),Vi (dd n2 q l)] ∧ RowKit.Below w.heap.size w w') dc hS ?_ (fun a w2 hS hw=>?_))
 ·have hy0 : RowKit.Below wc.drew.heap.size wc.drew wc.drew:=RowKit.Below.refl _ _;refine yT 0 af rfl (by kernel_rfl) hy0 rfl (exI ([Vi L1,Vi s1,vn1,ve1]) (anI rfl (anI (hx.cells) rfl))) ?_;refine yT 1 af rfl (by kernel_rfl) hy0 rfl (rfl) ?_;refine yL 2 af rfl (by kernel_rfl) hy0 rfl rfl (hp.c0) ?_;refine yT 3 af rfl (by kernel_rfl) hy0 rfl (rfl) ?_;refine yT 5 af rfl (by kernel_rfl) hy0 rfl (exI ([Vi L2,Vi s2,vn2,ve2]) (anI rfl (anI (hy.cells) rfl))) ?_;refine yT 6 af rfl (by kernel_rfl) hy0 rfl (rfl) ?_;refine yL 7 af rfl (by kernel_rfl) hy0 rfl rfl (hp.c1) ?_;refine yT 8 af rfl (by kernel_rfl) hy0 rfl (rfl) ?_;refine bo 4 (by kernel_rfl) (y_op 4 af rfl rfl rfl rfl ?_);have hd : RowKit.Below wc.heap.size wc wc.drew:=(RowKit.Below.refl _ _).drew;refine anI qs ((om L1 s1 vn1 ve1 n1 p l wc.drew (hn1.keep hd (fun _ _ h=>PRow.keep hd h)) h1 h3).mono ?_);rintro e w2 ⟨rfl,k1⟩;refine ⟨_,rfl,?_⟩;refine anI (.inr k1) ?_;refine bo 9 (by kernel_rfl) (y_op 9 af rfl rfl rfl rfl ?_);have k1' : RowKit.Below wc.heap.size wc w2:=fe k1;refine anI qs ((om L2 s2 vn2 ve2 n2 q l _ (hn2.keep k1' (fun _ _ h=>PRow.keep k1' h)) h2 h4).mono ?_);rintro e w3 ⟨rfl,k2⟩;refine ⟨_,rfl,?_⟩;have hy2:=ak k1 k2;refine anI (.inr hy2) ?_;have ho2:=ho.keep (fe hy2) ho.lt;obtain ⟨h5,h6⟩:=wm ho2 (ak hB (fe hy2)) (by omega) (Vi (dd n1 p l)) (Vi (dd n2 q l));refine yT 10 af rfl (by kernel_rfl) hy2 rfl (rfl) ?_;refine bo 11 (by kernel_rfl) (ew 11 af rfl rfl rfl ?_);refine anI rfl (anI rfl (anI (fj ho2) (anI (.inl (by kernel_rfl)) ?_)));exact iq (by kernel_rfl) ⟨rfl,trivial⟩ ⟨h5,h6⟩
 obtain ⟨h5,h6⟩:=hw;refine wp_ret ?_
 repeat first|refine a8 ?_|refine am ?_
 exact wl af hS rfl rfl rfl rfl (o:=0) (vs:=[Vi (dd n1 p l),Vi (dd n2 q l)]) ⟨h5.cell (i:=0) rfl,h5.cell (i:=1) rfl,trivial⟩ rfl ⟨rfl,h6⟩
end
section
open Go Sym
theorem ag6 : bk Tryz.prog 49 = true:=by kernel_rfl
theorem m5 : bk Tryz.prog 79 = true:=by kernel_rfl
theorem SlP.at {w : World} {g : Option Addr} {c : Nat} {l : List (Int × Int)} (h : SlP w (.slice g l.length c) l) {k : Nat} (hk : k < l.length) : ∃ b o,g = some ⟨b,o,none⟩ ∧ ca w.cell? b (o + k * 2) [Vi l[k].1,Vi l[k].2]:=by
 obtain ⟨a,b,o,cap,e,h1,h2,h3,h4⟩:=h;simp only [Value.slice.injEq] at e;obtain ⟨rfl,-,rfl⟩:=e;exact ⟨b,o,h1 (by omega),(h4 k hk).1⟩
theorem ah3 {base : Nat} {w : World} {l : List Ow} (h : Rows base w l) {i T b : Nat} {u v : Value} (hi : l[i]? = some (oX T b 2 [u,v])) : ∀ j,j < 2 → (w.cell? ⟨b,0 + j,none⟩).isSome = true ∧ w.frozen? ⟨b,0 + j,none⟩ = false:=fun j hj=>by
 rw [Nat.zero_add];refine ⟨?_,h.free hi j⟩
 match j,hj with
 | 0,_=>rw [h.xcell hi (j:=0) rfl]; rfl
 | 1,_=>rw [h.xcell hi (j:=1) rfl]; rfl
theorem Hold.xput2 {base : Nat} {w0 w : World} {l : List Ow} (h : Hold base w0 w l) {i T b : Nat} {u v : Value} (hi : l[i]? = some (oX T b 2 [u,v])) (x y : Value) : Hold base w0 (w.setCells b 0 [x,y]) (l.set i (oX T b 2 [x,y])):=by
 have h1:=h.xstore hi 0 x;have h2:=h1.xstore (i:=i) (T:=T) (b:=b) (k:=2) (vs:=[u,v].set 0 x) (by rw [List.getElem?_set_self (List.getElem?_eq_some_iff.1 hi).1]) 1 y;rw [List.set_set] at h2;exact h2
def q7 (l : List (Int × Int)) (k : Nat) : Int × Int:=if k = 0 then (-1,-1) else l.getD (k - 1) (0,0)
theorem aio {m1 m2 : Int} {l : List (Int × Int)} {k : Nat} (hk : k < l.length) (hgo : ∀ j,j < k → badM m1 m2 l j = false) :
  (decide (l[k].1 < -1) || (decide (m1 ≤ l[k].1) || (decide (l[k].2 < -1) || (decide (m2 ≤ l[k].2) || decide (0 ≤ ordP (q7 l k).1 (q7 l k).2 l[k].1 l[k].2))))) = badM m1 m2 l k:=by
 rw [badM,badP,show l.getD k (0,0) = l[k] by simp [List.getD_eq_getElem?_getD,hk]];unfold ahq;obtain ⟨p,q⟩:=l[k]
 cases k with
 | zero=>
   rw [Bool.eq_iff_iff];simp only [q7,if_pos,Bool.or_eq_true,Bool.and_eq_true,decide_eq_true_eq,aam];omega
 | succ k=>
   have h1:=ze (k:=k) (by omega) (hgo k (by omega));rw [q7,if_neg (by omega),Nat.add_sub_cancel,show l.getD k (0,0) = l[k] by simp [List.getD_eq_getElem?_getD,show k < l.length by omega]];obtain ⟨x,hx⟩ : ∃ x,x = l[k]:=⟨_,rfl⟩;rw [← hx] at h1 ⊢;clear hx;obtain ⟨c,d⟩:=x;rw [Bool.eq_iff_iff];simp only [Bool.or_eq_true,Bool.and_eq_true,decide_eq_true_eq,aam,Bool.not_eq_true',Bool.or_eq_false_iff,Bool.and_eq_false_iff,decide_eq_false_iff_not] at *;omega
set_option maxHeartbeats 1000000 in
theorem tw (L1 s1 L2 s2 : Int) (vn1 ve1 vn2 ve2 v : Value) (n1 n2 : List (List Int)) (f1 f2 : List Bool) (l : List (Int × Int)) (w : World) (hm : Ma w L1 s1 n1 f1 vn1 ve1) (hm2 : Ma w L2 s2 n2 f2 vn2 ve2) (hl : SlP w v l) :
  Calls Tryz.prog 48 #[.agg #[Vi L1,Vi s1,vn1,ve1],.agg #[Vi L2,Vi s2,vn2,ve2],v] w fun e w'=>e = .returned (.bool (!(List.range l.length).any (badM n1.length n2.length l))) ∧ RowKit.Below w.heap.size w w':=by
 refine Sym.c8 (args:=[.agg #[Vi L1,Vi s1,vn1,ve1],.agg #[Vi L2,Vi s2,vn2,ve2],v]) Tryz.func48 rfl rfl rfl (fun a0 hS0=>?_);obtain ⟨B,hBB⟩ : ∃ B,B = w.heap.size:=⟨_,rfl⟩;refine wp_seq (ai [(3,Vp B),(4,Vp (B + 1)),(2,v)] (· = (w.alloc (.cells #[Vi L1,Vi s1,vn1,ve1] 25)).alloc (.cells #[Vi L2,Vi s2,vn2,ve2] 25)) af hS0 ?_ (fun a wc hS hw=>?_))
 ·subst hBB;refine zB rfl ?_;refine zB rfl ?_;rw [b5]
  repeat refine zX rfl ?_
  exact aj ⟨⟨rfl,rfl,rfl,trivial⟩,rfl⟩
 obtain ⟨hB,hx,hz⟩:=lc hw;rw [← hBB] at hx hz;clear hw;replace hm:=hm.keep hB;replace hm2:=hm2.keep hB;replace hl:=hl.keep hB;have K:=fun w' (h : RowKit.Below wc.heap.size wc w')=>anI (hx.keep h) (anI (hz.keep h) (anI (hm.keep h) (anI (hm2.keep h) (hl.keep h))));have fin' : ∀ {w'},RowKit.Below wc.heap.size wc w' → RowKit.Below w.heap.size w w':=fun h=>ak hB h;obtain ⟨al,bl,ol,cl,hvl,h1,h2,h3,-⟩:=id hl;subst hvl;refine wp_seq (bg (α:=Nat) (fun BL=>[(3,Vp B),(4,Vp (B + 1)),(2,.slice al l.length cl),(7,Vp BL)]) (fun BL w'=>Hold wc.heap.size wc w' [oX 83 BL 2 [Vi (-1),Vi (-1)]]) af hS ?_ (fun BL a w1 hS h=>?_))
 ·repeat refine zX rfl ?_
  refine zF rfl (od) (l7 wc) ?_;rintro e w2 ⟨rfl,k1⟩;refine ⟨_,rfl,?_⟩
  repeat refine zX rfl ?_
  refine zB rfl ?_;refine cj rfl rfl (anI rfl (anI rfl (anI (fj (OwnB.new w2 [Vi 0,Vi 0] 83)) ?_)))
  repeat refine zX rfl ?_
  exact aj ⟨_,⟨rfl,rfl,rfl,rfl,trivial⟩,(((Hold.start wc).below k1).var (T:=83) (k:=2) [Vi 0,Vi 0] [Vi (-1),Vi (-1)] rfl rfl).1⟩
 refine wp_seq (wp_seq (ai [(3,Vp B),(4,Vp (B + 1)),(7,Vp BL),(11,.slice al l.length cl),(12,Vi l.length),(13,Vi (0 : Nat))] (· = w1) af hS ?_ (fun a w' hS hw=>?_)))
 ·repeat refine zX rfl ?_
  exact aj ⟨⟨rfl,rfl,rfl,rfl,rfl,rfl,trivial⟩,rfl⟩
 subst hw;refine wp_block (cz hS (fun γ E w'=>∃ k : Nat,k ≤ l.length ∧ γ = l.length - k ∧ E = [(3,Vp B),(4,Vp (B + 1)),(7,Vp BL),(11,.slice al l.length cl),(12,Vi l.length),(13,Vi k)] ∧ (∀ j,j < k → badM n1.length n2.length l j = false) ∧ Hold wc.heap.size wc w' [oX 83 BL 2 [Vi (q7 l k).1,Vi (q7 l k).2]]) l.length ⟨0,by omega,by omega,rfl,fun j hj=>by omega,h⟩ ?_);clear h hS;rintro γ E w2 a ⟨k,hk,rfl,rfl,hgo,h⟩ hS;refine wp_seq (ai [(3,Vp B),(4,Vp (B + 1)),(7,Vp BL),(11,.slice al l.length cl),(12,Vi l.length),(13,Vi k),(14,.bool (decide (k < l.length)))] (· = w2) af hS ?_ (fun a w3 hS hw=>?_))
 ·repeat refine zX rfl ?_
  refine zC rfl (co _ _) ?_
  repeat refine zX rfl ?_
  exact aj ⟨⟨rfl,rfl,rfl,rfl,rfl,rfl,rfl,trivial⟩,rfl⟩
 subst hw;refine wp_seq (cond hS rfl (fun hT=>wp_skip ?_) (fun hF=>?_))
 rotate_left
 ·have hkk : k = l.length:=by have:=of_decide_eq_false hF; omega
  refine wp_exit ?_
  repeat first|refine bf ?_|refine ba ?_|refine az rfl ?_
  refine wp_seq (ai [(6,.bool true)] (· = w3) af hS ?_ (fun a w4 hS hw=>?_))
  ·repeat refine zX rfl ?_
   exact aj ⟨⟨rfl,trivial⟩,rfl⟩
  subst hw
  have hno : (List.range l.length).any (badM n1.length n2.length l) = false:=Bool.eq_false_iff.2 fun hh=>by
   obtain ⟨j,hj,hb⟩:=List.any_eq_true.1 hh;rw [hgo j (by have:=List.mem_range.1 hj; omega)] at hb
   cases hb
  refine wp_ret ?_
  repeat first|refine a8 ?_|refine am ?_
  exact ret1 hS rfl rfl ⟨by rw [hno]; rfl,fin' h.b⟩
 have hkk : k < l.length:=of_decide_eq_true hT;have hst:=aio hkk hgo;refine wp_seq (wp_block (wp_seq (bg (α:=Nat) (fun P=>[(3,Vp B),(4,Vp (B + 1)),(7,Vp BL),(11,.slice al l.length cl),(12,Vi l.length),(13,Vi k),(9,Vp P)]) (fun P w'=>BoxP w' P l[k].1 l[k].2 ∧ Hold wc.heap.size wc w' [oX 83 BL 2 [Vi (q7 l k).1,Vi (q7 l k).2]]) af hS ?_ (fun P a w4 hS h=>?_))))
 ·obtain ⟨hx,hz,hm,hm2,hl⟩:=K _ h.b;obtain ⟨b,o,rfl,hcell⟩:=hl.at hkk
  repeat refine zX rfl ?_
  refine zI rfl (rfl) (hkk) ?_;refine zA ([Vi l[k].1,Vi l[k].2]) rfl rfl (hcell) ?_;refine zB rfl ?_;refine cj rfl rfl (anI rfl (anI rfl (anI (fj (OwnB.new w3 [Vi 0,Vi 0] 83)) ?_)));exact aj ⟨_,⟨rfl,rfl,rfl,rfl,rfl,rfl,rfl,trivial⟩,rf w3 l[k].1 l[k].2,h.below (mq w3 l[k].1 l[k].2)⟩
 obtain ⟨hp,h⟩:=h;obtain ⟨p,hpe⟩ : ∃ p,p = l[k].1:=⟨_,rfl⟩;obtain ⟨q,hqe⟩ : ∃ q,q = l[k].2:=⟨_,rfl⟩;rw [← hpe,← hqe] at hp hst;obtain ⟨c,hce⟩ : ∃ c,c = (q7 l k).1:=⟨_,rfl⟩;obtain ⟨d,hde⟩ : ∃ d,d = (q7 l k).2:=⟨_,rfl⟩;rw [← hce,← hde] at h hst;refine wp_seq (wp_seq (ai [(3,Vp B),(4,Vp (B + 1)),(7,Vp BL),(11,.slice al l.length cl),(12,Vi l.length),(13,Vi k),(9,Vp P),(46,.bool (badM n1.length n2.length l k))] (fun w'=>RowKit.Below w4.heap.size w4 w') af hS ?_ (fun a w5 hS hw=>?_)))
 ·obtain ⟨hx,hz,hm,hm2,hl⟩:=K _ h.b;obtain ⟨an,bn,on,cn,hvn,-⟩:=hm.n;obtain ⟨an2,bn2,on2,cn2,hvn2,-⟩:=hm2.n;have hr:=RowKit.Below.refl w4.heap.size w4;subst hvn hvn2;rw [← hst]
  repeat refine zX rfl ?_
  refine zL rfl (hp.c0) ?_
  cases h1 : decide (p < -1)
  case true=>
   refine zC rfl (h1) ?_
   repeat refine zX rfl ?_
   exact aj ⟨⟨rfl,rfl,rfl,rfl,rfl,rfl,rfl,rfl,trivial⟩,hr⟩
  refine zC rfl (h1) ?_
  repeat refine zX rfl ?_
  refine zL rfl (hp.c0) ?_
  repeat refine zX rfl ?_
  refine zL rfl (hx.c2) ?_
  repeat refine zX rfl ?_
  cases h2 : decide ((n1.length : Int) ≤ p)
  case true=>
   refine zC rfl (h2) ?_
   repeat refine zX rfl ?_
   exact aj ⟨⟨rfl,rfl,rfl,rfl,rfl,rfl,rfl,rfl,trivial⟩,hr⟩
  refine zC rfl (h2) ?_
  repeat refine zX rfl ?_
  refine zL rfl (hp.c1) ?_
  cases h3 : decide (q < -1)
  case true=>
   refine zC rfl (h3) ?_
   repeat refine zX rfl ?_
   exact aj ⟨⟨rfl,rfl,rfl,rfl,rfl,rfl,rfl,rfl,trivial⟩,hr⟩
  refine zC rfl (h3) ?_
  repeat refine zX rfl ?_
  refine zL rfl (hp.c1) ?_
  repeat refine zX rfl ?_
  refine zL rfl (hz.c2) ?_
  repeat refine zX rfl ?_
  cases h4 : decide ((n2.length : Int) ≤ q)
  case true=>
   refine zC rfl (h4) ?_
   repeat refine zX rfl ?_
   exact aj ⟨⟨rfl,rfl,rfl,rfl,rfl,rfl,rfl,rfl,trivial⟩,hr⟩
  refine zC rfl (h4) ?_
  repeat refine zX rfl ?_
  refine zA ([Vi c,Vi d]) rfl rfl (⟨h.r.xcell (i:=0) rfl (j:=0) rfl,h.r.xcell (i:=0) rfl (j:=1) rfl,trivial⟩) ?_;refine zA ([Vi p,Vi q]) rfl rfl (hp.cells) ?_;refine zF rfl (ag7) (aed c d p q w4) ?_;rintro e w5 ⟨rfl,k1⟩;refine ⟨_,rfl,?_⟩;refine zC rfl (rfl) ?_
  repeat refine zX rfl ?_
  exact aj ⟨⟨rfl,rfl,rfl,rfl,rfl,rfl,rfl,rfl,trivial⟩,k1⟩
 replace h:=h.below hw;replace hp:=hp.keep hw;clear hw;refine cond hS rfl (fun hT=>?_) (fun hF=>wp_skip ?_)
 ·refine wp_seq (ai [(6,.bool false)] (· = w5) af hS ?_ (fun a w6 hS hw=>?_))
  ·repeat refine zX rfl ?_
   exact aj ⟨⟨rfl,trivial⟩,rfl⟩
  subst hw;have hyes : (List.range l.length).any (badM n1.length n2.length l) = true:=List.any_eq_true.2 ⟨k,List.mem_range.2 hkk,hT⟩;refine wp_ret ?_
  repeat first|refine a8 ?_|refine am ?_
  exact ret1 hS rfl rfl ⟨by rw [hyes]; rfl,fin' h.b⟩
 refine ai [(3,Vp B),(4,Vp (B + 1)),(7,Vp BL),(11,.slice al l.length cl),(12,Vi l.length),(13,Vi k)] (fun w'=>Hold wc.heap.size wc w' [oX 83 BL 2 [Vi p,Vi q]]) af hS ?_ (fun a w6 hS h=>?_)
 ·refine zA ([Vi p,Vi q]) rfl rfl (hp.cells) ?_
  repeat refine zX rfl ?_
  refine cj rfl rfl (anI rfl (anI rfl (anI (ah3 h.r (i:=0) rfl) ?_)));exact aj ⟨⟨rfl,rfl,rfl,rfl,rfl,rfl,trivial⟩,h.xput2 (i:=0) rfl _ _⟩
 refine ay ?_;refine ai [(3,Vp B),(4,Vp (B + 1)),(7,Vp BL),(11,.slice al l.length cl),(12,Vi l.length),(13,Vi (k + 1 : Nat))] (· = w6) af hS ?_ (fun a w7 hS hw=>?_)
 ·repeat refine zX rfl ?_
  refine zN rfl (bm k 1 (by omega)) ?_
  repeat refine zX rfl ?_
  exact aj ⟨⟨rfl,rfl,rfl,rfl,rfl,rfl,trivial⟩,rfl⟩
 subst hw
 have hlast : q7 l (k + 1) = (p,q):=by
  rw [q7,if_neg (by omega),Nat.add_sub_cancel,show l.getD k (0,0) = l[k] by simp [List.getD_eq_getElem?_getD,hkk],hpe,hqe]
 refine ⟨l.length - (k + 1),_,by omega,⟨k + 1,by omega,rfl,rfl,fun j hj=>?_,by rw [hlast]; exact h⟩,hS⟩
 rcases Nat.lt_or_ge j k with hlt2 | hge2
 ·exact hgo j hlt2
 ·obtain rfl : j = k:=by omega
  exact hF
end
section
open Go Sym
def plc (W : Nat) (p q : Int) : Nat:=(p + 1).toNat * W + (q + 1).toNat
theorem qb {W : Nat} {p q p' q' : Int} (h1 : -1 ≤ p) (h2 : -1 ≤ q) (h3 : -1 ≤ p') (h4 : -1 ≤ q') (h5 : q + 1 < W) (h6 : q' + 1 < W) (h : plc W p q = plc W p' q') : p = p' ∧ q = q':=by
 unfold plc at h;have e1 : ∀ a b : Nat,b < W → (a * W + b) % W = b:=fun a b hb=>by rw [Nat.add_comm,Nat.add_mul_mod_self_right,Nat.mod_eq_of_lt hb]
 have e2 : ∀ a b : Nat,b < W → (a * W + b) / W = a:=fun a b hb=>by
  rw [Nat.mul_comm,Nat.mul_add_div (by omega),Nat.div_eq_of_lt hb,Nat.add_zero]
 have k1:=e1 (p + 1).toNat (q + 1).toNat (by omega);have k2:=e1 (p' + 1).toNat (q' + 1).toNat (by omega);have k3:=e2 (p + 1).toNat (q + 1).toNat (by omega);have k4:=e2 (p' + 1).toNat (q' + 1).toNat (by omega);rw [h] at k1 k3;omega
theorem aj9 {m n : Nat} {p q : Int} (h1 : p < m) (h2 : q < n) : plc (n + 1) p q < (m + 1) * (n + 1):=by
 unfold plc;exact acb (by omega) (by omega)
def rowB (m : Nat) (f : Nat → Bool) : List Bool:=(List.range m).map f
theorem mj (m : Nat) (f : Nat → Bool) : (rowB m f).length = m:=by simp [rowB]
theorem aim {m j : Nat} (f : Nat → Bool) (h : j < m) : (rowB m f).getD j false = f j:=by simp [rowB,List.getD_eq_getElem?_getD,h]
theorem agx {xs : List Bool} {m : Nat} {f : Nat → Bool} (h : xs.length = m) (hf : ∀ j,j < m → xs.getD j false = f j) : xs = rowB m f:=by
 refine List.ext_getElem (by rw [h,mj]) fun j h1 h2=>?_
 have:=hf j (by omega)
 simp only [List.getD_eq_getElem?_getD,List.getElem?_eq_getElem h1,Option.getD_some] at this;rw [this]; simp [rowB]
theorem abx {m i : Nat} {v : Bool} {f g : Nat → Bool} (h : ∀ j,j < m → g j = if i = j then v else f j) : (rowB m f).set i v = rowB m g:=by
 refine agx (by rw [List.length_set,mj]) fun j hj=>?_;rw [h j hj];simp only [List.getD_eq_getElem?_getD,List.getElem?_set,mj]
 by_cases e : i = j
 ·subst e; simp [hj]
 ·simp [e,rowB,hj]
def tB (W : Nat) (l : List (Int × Int)) (k j : Nat) : Bool:=decide (j = 0) || (l.take k).any fun x=>decide (plc W x.1 x.2 = j)
theorem tB_step {W m : Nat} {l : List (Int × Int)} {k : Nat} (hk : k < l.length) : (rowB m (tB W l k)).set (plc W l[k].1 l[k].2) true = rowB m (tB W l (k + 1)):=abx fun j hj=>by
 unfold tB;rw [List.take_succ_eq_append_getElem hk,List.any_append]
 by_cases e : plc W l[k].1 l[k].2 = j
 ·rw [if_pos e]; simp [e]
 ·rw [if_neg e]; simp [e]
theorem tB_end {W : Nat} {l : List (Int × Int)} {n1 n2 : Nat} (hW : W = n2 + 1) (hr : ∀ i (h : i < l.length),-1 ≤ l[i].1 ∧ l[i].1 < n1 ∧ -1 ≤ l[i].2 ∧ l[i].2 < n2) {p q : Int} (h1 : -1 ≤ p) (h2 : -1 ≤ q) (h3 : q < n2) : tB W l l.length (plc W p q) = ij p q l:=by
 subst hW;rw [Bool.eq_iff_iff,tB,List.take_length,Bool.or_eq_true,decide_eq_true_eq,List.any_eq_true]
 have h0 : plc (n2 + 1) p q = 0 ↔ p < 0 ∧ q < 0:=by
  constructor
  ·intro h;have : plc (n2 + 1) p q = plc (n2 + 1) (-1) (-1):=by rw [h]; simp [plc]
   obtain ⟨rfl,rfl⟩:=qb h1 h2 (by omega) (by omega) (by omega) (by omega) this;omega
  ·rintro ⟨k1,k2⟩;obtain rfl : p = -1:=by omega
   obtain rfl : q = -1:=by omega
   simp [plc]
 rw [h0]
 constructor
 ·rintro (h | ⟨x,hx,he⟩)
  ·exact abp (.inl h)
  ·obtain ⟨i,hi,rfl⟩:=List.getElem_of_mem hx
   have:=hr i hi
   obtain ⟨e1,e2⟩:=qb (by omega) (by omega) h1 h2 (by omega) (by omega) (of_decide_eq_true he);exact abp (.inr (by rw [← e1,← e2]; exact List.getElem_mem hi))
 ·intro h
  rcases aet h with h | h
  ·exact .inl h
  ·exact .inr ⟨_,h,decide_eq_true rfl⟩
section
variable {base : Nat} {w0 w : World} {l : List Ow}
theorem Hold.makeB (h : Hold base w0 w l) {n : Nat} (hn : n ≤ 9223372036854775807) : Hold base w0 (w.alloc (.cells (madeCells #[.bool false] n) 4)) (oB (Vs w.heap.size n n) (rowB n (fun _=>false)) :: l):=by
 have h1:=h.lit (e:=4) (s:=1) (n:=n) (madeCells #[.bool false] n) (by simp [madeCells]) hn;rw [toList_madeCells_one] at h1;have e : rowB n (fun _=>false) = List.replicate n false:=(agx (by simp) (fun j hj=>by simp [List.getD_eq_getElem?_getD,List.getElem?_replicate,hj])).symm;rw [e]
 simpa [oB,ip] using h1
end
theorem ade (p q : Int) (W bw : Nat) (w : World) (hw : w.cell? ⟨bw,0,none⟩ = some (Vi W)) (hp : -1 ≤ p) (hp2 : p ≤ 5000) (hq : -1 ≤ q) (hq2 : q ≤ 5000) (hW : W ≤ 5000) :
  Calls Tryz.prog 79 #[.agg #[Vi p,Vi q],Vp bw] w fun e w'=>e = .returned (Vi (plc W p q : Int)) ∧ RowKit.Below w.heap.size w w':=by
 refine Sym.c8 (args:=[.agg #[Vi p,Vi q],Vp bw]) Tryz.func79 rfl rfl rfl (fun a0 hS0=>?_);obtain ⟨N,hN⟩ : ∃ N,N = w.heap.size:=⟨_,rfl⟩;refine wp_seq (ai [(1,Vp bw),(2,Vp N)] (· = w.alloc (.cells #[Vi p,Vi q] 83)) af hS0 ?_ (fun a wc hS hw=>?_))
 ·subst hN;refine zB rfl ?_
  repeat refine zX rfl ?_
  exact aj ⟨⟨rfl,rfl,trivial⟩,rfl⟩
 have hB : RowKit.Below w.heap.size w wc:=by rw [hw]; exact ao _ _
 have hp0 : BoxP wc N p q:=by rw [hw,hN]; exact BoxP.new _ _ _ _
 replace hw:=keep hB (by assumption);have hX : (p + 1).toNat * W ≤ 5001 * 5000:=Nat.mul_le_mul (by omega) hW
 have e1 : IntKind.i64.wrap (p + 1) = (((p + 1).toNat : Nat) : Int):=by
  rw [show p + 1 = (((p + 1).toNat : Nat) : Int) by omega]; exact lg _ (by omega)
 have e2:=lz (p + 1).toNat W (by omega);have e3 : IntKind.i64.wrap ((((p + 1).toNat * W : Nat) : Int) + q) = (((p + 1).toNat * W : Nat) : Int) + q:=IntWalk.i64_in _ ⟨by omega,by omega⟩
 have e4 : IntKind.i64.wrap ((((p + 1).toNat * W : Nat) : Int) + q + 1) = ((plc W p q : Nat) : Int):=by
  unfold plc;rw [show (((p + 1).toNat * W : Nat) : Int) + q + 1 = (((p + 1).toNat * W + (q + 1).toNat : Nat) : Int) by omega];exact lg _ (by omega)
 refine wp_seq (ai [(3,Vi (plc W p q : Int))] (· = wc) af hS ?_ (fun a w1 hS hw1=>?_))
 ·repeat refine zX rfl ?_
  refine zL rfl (hp0.c0) ?_;refine zN rfl (e1) ?_;refine zL rfl (hw) ?_;refine zN rfl (e2) ?_
  repeat refine zX rfl ?_
  refine zL rfl (hp0.c1) ?_;refine zN rfl (e3) ?_;refine zN rfl (e4) ?_
  repeat refine zX rfl ?_
  exact aj ⟨⟨rfl,trivial⟩,rfl⟩
 subst hw1;refine wp_ret ?_
 repeat first|refine a8 ?_|refine am ?_
 exact ret1 hS rfl rfl ⟨rfl,hB⟩
set_option maxHeartbeats 2000000 in
theorem aec (L1 s1 L2 s2 : Int) (vn1 ve1 vn2 ve2 v : Value) (n1 n2 : List (List Int)) (f1 f2 : List Bool) (l : List (Int × Int)) (w : World) (hm : Ma w L1 s1 n1 f1 vn1 ve1) (hm2 : Ma w L2 s2 n2 f2 vn2 ve2) (hl : SlP w v l)
  (hv1 : de L1 s1 n1 f1 = 0) (hv2 : de L2 s2 n2 f2 = 0) (hLL : L1 = L2) (hrng : ∀ i (h : i < l.length),-1 ≤ l[i].1 ∧ l[i].1 < n1.length ∧ -1 ≤ l[i].2 ∧ l[i].2 < n2.length) :
  Calls Tryz.prog 49 #[.agg #[Vi L1,Vi s1,vn1,ve1],.agg #[Vi L2,Vi s2,vn2,ve2],v] w fun e w'=>e = .returned (.bool (ij s1 s2 l && !(l.any (km n1 n2 f1 f2 L1 l)))) ∧ RowKit.Below w.heap.size w w':=by
 refine Sym.c8 (args:=[.agg #[Vi L1,Vi s1,vn1,ve1],.agg #[Vi L2,Vi s2,vn2,ve2],v]) Tryz.func49 rfl rfl rfl (fun a0 hS0=>?_);obtain ⟨B,hBB⟩ : ∃ B,B = w.heap.size:=⟨_,rfl⟩;refine wp_seq (ai [(2,v),(3,Vp B),(4,Vp (B + 1))] (· = (w.alloc (.cells #[Vi L1,Vi s1,vn1,ve1] 25)).alloc (.cells #[Vi L2,Vi s2,vn2,ve2] 25)) af hS0 ?_ (fun a wc hS hw=>?_))
 ·subst hBB;refine zB rfl ?_;refine zB rfl ?_;rw [b5]
  repeat refine zX rfl ?_
  exact aj ⟨⟨rfl,rfl,rfl,trivial⟩,rfl⟩
 obtain ⟨hB,hx,hz⟩:=lc hw;rw [← hBB] at hx hz;clear hw;replace hm:=hm.keep hB;replace hm2:=hm2.keep hB;replace hl:=hl.keep hB;have K:=fun w' (h : RowKit.Below wc.heap.size wc w')=>anI (hx.keep h) (anI (hz.keep h) (anI (hm.keep h) (anI (hm2.keep h) (hl.keep h))));have fin' : ∀ {w'},RowKit.Below wc.heap.size wc w' → RowKit.Below w.heap.size w w':=fun h=>ak hB h;obtain ⟨al,bl,ol,cl,hvl,-,h2,h3,-⟩:=id hl;subst hvl;obtain ⟨hs1,hL1,hn1⟩:=db hv1;obtain ⟨hs2,hL2,hn2⟩:=db hv2;subst hLL;obtain ⟨Ln,rfl⟩ : ∃ n : Nat,L1 = n:=⟨L1.toNat,by have:=hs1.L0; omega⟩;obtain ⟨W,hW⟩ : ∃ W,W = n2.length + 1:=⟨_,rfl⟩;obtain ⟨m,hmm⟩ : ∃ m,m = (n1.length + 1) * W:=⟨_,rfl⟩;have hmle : m ≤ 4001 * 4001:=by rw [hmm]; exact Nat.mul_le_mul (by omega) (by omega)
 have plt : ∀ {p q : Int},p < n1.length → q < n2.length → plc W p q < m:=fun h1 h2=>by
  rw [hmm,hW]; exact aj9 h1 h2
 refine wp_seq (bg (α:=Nat) (fun BW=>[(2,.slice al l.length cl),(3,Vp B),(4,Vp (B + 1)),(7,Vp BW)]) (fun BW w'=>Hold wc.heap.size wc w' [oX 3 BW 1 [Vi W]]) af hS ?_ (fun BW a w1 hS h=>?_))
 ·obtain ⟨an2,bn2,on2,cn2,hvn2,-⟩:=hm2.n;subst hvn2 hW;have hb:=(Hold.start wc).box (T:=3) (k:=1) #[Vi 0] rfl
  repeat refine zX rfl ?_
  refine zL rfl (hz.c2) ?_
  repeat refine zX rfl ?_
  refine zN rfl (bm n2.length 1 (by omega)) ?_;refine zB rfl ?_;refine zS rfl rfl (hb.r.xcell (i:=0) rfl (j:=0) rfl) (hb.r.free (i:=0) rfl 0) ?_;exact aj ⟨_,⟨rfl,rfl,rfl,rfl,trivial⟩,hb.xstore (i:=0) rfl 0 _⟩
 refine wp_seq (ai [(2,.slice al l.length cl),(3,Vp B),(4,Vp (B + 1)),(7,Vp BW),(8,.func (.func 79) #[] #[Vp BW])] (· = w1) af hS ?_ (fun a w2 hS hw=>?_))
 ·repeat refine zX rfl ?_
  exact aj ⟨⟨rfl,rfl,rfl,rfl,rfl,trivial⟩,rfl⟩
 subst hw;refine wp_seq (bg (α:=Nat) (fun g=>[(2,.slice al l.length cl),(3,Vp B),(4,Vp (B + 1)),(8,.func (.func 79) #[] #[Vp BW]),(9,(Vs g m m))]) (fun g w'=>Hold wc.heap.size wc w' [oB (Vs g m m) (rowB m (fun _=>false)),oX 3 BW 1 [Vi W]]) af hS ?_ (fun g a w3 hS h=>?_))
 ·obtain ⟨hx,-,hm,-,-⟩:=K _ h.b;obtain ⟨an,bn,on,cn,hvn,-⟩:=hm.n;subst hvn;have e1:=lz (n1.length + 1) W (by omega);rw [← hmm] at e1
  repeat refine zX rfl ?_
  refine zL rfl (hx.c2) ?_
  repeat refine zX rfl ?_
  refine zN rfl (bm n1.length 1 (by omega)) ?_;refine zL rfl (h.r.xcell (i:=0) rfl (j:=0) rfl) ?_;refine zN rfl (e1) ?_;refine zM (m) rfl rfl rfl rfl rfl ((by show 1 * _ ≤ _; omega)) ((by omega)) ?_
  repeat refine zX rfl ?_
  exact aj ⟨_,⟨rfl,rfl,rfl,rfl,rfl,trivial⟩,h.makeB (n:=m) (by omega)⟩
 have place : ∀ {f : Nat → Bool} {w' : World} (p q : Int),Hold wc.heap.size wc w' [oB (Vs g m m) (rowB m f),oX 3 BW 1 [Vi W]] → -1 ≤ p → p < n1.length → -1 ≤ q → q < n2.length →
   Calls Tryz.prog 79 #[.agg #[Vi p,Vi q],Vp BW] w' fun e w2=>e = .returned (Vi (plc W p q : Int)) ∧ RowKit.Below w'.heap.size w' w2:=fun p q h k1 k2 k3 k4=>
  ade p q W BW _ (h.r.xcell (i:=1) rfl (j:=0) rfl) k1 (by omega) k3 (by omega) (by omega)
 refine wp_seq (ai [(2,.slice al l.length cl),(3,Vp B),(4,Vp (B + 1)),(8,.func (.func 79) #[] #[Vp BW]),(9,(Vs g m m))] (fun w'=>Hold wc.heap.size wc w' [oB (Vs g m m) (rowB m (tB W l 0)),oX 3 BW 1 [Vi W]]) af hS ?_ (fun a w4 hS h=>?_))
 ·repeat refine zX rfl ?_
  refine zF rfl (od) (l7 w3) ?_;rintro e w5 ⟨rfl,k1⟩;refine ⟨_,rfl,?_⟩;have h:=h.below k1
  repeat refine zX rfl ?_
  refine zF rfl (m5) (place (-1) (-1) h (by omega) (by omega) (by omega) (by omega)) ?_;rintro e w6 ⟨rfl,k2⟩;refine ⟨_,rfl,?_⟩;have h:=h.below k2;have hlt : plc W (-1) (-1) < m:=plt (by omega) (by omega)
  repeat refine zX rfl ?_
  refine zI rfl (rfl) (hlt) ?_;refine zS rfl rfl (h.r.cB (i:=0) rfl (j:=plc W (-1) (-1)) (by rw [mj]; exact hlt)) (h.r.free (i:=0) rfl _) ?_;have h:=h.storeB (i:=0) rfl (plc W (-1) (-1)) true
  rw [abx (g:=tB W l 0) (fun j hj=>by
   rw [show plc W (-1) (-1) = 0 by simp [plc]]
   by_cases e : 0 = j
   ·subst e; rfl
   ·rw [if_neg e,tB,decide_eq_false (by omega)]; rfl)] at h
  exact aj ⟨⟨rfl,rfl,rfl,rfl,rfl,trivial⟩,h⟩
 refine wp_seq (wp_seq (ai [(2,.slice al l.length cl),(3,Vp B),(4,Vp (B + 1)),(8,.func (.func 79) #[] #[Vp BW]),(9,(Vs g m m)),(32,.slice al l.length cl),(33,Vi l.length),(34,Vi (0 : Nat))] (· = w4) af hS ?_ (fun a w' hS hw=>?_)))
 ·repeat refine zX rfl ?_
  exact aj ⟨⟨rfl,rfl,rfl,rfl,rfl,rfl,rfl,rfl,trivial⟩,rfl⟩
 subst hw;refine wp_block (cz hS (fun γ E w'=>∃ k : Nat,k ≤ l.length ∧ γ = l.length - k ∧ E = [(2,.slice al l.length cl),(3,Vp B),(4,Vp (B + 1)),(8,.func (.func 79) #[] #[Vp BW]),(9,(Vs g m m)),(32,.slice al l.length cl),(33,Vi l.length),(34,Vi k)] ∧ Hold wc.heap.size wc w' [oB (Vs g m m) (rowB m (tB W l k)),oX 3 BW 1 [Vi W]]) l.length ⟨0,by omega,by omega,rfl,h⟩ ?_);clear h hS;rintro γ E w5 a ⟨k,hk,rfl,rfl,h⟩ hS;refine wp_seq (ai [(2,.slice al l.length cl),(3,Vp B),(4,Vp (B + 1)),(8,.func (.func 79) #[] #[Vp BW]),(9,(Vs g m m)),(32,.slice al l.length cl),(33,Vi l.length),(34,Vi k),(35,.bool (decide (k < l.length)))] (· = w5) af hS ?_ (fun a w6 hS hw=>?_))
 ·repeat refine zX rfl ?_
  refine zC rfl (co _ _) ?_
  repeat refine zX rfl ?_
  exact aj ⟨⟨rfl,rfl,rfl,rfl,rfl,rfl,rfl,rfl,rfl,trivial⟩,rfl⟩
 subst hw;refine wp_seq (cond hS rfl (fun hT=>wp_skip ?_) (fun hF=>?_))
 ·have hkk : k < l.length:=of_decide_eq_true hT;refine wp_seq (wp_block (wp_seq (bg (α:=Nat) (fun P=>[(2,.slice al l.length cl),(3,Vp B),(4,Vp (B + 1)),(8,.func (.func 79) #[] #[Vp BW]),(9,(Vs g m m)),(32,.slice al l.length cl),(33,Vi l.length),(34,Vi k),(11,Vp P)]) (fun P w'=>BoxP w' P l[k].1 l[k].2 ∧ Hold wc.heap.size wc w' [oB (Vs g m m) (rowB m (tB W l k)),oX 3 BW 1 [Vi W]]) af hS ?_ (fun P a w7 hS h=>?_))))
  ·obtain ⟨-,-,-,-,hl⟩:=K _ h.b;obtain ⟨b,o,rfl,hcell⟩:=hl.at hkk
   repeat refine zX rfl ?_
   refine zI rfl (rfl) (hkk) ?_;refine zA ([Vi l[k].1,Vi l[k].2]) rfl rfl (hcell) ?_;refine zB rfl ?_;refine cj rfl rfl (anI rfl (anI rfl (anI (fj (OwnB.new w6 [Vi 0,Vi 0] 83)) ?_)));exact aj ⟨_,⟨rfl,rfl,rfl,rfl,rfl,rfl,rfl,rfl,rfl,trivial⟩,rf w6 l[k].1 l[k].2,h.below (mq w6 l[k].1 l[k].2)⟩
  obtain ⟨hp,h⟩:=h;obtain ⟨r1,r2,r3,r4⟩:=hrng k hkk;refine ai [(2,.slice al l.length cl),(3,Vp B),(4,Vp (B + 1)),(8,.func (.func 79) #[] #[Vp BW]),(9,(Vs g m m)),(32,.slice al l.length cl),(33,Vi l.length),(34,Vi k)] (fun w'=>Hold wc.heap.size wc w' [oB (Vs g m m) (rowB m (tB W l (k + 1))),oX 3 BW 1 [Vi W]]) af hS ?_ (fun a w8 hS h=>?_)
  ·repeat refine zX rfl ?_
   refine zA ([Vi l[k].1,Vi l[k].2]) rfl rfl (hp.cells) ?_;refine zF rfl (m5) (place l[k].1 l[k].2 h r1 r2 r3 r4) ?_;rintro e w8 ⟨rfl,k2⟩;refine ⟨_,rfl,?_⟩;have h:=h.below k2;have hlt : plc W l[k].1 l[k].2 < m:=plt r2 r4
   repeat refine zX rfl ?_
   refine zI rfl (rfl) (hlt) ?_;refine zS rfl rfl (h.r.cB (i:=0) rfl (j:=plc W l[k].1 l[k].2) (by rw [mj]; exact hlt)) (h.r.free (i:=0) rfl _) ?_;have h:=h.storeB (i:=0) rfl (plc W l[k].1 l[k].2) true;rw [tB_step hkk] at h;exact aj ⟨⟨rfl,rfl,rfl,rfl,rfl,rfl,rfl,rfl,trivial⟩,h⟩
  refine ay ?_;refine ai [(2,.slice al l.length cl),(3,Vp B),(4,Vp (B + 1)),(8,.func (.func 79) #[] #[Vp BW]),(9,(Vs g m m)),(32,.slice al l.length cl),(33,Vi l.length),(34,Vi (k + 1 : Nat))] (· = w8) af hS ?_ (fun a w9 hS hw=>?_)
  ·repeat refine zX rfl ?_
   refine zN rfl (bm k 1 (by omega)) ?_
   repeat refine zX rfl ?_
   exact aj ⟨⟨rfl,rfl,rfl,rfl,rfl,rfl,rfl,rfl,trivial⟩,rfl⟩
  subst hw;exact ⟨l.length - (k + 1),_,by omega,⟨k + 1,by omega,rfl,rfl,h⟩,hS⟩
 have hkk : k = l.length:=by have:=of_decide_eq_false hF; omega
 subst hkk;refine wp_exit ?_
 repeat first|refine bf ?_|refine ba ?_|refine az rfl ?_
 have cell : ∀ {w' : World} {p q : Int},Hold wc.heap.size wc w' [oB (Vs g m m) (rowB m (tB W l l.length)),oX 3 BW 1 [Vi W]] → -1 ≤ p → p < n1.length → -1 ≤ q → q < n2.length → w'.cell? ⟨g,0 + plc W p q,none⟩ = some (.bool (ij p q l)):=fun {w' p q} h k1 k2 k3 k4=>by
  have:=h.r.cB (i:=0) rfl (j:=plc W p q) (by rw [mj]; exact plt k2 k4)
  rwa [aim _ (plt k2 k4),tB_end hW hrng k1 k3 k4] at this
 refine wp_seq (wp_seq (ai [(2,.slice al l.length cl),(3,Vp B),(4,Vp (B + 1)),(8,.func (.func 79) #[] #[Vp BW]),(9,(Vs g m m)),(52,.bool (!ij s1 s2 l))] (fun w'=>Hold wc.heap.size wc w' [oB (Vs g m m) (rowB m (tB W l l.length)),oX 3 BW 1 [Vi W]]) af hS ?_ (fun a w7 hS h=>?_)))
 ·obtain ⟨hx,hz,-,-,-⟩:=K _ h.b
  repeat refine zX rfl ?_
  refine zA ([Vi Ln,Vi s1,vn1,ve1]) rfl rfl (hx.cells) ?_;refine zA ([Vi Ln,Vi s2,vn2,ve2]) rfl rfl (hz.cells) ?_;refine zF rfl (vo) (tp (Ln : Int) s1 (Ln : Int) s2 vn1 ve1 vn2 ve2 w6) ?_;rintro e w8 ⟨rfl,k1⟩;refine ⟨_,rfl,?_⟩;have h:=h.below k1
  repeat refine zX rfl ?_
  refine zF rfl (m5) (place s1 s2 h hs1.s1 hs1.s2 hs2.s1 hs2.s2) ?_;rintro e w9 ⟨rfl,k2⟩;refine ⟨_,rfl,?_⟩;have h:=h.below k2
  repeat refine zX rfl ?_
  refine zI rfl (rfl) ((plt hs1.s2 hs2.s2)) ?_;refine zL rfl (cell h hs1.s1 hs1.s2 hs2.s1 hs2.s2) ?_
  repeat refine zX rfl ?_
  exact aj ⟨⟨rfl,rfl,rfl,rfl,rfl,rfl,trivial⟩,h⟩
 refine cond hS rfl (fun hT=>?_) (fun hF=>wp_skip ?_)
 ·refine wp_seq (ai [(6,.bool false)] (· = w7) af hS ?_ (fun a w8 hS hw=>?_))
  ·repeat refine zX rfl ?_
   exact aj ⟨⟨rfl,trivial⟩,rfl⟩
  subst hw;have : ij s1 s2 l = false:=by simpa using hT
  refine wp_ret ?_
  repeat first|refine a8 ?_|refine am ?_
  exact ret1 hS rfl rfl ⟨by rw [this]; rfl,fin' h.b⟩
 have hth : ij s1 s2 l = true:=by simpa using hF
 rw [hth,Bool.true_and];refine wp_seq (wp_seq (ai [(2,.slice al l.length cl),(3,Vp B),(4,Vp (B + 1)),(8,.func (.func 79) #[] #[Vp BW]),(9,(Vs g m m)),(53,.slice al l.length cl),(54,Vi l.length),(55,Vi (0 : Nat))] (· = w7) af hS ?_ (fun a w' hS hw=>?_)))
 ·repeat refine zX rfl ?_
  exact aj ⟨⟨rfl,rfl,rfl,rfl,rfl,rfl,rfl,rfl,trivial⟩,rfl⟩
 subst hw;refine wp_block (cz hS (fun γ E w'=>∃ k : Nat,k ≤ l.length ∧ γ = l.length - k ∧ E = [(2,.slice al l.length cl),(3,Vp B),(4,Vp (B + 1)),(8,.func (.func 79) #[] #[Vp BW]),(9,(Vs g m m)),(53,.slice al l.length cl),(54,Vi l.length),(55,Vi k)] ∧ (∀ j (hj : j < l.length),j < k → km n1 n2 f1 f2 (Ln : Int) l l[j] = false) ∧ Hold wc.heap.size wc w' [oB (Vs g m m) (rowB m (tB W l l.length)),oX 3 BW 1 [Vi W]]) l.length ⟨0,by omega,by omega,rfl,fun j _ hj=>by omega,h⟩ ?_);clear h hS;rintro γ E w8 a ⟨k,hk,rfl,rfl,hgo,h⟩ hS;refine wp_seq (ai [(2,.slice al l.length cl),(3,Vp B),(4,Vp (B + 1)),(8,.func (.func 79) #[] #[Vp BW]),(9,(Vs g m m)),(53,.slice al l.length cl),(54,Vi l.length),(55,Vi k),(56,.bool (decide (k < l.length)))] (· = w8) af hS ?_ (fun a w9 hS hw=>?_))
 ·repeat refine zX rfl ?_
  refine zC rfl (co _ _) ?_
  repeat refine zX rfl ?_
  exact aj ⟨⟨rfl,rfl,rfl,rfl,rfl,rfl,rfl,rfl,rfl,trivial⟩,rfl⟩
 subst hw;refine wp_seq (cond hS rfl (fun hT=>wp_skip ?_) (fun hF=>?_))
 rotate_left
 ·have hkk : k = l.length:=by have:=of_decide_eq_false hF; omega
  refine wp_exit ?_
  repeat first|refine bf ?_|refine ba ?_|refine az rfl ?_
  refine wp_seq (ai [(6,.bool true)] (· = w9) af hS ?_ (fun a w10 hS hw=>?_))
  ·repeat refine zX rfl ?_
   exact aj ⟨⟨rfl,trivial⟩,rfl⟩
  subst hw
  have hno : l.any (km n1 n2 f1 f2 (Ln : Int) l) = false:=Bool.eq_false_iff.2 fun hh=>by
   obtain ⟨p,hp,hb⟩:=List.any_eq_true.1 hh;obtain ⟨i,hi,rfl⟩:=List.getElem_of_mem hp;rw [hgo i hi (by omega)] at hb
   cases hb
  refine wp_ret ?_
  repeat first|refine a8 ?_|refine am ?_
  exact ret1 hS rfl rfl ⟨by rw [hno]; rfl,fin' h.b⟩
 have hkk : k < l.length:=of_decide_eq_true hT;have anyT : km n1 n2 f1 f2 (Ln : Int) l l[k] = true → l.any (km n1 n2 f1 f2 (Ln : Int) l) = true:=fun hh=>List.any_eq_true.2 ⟨_,List.getElem_mem hkk,hh⟩;refine wp_seq (wp_block (wp_seq (bg (α:=Nat) (fun P=>[(2,.slice al l.length cl),(3,Vp B),(4,Vp (B + 1)),(8,.func (.func 79) #[] #[Vp BW]),(9,(Vs g m m)),(53,.slice al l.length cl),(54,Vi l.length),(55,Vi k),(13,Vp P)]) (fun P w'=>BoxP w' P l[k].1 l[k].2 ∧ Hold wc.heap.size wc w' [oB (Vs g m m) (rowB m (tB W l l.length)),oX 3 BW 1 [Vi W]]) af hS ?_ (fun P a w10 hS h=>?_))))
 ·obtain ⟨-,-,-,-,hl⟩:=K _ h.b;obtain ⟨b,o,rfl,hcell⟩:=hl.at hkk
  repeat refine zX rfl ?_
  refine zI rfl (rfl) (hkk) ?_;refine zA ([Vi l[k].1,Vi l[k].2]) rfl rfl (hcell) ?_;refine zB rfl ?_;refine cj rfl rfl (anI rfl (anI rfl (anI (fj (OwnB.new w9 [Vi 0,Vi 0] 83)) ?_)));exact aj ⟨_,⟨rfl,rfl,rfl,rfl,rfl,rfl,rfl,rfl,rfl,trivial⟩,rf w9 l[k].1 l[k].2,h.below (mq w9 l[k].1 l[k].2)⟩
 obtain ⟨hp,h⟩:=h;obtain ⟨r1,r2,r3,r4⟩:=hrng k hkk;have hak : km n1 n2 f1 f2 (Ln : Int) l l[k] = ((fo f1 l[k].1 != fo f2 l[k].2) || (List.range Ln).any (fun (c : Nat)=>!ij (dd n1 l[k].1 c) (dd n2 l[k].2 c) l)):=by rw [km,Int.toNat_natCast]
 obtain ⟨p,hpe⟩ : ∃ p,p = l[k].1:=⟨_,rfl⟩;obtain ⟨q,hqe⟩ : ∃ q,q = l[k].2:=⟨_,rfl⟩;rw [← hpe,← hqe] at hp hak;rw [← hpe] at r1 r2;rw [← hqe] at r3 r4;refine wp_seq (wp_seq (b6 [(2,.slice al l.length cl),(3,Vp B),(4,Vp (B + 1)),(8,.func (.func 79) #[] #[Vp BW]),(9,(Vs g m m)),(53,.slice al l.length cl),(54,Vi l.length),(55,Vi k),(13,Vp P),(67,.bool (fo f1 p != fo f2 q))] af dc (by kernel_rfl) hS ?_ (fun a w11 hS hw=>?_)))
 ·obtain ⟨hx,hz,hm,hm2,-⟩:=K _ h.b;refine qA ([Vi Ln,Vi s1,vn1,ve1]) rfl rfl (hx.cells) ?_
  repeat refine qX rfl ?_
  refine qL rfl (hp.c0) ?_;refine qF (.bool (fo f1 p)) rfl (xm) (fun w1 h1=>tz (Ln : Int) s1 vn1 ve1 f1 p w1 (hm.keep h1).e (by rw [hs1.fin]; exact r2)) ?_;refine qA ([Vi Ln,Vi s2,vn2,ve2]) rfl rfl (hz.cells) ?_
  repeat refine qX rfl ?_
  refine qL rfl (hp.c1) ?_;refine qF (.bool (fo f2 q)) rfl (xm) (fun w1 h1=>tz (Ln : Int) s2 vn2 ve2 f2 q w1 (hm2.keep h1).e (by rw [hs2.fin]; exact r4)) ?_;refine qC rfl (rfl) ?_
  repeat refine qX rfl ?_
  exact fa ⟨rfl,rfl,rfl,rfl,rfl,rfl,rfl,rfl,rfl,rfl,trivial⟩
 replace h:=h.below hw;replace hp:=hp.keep hw;clear hw;refine cond hS rfl (fun hT=>?_) (fun hF=>wp_skip ?_)
 ·refine wp_seq (ai [(6,.bool false)] (· = w11) af hS ?_ (fun a w12 hS hw=>?_))
  ·repeat refine zX rfl ?_
   exact aj ⟨⟨rfl,trivial⟩,rfl⟩
  subst hw;refine wp_ret ?_
  repeat first|refine a8 ?_|refine am ?_
  exact ret1 hS rfl rfl ⟨by rw [anyT (by rw [hak,hT]; rfl)]; rfl,fin' h.b⟩
 rw [hF,Bool.false_or] at hak;refine wp_seq (ai [(2,.slice al l.length cl),(3,Vp B),(4,Vp (B + 1)),(8,.func (.func 79) #[] #[Vp BW]),(9,(Vs g m m)),(53,.slice al l.length cl),(54,Vi l.length),(55,Vi k),(13,Vp P),(69,Vi Ln),(70,Vi (0 : Nat))] (· = w11) af hS ?_ (fun a w12 hS hw=>?_))
 ·obtain ⟨hx,-,-,-,-⟩:=K _ h.b
  repeat refine zX rfl ?_
  refine zL rfl (hx.c0) ?_
  repeat refine zX rfl ?_
  exact aj ⟨⟨rfl,rfl,rfl,rfl,rfl,rfl,rfl,rfl,rfl,rfl,rfl,trivial⟩,rfl⟩
 subst hw;refine wp_block (cz hS (fun γ E w'=>∃ c : Nat,c ≤ Ln ∧ γ = Ln - c ∧ E = [(2,.slice al l.length cl),(3,Vp B),(4,Vp (B + 1)),(8,.func (.func 79) #[] #[Vp BW]),(9,(Vs g m m)),(53,.slice al l.length cl),(54,Vi l.length),(55,Vi k),(13,Vp P),(69,Vi Ln),(70,Vi c)] ∧ (∀ d : Nat,d < c → ij (dd n1 p d) (dd n2 q d) l = true) ∧ BoxP w' P p q ∧ Hold wc.heap.size wc w' [oB (Vs g m m) (rowB m (tB W l l.length)),oX 3 BW 1 [Vi W]]) Ln ⟨0,by omega,by omega,rfl,fun j hj=>by omega,hp,h⟩ ?_);clear h hS hp;rintro γ E w13 a ⟨c,hc,rfl,rfl,hgo3,hp,h⟩ hS;refine wp_seq (ai [(2,.slice al l.length cl),(3,Vp B),(4,Vp (B + 1)),(8,.func (.func 79) #[] #[Vp BW]),(9,(Vs g m m)),(53,.slice al l.length cl),(54,Vi l.length),(55,Vi k),(13,Vp P),(69,Vi Ln),(70,Vi c),(71,.bool (decide (c < Ln)))] (· = w13) af hS ?_ (fun a w14 hS hw=>?_))
 ·repeat refine zX rfl ?_
  refine zC rfl (co _ _) ?_
  repeat refine zX rfl ?_
  exact aj ⟨⟨rfl,rfl,rfl,rfl,rfl,rfl,rfl,rfl,rfl,rfl,rfl,rfl,trivial⟩,rfl⟩
 subst hw;refine wp_seq (cond hS rfl (fun hT=>wp_skip ?_) (fun hF=>?_))
 rotate_left
 ·have hcc : c = Ln:=by have:=of_decide_eq_false hF; omega
  refine wp_exit ?_
  repeat first|refine bf ?_|refine ba ?_|refine az rfl ?_
  have hno : km n1 n2 f1 f2 (Ln : Int) l l[k] = false:=by
   rw [hak];refine Bool.eq_false_iff.2 (fun h=>?_);obtain ⟨d,hd,hb⟩:=List.any_eq_true.1 h;rw [hgo3 d (by have:=List.mem_range.1 hd; omega)] at hb
   cases hb
  refine ay ?_;refine ai [(2,.slice al l.length cl),(3,Vp B),(4,Vp (B + 1)),(8,.func (.func 79) #[] #[Vp BW]),(9,(Vs g m m)),(53,.slice al l.length cl),(54,Vi l.length),(55,Vi (k + 1 : Nat))] (· = w14) af hS ?_ (fun a w15 hS hw=>?_)
  ·repeat refine zX rfl ?_
   refine zN rfl (bm k 1 (by omega)) ?_
   repeat refine zX rfl ?_
   exact aj ⟨⟨rfl,rfl,rfl,rfl,rfl,rfl,rfl,rfl,trivial⟩,rfl⟩
  subst hw;refine ⟨l.length - (k + 1),_,by omega,⟨k + 1,by omega,rfl,rfl,fun j hj hjk=>?_,h⟩,hS⟩
  rcases Nat.lt_or_ge j k with hlt2 | hge2
  ·exact hgo j hj hlt2
  ·obtain rfl : j = k:=by omega
   exact hno
 have hcc : c < Ln:=of_decide_eq_true hT
 have row : ∀ {nn : List (List Int)} {ss : Int} {ff : List Bool} {x : Int},Shape (Ln : Int) ss nn ff → -1 ≤ x → x < nn.length → (0 ≤ x → (0 : Int) ≤ (c : Int) ∧ ((c : Int) < (nn.getD x.toNat []).length)) ∧ -1 ≤ dd nn x c ∧ dd nn x c < nn.length:=fun {nn ss ff x} hs hx1 hx2=>by
  by_cases h0 : x < 0
  ·refine ⟨fun h=>by omega,?_⟩;rw [dd,if_pos h0]; omega
  ·obtain ⟨y,rfl⟩ : ∃ y : Nat,x = y:=⟨x.toNat,by omega⟩;have hy : y < nn.length:=by omega
   obtain ⟨g1,g2⟩:=hs.rows y hy;have hcl : c < nn[y].length:=by omega
   have e1 : nn.getD y [] = nn[y]:=by simp [List.getD_eq_getElem?_getD,hy]
   rw [dd,if_neg h0,Int.toNat_natCast,Int.toNat_natCast,e1];refine ⟨fun _=>by omega,?_⟩
   have:=g2 c hcl
   rw [show nn[y].getD c (-1) = nn[y][c] by simp [List.getD_eq_getElem?_getD,hcl]];exact this
 obtain ⟨t1,u1,u2⟩:=row hs1 r1 r2;obtain ⟨t2,u3,u4⟩:=row hs2 r3 r4;refine wp_seq (wp_block (wp_seq (ai [(2,.slice al l.length cl),(3,Vp B),(4,Vp (B + 1)),(8,.func (.func 79) #[] #[Vp BW]),(9,(Vs g m m)),(53,.slice al l.length cl),(54,Vi l.length),(55,Vi k),(13,Vp P),(69,Vi Ln),(70,Vi c),(14,Vi c)] (· = w14) af hS ?_ (fun a w15 hS hw=>?_))))
 ·repeat refine zX rfl ?_
  exact aj ⟨⟨rfl,rfl,rfl,rfl,rfl,rfl,rfl,rfl,rfl,rfl,rfl,rfl,trivial⟩,rfl⟩
 subst hw;refine wp_seq (ai [(2,.slice al l.length cl),(3,Vp B),(4,Vp (B + 1)),(8,.func (.func 79) #[] #[Vp BW]),(9,(Vs g m m)),(53,.slice al l.length cl),(54,Vi l.length),(55,Vi k),(13,Vp P),(69,Vi Ln),(70,Vi c),(83,.bool (!ij (dd n1 p c) (dd n2 q c) l))] (fun w'=>BoxP w' P p q ∧ Hold wc.heap.size wc w' [oB (Vs g m m) (rowB m (tB W l l.length)),oX 3 BW 1 [Vi W]]) af hS ?_ (fun a w16 hS h=>?_))
 ·obtain ⟨hx,hz,hm,hm2,-⟩:=K _ h.b
  repeat refine zX rfl ?_
  refine zA ([Vi Ln,Vi s1,vn1,ve1]) rfl rfl (hx.cells) ?_;refine zA ([Vi Ln,Vi s2,vn2,ve2]) rfl rfl (hz.cells) ?_;refine zA ([Vi p,Vi q]) rfl rfl (hp.cells) ?_
  repeat refine zX rfl ?_
  refine zF rfl (nm) (l9 (Ln : Int) s1 (Ln : Int) s2 p q (c : Int) vn1 ve1 vn2 ve2 n1 n2 w15 hm.n hm2.n r2 r4 t1 t2) ?_;rintro e w17 ⟨rfl,k1⟩;refine ⟨_,rfl,?_⟩;have h:=h.below k1;have hp:=hp.keep k1
  repeat refine zX rfl ?_
  refine zF rfl (m5) (place (dd n1 p c) (dd n2 q c) h u1 u2 u3 u4) ?_;rintro e w18 ⟨rfl,k2⟩;refine ⟨_,rfl,?_⟩;have h:=h.below k2;have hp:=hp.keep k2
  repeat refine zX rfl ?_
  refine zI rfl (rfl) ((plt u2 u4)) ?_;refine zL rfl (cell h u1 u2 u3 u4) ?_
  repeat refine zX rfl ?_
  exact aj ⟨⟨rfl,rfl,rfl,rfl,rfl,rfl,rfl,rfl,rfl,rfl,rfl,rfl,trivial⟩,⟨hp,h⟩⟩
 obtain ⟨hp,h⟩:=h;refine cond hS rfl (fun hT=>?_) (fun hF=>wp_skip ?_)
 ·refine wp_seq (ai [(6,.bool false)] (· = w16) af hS ?_ (fun a w17 hS hw=>?_))
  ·repeat refine zX rfl ?_
   exact aj ⟨⟨rfl,trivial⟩,rfl⟩
  subst hw;refine wp_ret ?_
  repeat first|refine a8 ?_|refine am ?_
  exact ret1 hS rfl rfl ⟨by rw [anyT (by rw [hak]; exact List.any_eq_true.2 ⟨c,List.mem_range.2 hcc,hT⟩)]; rfl,fin' h.b⟩
 refine ay ?_;refine ai [(2,.slice al l.length cl),(3,Vp B),(4,Vp (B + 1)),(8,.func (.func 79) #[] #[Vp BW]),(9,(Vs g m m)),(53,.slice al l.length cl),(54,Vi l.length),(55,Vi k),(13,Vp P),(69,Vi Ln),(70,Vi (c + 1 : Nat))] (· = w16) af hS ?_ (fun a w17 hS hw=>?_)
 ·repeat refine zX rfl ?_
  refine zN rfl (bm c 1 (by omega)) ?_
  repeat refine zX rfl ?_
  exact aj ⟨⟨rfl,rfl,rfl,rfl,rfl,rfl,rfl,rfl,rfl,rfl,rfl,trivial⟩,rfl⟩
 subst hw;refine ⟨Ln - (c + 1),_,by omega,⟨c + 1,by omega,rfl,rfl,fun d hd=>?_,hp,h⟩,hS⟩
 rcases Nat.lt_or_ge d c with hlt2 | hge2
 ·exact hgo3 d hlt2
 ·obtain rfl : d = c:=by omega
  simpa using hF
theorem aj5 : akm 16:=fun L1 s1 L2 s2 vn1 ve1 vn2 ve2 v n1 n2 f1 f2 l w hm hm2 hl=>by
 refine Sym.c8 (args:=[.agg #[Vi L1,Vi s1,vn1,ve1],.agg #[Vi L2,Vi s2,vn2,ve2],v]) Tryz.func16 rfl rfl rfl (fun a0 hS0=>?_);obtain ⟨B,hBB⟩ : ∃ B,B = w.heap.size:=⟨_,rfl⟩;refine wp_seq (ai [(2,v),(3,Vp B),(4,Vp (B + 1))] (· = (w.alloc (.cells #[Vi L1,Vi s1,vn1,ve1] 25)).alloc (.cells #[Vi L2,Vi s2,vn2,ve2] 25)) af hS0 ?_ (fun a wc hS hw=>?_))
 ·subst hBB;refine zB rfl ?_;refine zB rfl ?_;rw [b5]
  repeat refine zX rfl ?_
  exact aj ⟨⟨rfl,rfl,rfl,trivial⟩,rfl⟩
 obtain ⟨hB,hx,hz⟩:=lc hw;rw [← hBB] at hx hz;clear hw;replace hm:=hm.keep hB;replace hm2:=hm2.keep hB;replace hl:=hl.keep hB;obtain ⟨z,hz'⟩ : ∃ z,z = twoM L1 s1 n1 f1 L2 s2 n2 f2:=⟨_,rfl⟩;refine wp_seq (wp_seq (ai [(2,v),(3,Vp B),(4,Vp (B + 1)),(7,Vi z)] (fun w'=>RowKit.Below wc.heap.size wc w') af hS ?_ (fun a w2 hS hw=>?_)))
 ·refine zA ([Vi L1,Vi s1,vn1,ve1]) rfl rfl (hx.cells) ?_;refine zA ([Vi L2,Vi s2,vn2,ve2]) rfl rfl (hz.cells) ?_;refine zF rfl (aa5) (xx L1 s1 L2 s2 vn1 ve1 vn2 ve2 n1 n2 f1 f2 wc hm hm2) ?_;rintro e w1 ⟨rfl,h1⟩;refine ⟨_,rfl,?_⟩;subst hz'
  repeat refine zX rfl ?_
  exact aj ⟨⟨rfl,rfl,rfl,rfl,trivial⟩,h1⟩
 replace hB:=ak hB hw;replace hx:=hx.keep hw;replace hz:=hz.keep hw;replace hm:=hm.keep hw;replace hm2:=hm2.keep hw;replace hl:=hl.keep hw;clear hw;refine wp_seq (ai [(2,v),(3,Vp B),(4,Vp (B + 1)),(7,Vi z),(12,.bool (decide (z ≠ 0)))] (· = w2) af hS ?_ (fun a w3 hS hw=>?_))
 ·repeat refine zX rfl ?_
  refine zC rfl (rfl) ?_
  repeat refine zX rfl ?_
  exact aj ⟨⟨rfl,rfl,rfl,rfl,rfl,trivial⟩,rfl⟩
 subst hw;refine cond hS rfl (fun hT=>?_) (fun hF=>wp_skip ?_)
 ·refine wp_seq (ai [(6,Vi z)] (· = w3) af hS ?_ (fun a w4 hS hw=>?_))
  ·repeat refine zX rfl ?_
   exact aj ⟨⟨rfl,trivial⟩,rfl⟩
  subst hw;refine wp_ret ?_
  repeat first|refine a8 ?_|refine am ?_
  exact ret1 hS rfl rfl ⟨by rw [vz,← hz',if_pos (of_decide_eq_true hT)],hB⟩
 have hz0 : z = 0:=Decidable.not_not.1 (of_decide_eq_false hF);obtain ⟨hv1,hv2,hLL⟩:=wa (hz'.symm.trans hz0)
 have hck : vz L1 s1 n1 f1 L2 s2 n2 f2 l = if (List.range l.length).any (badM n1.length n2.length l) = true then 2
   else if ij s1 s2 l = false then 8 else if l.any (km n1 n2 f1 f2 L1 l) = true then 8 else 0:=by
  rw [vz,← hz',hz0]; rfl
 refine wp_seq (wp_seq (ai [(2,v),(3,Vp B),(4,Vp (B + 1)),(18,.bool ((List.range l.length).any (badM n1.length n2.length l)))] (fun w'=>RowKit.Below w3.heap.size w3 w') af hS ?_ (fun a w4 hS hw=>?_)))
 ·refine zA ([Vi L1,Vi s1,vn1,ve1]) rfl rfl (hx.cells) ?_;refine zA ([Vi L2,Vi s2,vn2,ve2]) rfl rfl (hz.cells) ?_
  repeat refine zX rfl ?_
  refine zF rfl (uj) (tw L1 s1 L2 s2 vn1 ve1 vn2 ve2 v n1 n2 f1 f2 l w3 hm hm2 hl) ?_;rintro e w1 ⟨rfl,h1⟩;refine ⟨_,rfl,?_⟩
  repeat refine zX rfl ?_
  rw [Bool.not_not];exact aj ⟨⟨rfl,rfl,rfl,rfl,trivial⟩,h1⟩
 replace hB:=ak hB hw;replace hx:=hx.keep hw;replace hz:=hz.keep hw;replace hm:=hm.keep hw;replace hm2:=hm2.keep hw;replace hl:=hl.keep hw;clear hw;refine cond hS rfl (fun hT=>?_) (fun hF=>wp_skip ?_)
 ·refine wp_seq (ai [(6,Vi 2)] (· = w4) af hS ?_ (fun a w5 hS hw=>?_))
  ·repeat refine zX rfl ?_
   exact aj ⟨⟨rfl,trivial⟩,rfl⟩
  subst hw;refine wp_ret ?_
  repeat first|refine a8 ?_|refine am ?_
  exact ret1 hS rfl rfl ⟨by rw [hck,if_pos hT],hB⟩
 rw [if_neg (by rw [hF]; exact Bool.false_ne_true)] at hck
 have hrng : ∀ i (h : i < l.length),-1 ≤ l[i].1 ∧ l[i].1 < n1.length ∧ -1 ≤ l[i].2 ∧ l[i].2 < n2.length:=fun i h=>ze h (by
  refine Bool.eq_false_iff.2 fun hb=>?_;rw [List.any_eq_true.2 ⟨i,List.mem_range.2 h,hb⟩] at hF
  cases hF)
 refine wp_seq (wp_seq (ai [(23,.bool (!(ij s1 s2 l && !(l.any (km n1 n2 f1 f2 L1 l)))))] (fun w'=>RowKit.Below w4.heap.size w4 w') af hS ?_ (fun a w5 hS hw=>?_)))
 ·refine zA ([Vi L1,Vi s1,vn1,ve1]) rfl rfl (hx.cells) ?_;refine zA ([Vi L2,Vi s2,vn2,ve2]) rfl rfl (hz.cells) ?_
  repeat refine zX rfl ?_
  refine zF rfl (ag6) (aec L1 s1 L2 s2 vn1 ve1 vn2 ve2 v n1 n2 f1 f2 l w4 hm hm2 hl hv1 hv2 hLL hrng) ?_;rintro e w1 ⟨rfl,h1⟩;refine ⟨_,rfl,?_⟩
  repeat refine zX rfl ?_
  exact aj ⟨⟨rfl,trivial⟩,h1⟩
 replace hB:=ak hB hw;refine cond hS rfl (fun hT=>?_) (fun hF2=>wp_skip ?_)
 ·refine wp_seq (ai [(6,Vi 8)] (· = w5) af hS ?_ (fun a w6 hS hw=>?_))
  ·repeat refine zX rfl ?_
   exact aj ⟨⟨rfl,trivial⟩,rfl⟩
  subst hw;refine wp_ret ?_
  repeat first|refine a8 ?_|refine am ?_
  refine ret1 hS rfl rfl ⟨?_,hB⟩;rw [hck]
  cases h1 : ij s1 s2 l
  ·rfl
  ·cases h2 : l.any (km n1 n2 f1 f2 L1 l)
   ·rw [h1,h2] at hT; cases hT
   ·rfl
 refine wp_seq (ai [(6,Vi 0)] (· = w5) af hS ?_ (fun a w6 hS hw=>?_))
 ·repeat refine zX rfl ?_
  exact aj ⟨⟨rfl,trivial⟩,rfl⟩
 subst hw;refine wp_ret ?_
 repeat first|refine a8 ?_|refine am ?_
 refine ret1 hS rfl rfl ⟨?_,hB⟩;rw [hck]
 cases h1 : ij s1 s2 l
 ·rw [h1] at hF2; cases hF2
 ·cases h2 : l.any (km n1 n2 f1 f2 L1 l)
  ·rfl
  ·rw [h1,h2] at hF2; cases hF2
end
section
theorem ql {L s s0 : Int} {next : List (List Int)} {fin : List Bool} (h : Shape L s0 next fin) {f : FS} (hf : Found s next L.toNat f) :
  ∀ (w : List Nat) (t : Int),Word L.toNat w → t < next.length → (0 ≤ t → 0 ≤ plcM f.place t) → accM (f.rows.map (bj f.place next L.toNat)) (bt f fin) (plcM f.place t) w = accM next fin t w
 | w,t,hw,hn,ht=>by
   by_cases hneg : t < 0
   ·rw [gj hneg,di _ _ w (by omega),di _ _ w hneg]
   ·obtain ⟨k,rfl⟩:=Int.eq_ofNat_of_zero_le (Int.not_lt.1 hneg);have hk : k < next.length:=by omega
    have hp:=ht (by omega);have hpe : plcM f.place k = f.place.getD k 0:=by rw [plcM,if_pos (by omega)]; rfl
    rw [hpe] at hp ⊢;obtain ⟨j,e1,e2⟩:=hf.inn.of k hk hp;obtain ⟨hj,e3⟩:=List.getElem?_eq_some_iff.1 e2;rw [e1]
    cases w with
    | nil=>
      rw [fu,fu];simp [fo,bt,hj,e3]
    | cons c w=>
      rw [ef,ef];have hc:=hw.head
      have hst : dd (f.rows.map (bj f.place next L.toNat)) j c = plcM f.place (dd next k c):=by
       rw [i9 (by simpa using hj) (by simp only [List.getElem_map,e7]; exact hc)];simp only [List.getElem_map];rw [it,e3,dv (by omega)]
      rw [hst];have hrg:=e8 h (st:=k) (l:=c) (by omega) (by omega) (by have:=h.L0; omega);refine ql h hf w _ hw.tail hrg.2 (fun h0=>?_)
      have:=hf.closed j hj c hc
      rw [e3] at this;rw [dv (by omega)] at h0 ⊢;exact this h0
 termination_by w=>w.length
theorem adt {L s s0 : Int} {next : List (List Int)} {fin : List Bool} (h : Shape L s0 next fin) {f : FS} (hf : Found s next L.toNat f)
  (hl : ∀ i : Nat,(i : Int) ∈ f.rows → Live L.toNat next fin i) (hd : ∀ i j : Nat,(i : Int) ∈ f.rows → (j : Int) ∈ f.rows → dq L.toNat next fin i next fin j → i = j) :
  Canon L (if f.rows.length = 0 then -1 else 0) (f.rows.map (bj f.place next L.toNat)) (bt f fin) ∧
   dq L.toNat (f.rows.map (bj f.place next L.toNat)) (bt f fin) (if f.rows.length = 0 then -1 else 0) next fin s:=by
 have hlen : (f.rows.map (bj f.place next L.toNat)).length = f.rows.length:=by simp
 have hrow : ∀ j (hj : j < f.rows.length),∃ k : Nat,k < next.length ∧ f.rows[j] = k ∧ plcM f.place k = j:=fun j hj=>by
  obtain ⟨a,b,_⟩:=hf.inn.ok.r _ (List.getElem_mem hj);obtain ⟨k,hk⟩:=Int.eq_ofNat_of_zero_le a;refine ⟨k,by omega,hk,?_⟩
  have:=hf.inn.at' j hj
  rw [hk] at this;rw [plcM,if_pos (by omega)]; exact this
 have hal : ∀ j (hj : j < f.rows.length),dq L.toNat (f.rows.map (bj f.place next L.toNat)) (bt f fin) j next fin f.rows[j]:=fun j hj w hw=>by
  obtain ⟨k,k1,k2,k3⟩:=hrow j hj;rw [k2,← ql h hf w k hw (by omega) (fun _=>by omega),k3]
 have hpos : 0 < f.rows.length ↔ 0 ≤ s:=by
  constructor
  ·intro h0;refine Int.not_lt.1 fun hn=>?_;rw [hf.none hn] at h0;simp at h0
  ·intro h0;exact (List.getElem?_eq_some_iff.1 (hf.first h0).1).1
 refine ⟨⟨⟨h.L0,by simp [bt],by split <;> omega,by split <;> omega,fun h0=>?_,fun k hk=>?_⟩,fun h0=>?_,fun i hi=>?_,fun i j hi hj he=>?_,fun h0=>?_⟩,?_⟩
 ·rw [hlen] at h0;rw [if_neg (by omega)]; omega
 ·have hk' : k < f.rows.length:=by simpa using hk
  simp only [List.getElem_map];refine ⟨by rw [e7]; have:=h.L0; omega,fun c hc=>?_⟩;rw [it];rw [e7] at hc;rw [show ((List.map (bj f.place next L.toNat) f.rows).length : Int) = f.rows.length by simp];obtain ⟨r,r1,r2,r3⟩:=hrow k hk';obtain ⟨t1,t2⟩:=dm h f.rows[k] (by omega) (by omega) c hc
  by_cases hneg : tgtM next f.rows[k] c < 0
  ·rw [gj hneg]; omega
  ·have hc2:=hf.closed k hk' c hc (by omega);obtain ⟨t,ht⟩:=Int.eq_ofNat_of_zero_le (Int.not_lt.1 hneg);rw [ht] at hc2 t2 ⊢;have hpe : plcM f.place t = f.place.getD t 0:=by rw [plcM,if_pos (by omega)]; rfl
   rw [hpe] at hc2 ⊢;obtain ⟨j,e1,e2⟩:=hf.inn.of t (by omega) hc2
   have:=(List.getElem?_eq_some_iff.1 e2).1
   omega
 ·rw [hlen] at h0;rw [if_neg (by omega)]
 ·rw [hlen] at hi;obtain ⟨k,k1,k2,k3⟩:=hrow i hi
  have:=(hal i hi).symm
  rw [k2] at this;exact this.live (hl k (k2 ▸ List.getElem_mem hi))
 ·rw [hlen] at hi hj;obtain ⟨k,k1,k2,k3⟩:=hrow i hi;obtain ⟨l,l1,l2,l3⟩:=hrow j hj;have a1:=hal i hi;have a2:=hal j hj;rw [k2] at a1;rw [l2] at a2
  have:=hd k l (k2 ▸ List.getElem_mem hi) (l2 ▸ List.getElem_mem hj) ((a1.symm.trans he).trans a2)
  subst this;omega
 ·rw [hlen] at h0 ⊢;exact (hf.first (hpos.1 h0)).2
 ·split
  ·rename_i h0
   have hs : s < 0:=by
    refine Int.not_le.1 fun hn=>?_
    have:=hpos.2 hn
    omega
   intro w _;rw [di _ _ w (by decide),di _ _ w hs]
  ·rename_i h0;have hs:=hpos.1 (by omega);obtain ⟨g1,g2⟩:=hf.first hs;obtain ⟨g3,g4⟩:=List.getElem?_eq_some_iff.1 g1
   have:=hal 0 g3
   rwa [g4] at this
def FS.num (s : FS) (t : Int) : FS:=if 0 ≤ t ∧ s.place.getD t.toNat 0 < 0 then ⟨s.rows ++ [t],s.place.set t.toNat s.rows.length⟩ else s
theorem FS.step_num (next : List (List Int)) (r : Int) (s : FS) (c : Nat) : s.step next r c = s.num (tgtM next r c):=rfl
def FS.none (n : Nat) : FS:=⟨[],List.replicate n (-1)⟩
theorem FIn.none (n : Nat) : FIn n (FS.none n):=by
 refine ⟨⟨by simp [FS.none],fun x hx=>by simp [FS.none] at hx,by simp [FS.none]⟩,fun j hj=>by simp [FS.none] at hj,fun t ht h0=>?_,fun t ht=>?_⟩
 ·exfalso
  simp only [FS.none] at h0;rw [ev ht] at h0; omega
 ·simp only [FS.none];rw [ev ht]; omega
theorem FIn.num {n : Nat} {s : FS} {t : Int} (h : FIn n s) (ht : t < n) (h1 : -1 ≤ t) : FIn n (s.num t) ∧ FLe n s (s.num t):=by
 have:=h.step (next:=[[t]]) (r:=0) (c:=0) (by show t < n; exact ht)
 exact this
theorem FIn.num_place {n : Nat} {s : FS} {t : Int} (h : FIn n s) (h0 : 0 ≤ t) (ht : t < n) : ∃ j : Nat,(s.num t).place.getD t.toNat 0 = (j : Int) ∧ (s.num t).rows[j]? = some t:=by
 obtain ⟨k,rfl⟩:=Int.eq_ofNat_of_zero_le h0;obtain ⟨h1,-⟩:=h.num (t:=(k : Int)) ht (by omega);have hk : k < n:=by omega
 refine h1.of k hk ?_;unfold FS.num
 split
 ·rename_i e;simp only [Int.toNat_natCast];rw [dp,if_pos ⟨rfl,by rw [h.ok.p]; exact hk⟩]; omega
 ·rename_i e;simp only [Int.toNat_natCast] at e;omega
theorem js {s : Int} {next : List (List Int)} {L : Nat} (hs : s < next.length) (h1 : -1 ≤ s) : d7 s next L = dg next L next.length 0 ((FS.none next.length).num s):=by
 unfold d7
 split
 ·rename_i h0;have e : (FS.none next.length).num s = FS.none next.length:=by rw [FS.num,if_neg (by omega)]
  rw [e]
  cases next.length with
  | zero=>rfl
  | succ n=>simp [dg,FS.none]
 ·rename_i h0
  have e : (FS.none next.length).num s = ⟨[s],(List.replicate next.length (-1)).set s.toNat 0⟩:=by
   rw [FS.num,if_pos]
   ·rfl
   ·refine ⟨by omega,?_⟩;simp only [FS.none];rw [ev (by omega)]; omega
  rw [e]
theorem ob {next : List (List Int)} {L g i : Nat} {s : FS} (h : s.rows.length ≤ i) : dg next L g i s = s:=by
 cases g with
 | zero=>rfl
 | succ g=>rw [dg,if_neg (by omega)]
theorem l0 {next : List (List Int)} {L g i : Nat} {s : FS} (h : i < s.rows.length) : dg next L (g + 1) i s = dg next L g (i + 1) (s.row next (s.rows.getD i 0) L):=by
 rw [dg,if_pos h]
end
section
open Go Sym
theorem xi : bk Tryz.prog 82 = true:=by kernel_rfl
theorem qr : bk Tryz.prog 84 = true:=by kernel_rfl
def cd (nb x : Nat) : Int:=if x = nb then -1 else (x : Int)
theorem ul {nb x n : Nat} (h : x < n) : -1 ≤ cd nb x ∧ cd nb x < n:=by unfold cd; split <;> omega
def plf (s : FS) (y : Nat) : Option Nat:=if 0 ≤ s.place.getD y (-1) then some (s.place.getD y (-1)).toNat else none
theorem aax {l : List Int} {i : Nat} {a b : Int} (h : i < l.length) : l.getD i a = l.getD i b:=by simp [List.getD_eq_getElem?_getD,h]
abbrev g7 (T fb : Nat) (nv : List Value) (mb : Nat) (vf : Value) : Ow:=oX T fb (nv.length + 2) (nv ++ [.map (some mb),vf])
def li (base : Nat) (w0 w : World) (fb nb : Nat) (s : FS) (rest : List Ow) : Prop:=
 ∃ (mb : Nat) (vf : Value) (xs : List Nat),Hold base w0 w (g7 137 fb [natV nb] mb vf :: oN vf xs :: rest) ∧ s.rows = xs.map Int.ofNat ∧ MapN w mb xs.length (plf s) ∧ base ≤ mb
theorem wn (n : Nat) : plf (FS.none n) = fun _=>none:=by
 funext y
 unfold plf FS.none;rw [if_neg];simp only [List.getD_eq_getElem?_getD,List.getElem?_replicate]
 split <;> simp
section
variable {base : Nat} {w0 w : World} {rest : List Ow}
theorem ug (h : Hold base w0 w rest) (nb n : Nat) :
  Calls Tryz.prog 82 #[Vi nb] w fun e w'=>∃ fb,e = .returned (Vp fb) ∧ li base w0 w' fb nb (FS.none n) rest:=by
 refine Sym.c8 (args:=[Vi nb]) Tryz.func82 rfl rfl rfl (fun a0 hS0=>?_);refine wp_seq (ai [(0,Vi nb)] (· = w) af hS0 ?_ (fun a w1 hS hw=>?_))
 ·repeat refine zX rfl ?_
  exact aj ⟨⟨rfl,trivial⟩,rfl⟩
 subst hw;refine wp_seq (bg (α:=Nat) (fun fb=>[(2,Vp fb)]) (fun fb w'=>li base w0 w' fb nb (FS.none n) rest) af hS ?_ (fun fb a w2 hS hw=>?_))
 ·have hm:=MapF.made natL 3 w1;have h1:=(h.alloc (.map #[] 0)).nil 3 1;have h2:=h1.box (T:=137) (k:=3) #[natV nb,.map (some w1.heap.size),.slice none 0 0] rfl
  repeat refine zX rfl ?_
  refine zB rfl ?_
  repeat refine zX rfl ?_
  refine zB rfl ?_
  repeat refine zX rfl ?_
  refine aj ⟨_,⟨rfl,trivial⟩,w1.heap.size,.slice none 0 0,[],h2,rfl,?_,h.s⟩;rw [wn];exact hm.below (ao _ _)
 refine wp_ret ?_
 repeat first|refine a8 ?_|refine am ?_
 exact ret1 hS rfl rfl ⟨fb,rfl,hw⟩
theorem wu {n : Nat} {s : FS} {nb x : Nat} (hI : FIn n s) (hx : x < n) (hne : x ≠ nb) (h0 : s.place.getD x (-1) < 0) : (s.num (cd nb x)).rows = s.rows ++ [(x : Int)] ∧ plcM (s.num (cd nb x)).place (cd nb x) = s.rows.length ∧ plf (s.num (cd nb x)) = fun y=>if y = x then some s.rows.length else plf s y:=by
 have hl : x < s.place.length:=by rw [hI.ok.p]; exact hx
 have e : s.num (cd nb x) = ⟨s.rows ++ [(x : Int)],s.place.set x s.rows.length⟩:=by
  rw [cd,if_neg hne,FS.num,if_pos]
  ·rfl
  ·rw [Int.toNat_natCast,aax (b:=-1) hl]; omega
 rw [e];refine ⟨rfl,?_,?_⟩
 ·rw [cd,if_neg hne,plcM,if_pos (by omega),Int.toNat_natCast];dsimp only;rw [dp,if_pos ⟨rfl,hl⟩]
 ·funext y
  unfold plf;dsimp only
  have hg : ∀ y,(s.place.set x (s.rows.length : Int)).getD y (-1) = if y = x then (s.rows.length : Int) else s.place.getD y (-1):=fun y=>by
   rw [dp]
   by_cases e : x = y
   ·rw [if_pos ⟨e,hl⟩,if_pos e.symm]
   ·rw [if_neg (fun k=>e k.1),if_neg (fun k=>e k.symm)]
  simp only [hg]
  by_cases ey : y = x
  ·simp only [if_pos ey];rw [if_pos (by omega)]; simp
  ·simp only [if_neg ey]
theorem sg {s : FS} {n nb x : Nat} (hI : FIn n s) (hx : x < n) (hne : x ≠ nb) (h0 : ¬ s.place.getD x (-1) < 0) : s.num (cd nb x) = s ∧ plcM s.place (cd nb x) = (((plf s x).getD 0 : Nat) : Int):=by
 have hl : x < s.place.length:=by rw [hI.ok.p]; exact hx
 constructor
 ·rw [cd,if_neg hne,FS.num,if_neg];rw [Int.toNat_natCast,aax (b:=-1) hl]; omega
 ·rw [cd,if_neg hne,plcM,if_pos (by omega),Int.toNat_natCast,plf,if_pos (by omega),Option.getD_some,aax (b:=-1) hl]; omega
theorem n5 {n fb nb : Nat} {s : FS} (h : li base w0 w fb nb s rest) (hI : FIn n s) (hn : n ≤ 100000) {x : Nat} (hx : x < n) :
  Calls Tryz.prog 84 #[Vp fb,Vi x] w fun e w'=>e = .returned (Vi (plcM (s.num (cd nb x)).place (cd nb x))) ∧ li base w0 w' fb nb (s.num (cd nb x)) rest:=by
 refine Sym.c8 (args:=[Vp fb,Vi x]) Tryz.func84 rfl rfl rfl (fun a0 hS0=>?_);refine wp_seq (ai [(0,Vp fb),(1,Vi x)] (· = w) af hS0 ?_ (fun a w1 hS hw=>?_))
 ·repeat refine zX rfl ?_
  exact aj ⟨⟨rfl,rfl,trivial⟩,rfl⟩
 subst hw;have hcap:=hI.ok.cap;obtain ⟨mb,vf,xs,h,hrs,hm,hb⟩:=h;have hxl : s.rows.length = xs.length:=by rw [hrs,List.length_map]
 refine wp_seq (wp_seq (ai [(0,Vp fb),(1,Vi x),(12,.bool (decide (x = nb)))] (· = w1) af hS ?_ (fun a w2 hS hw=>?_)))
 ·repeat refine zX rfl ?_
  refine zL rfl (h.r.xcell (i:=0) rfl (j:=0) rfl) ?_;refine zC rfl (m7 _ _) ?_
  repeat refine zX rfl ?_
  exact aj ⟨⟨rfl,rfl,rfl,trivial⟩,rfl⟩
 subst hw;refine cond hS rfl (fun hT=>?_) (fun hF=>wp_skip ?_)
 ·have e : cd nb x = -1:=if_pos (of_decide_eq_true hT);refine wp_seq (ai [(4,Vi (-1))] (· = w2) af hS ?_ (fun a w3 hS hw=>?_))
  ·repeat refine zX rfl ?_
   exact aj ⟨⟨rfl,trivial⟩,rfl⟩
  subst hw;have e2 : s.num (-1) = s:=by rw [FS.num,if_neg (by omega)]
  rw [e,e2];refine wp_ret ?_
  repeat first|refine a8 ?_|refine am ?_
  exact ret1 hS rfl rfl ⟨rfl,mb,vf,xs,h,hrs,hm,hb⟩
 have hne : x ≠ nb:=of_decide_eq_false hF;refine wp_seq (ai [(0,Vp fb),(1,Vi x),(5,Vi (((plf s x).getD 0 : Nat) : Int)),(6,.bool (plf s x).isSome)] (· = w2) af hS ?_ (fun a w3 hS hw=>?_))
 ·repeat refine zX rfl ?_
  refine zL rfl (h.r.xcell (i:=0) rfl (j:=1) rfl) ?_
  repeat refine zX rfl ?_
  refine b8 rfl rfl rfl ?_;refine ⟨_,MapN.look hm (by omega),?_⟩
  repeat refine zX rfl ?_
  exact aj ⟨⟨rfl,rfl,rfl,rfl,trivial⟩,rfl⟩
 subst hw;refine wp_seq (wp_seq (ai [(0,Vp fb),(1,Vi x),(5,Vi (((plf s x).getD 0 : Nat) : Int)),(23,.bool (!(plf s x).isSome))] (· = w3) af hS ?_ (fun a w4 hS hw=>?_)))
 ·repeat refine zX rfl ?_
  exact aj ⟨⟨rfl,rfl,rfl,rfl,trivial⟩,rfl⟩
 subst hw
 by_cases h0 : s.place.getD x (-1) < 0
 ·obtain ⟨k1,k2,k3⟩:=wu (nb:=nb) hI hx hne h0;have hpn : plf s x = none:=by rw [plf,if_neg (by omega)]
  rw [hpn] at hS;refine cond hS rfl (fun hT=>?_) (fun hF=>by cases hF);refine wp_seq (ai [(0,Vp fb),(1,Vi x),(5,Vi xs.length)] (· = w4) af hS ?_ (fun a w5 hS hw=>?_))
  ·obtain ⟨g,c,rfl,-,-⟩:=h.r.any (i:=1) rfl
   repeat refine zX rfl ?_
   refine zL rfl (h.r.xcell (i:=0) rfl (j:=2) rfl) ?_
   repeat refine zX rfl ?_
   exact aj ⟨⟨rfl,rfl,rfl,trivial⟩,rfl⟩
  subst hw;refine wp_seq (ai [(0,Vp fb),(1,Vi x),(5,Vi xs.length)] (fun w'=>Hold base w0 w' (g7 137 fb [natV nb] mb vf :: oN vf xs :: rest) ∧ MapN w' mb (xs.length + 1) (plf (s.num (cd nb x)))) af hS ?_ (fun a w6 hS hw=>?_))
  ·repeat refine zX rfl ?_
   refine zL rfl (h.r.xcell (i:=0) rfl (j:=1) rfl) ?_
   repeat refine zX rfl ?_
   obtain ⟨w',g1,g2,g3⟩:=hm.put (n:=xs.length) (by unfold maxLen; omega) (x:=x) (v:=xs.length) (by omega) (by omega);refine cj rfl rfl ?_;refine ⟨w',g1,?_⟩;refine aj ⟨⟨rfl,rfl,rfl,trivial⟩,h.map hm hb g3,?_⟩;rw [k3,hxl]; exact g2
  obtain ⟨h,hm⟩:=hw;refine bg (α:=Value) (fun _=>[(5,Vi xs.length)]) (fun vf' w'=>Hold base w0 w' (g7 137 fb [natV nb] mb vf' :: oN vf' (xs ++ [x]) :: rest) ∧ MapN w' mb (xs.length + 1) (plf (s.num (cd nb x)))) af hS ?_ (fun vf' a w7 hS hw=>?_)
  ·obtain ⟨gw,cw,rfl,hcw⟩:=h.r.any (i:=1) rfl
   repeat refine zX rfl ?_
   refine zL rfl (h.r.xcell (i:=0) rfl (j:=2) rfl) ?_
   repeat refine zX rfl ?_
   refine b8 rfl rfl rfl ?_;refine exI [(0,Vi ((x : Int)))] (exI #[Vi ((x : Int))] (anI (anI rfl rfl) (anI (by decide) (anI (jv _ _ _) ?_))));have h1:=h.alloc (.cells #[Vi x] 3);have hm1:=hm.below (ao w6 (.cells #[Vi x] 3))
   have ask : AppAsk (w6.alloc (.cells #[Vi x] 3)) ⟨3,.int .i64,1,8,Vi 0⟩ (.slice gw xs.length cw) xs.length (nats xs) (Vs w6.heap.size 1 1) 1 [Vi x] base:=
    ⟨h1.r.1 1 _ rfl,.inr ⟨_,0,_,rfl,ax rfl,trivial⟩,rfl,(by simp [Value.oneCell']),(by omega),(by show (xs.length + 1) * 8 ≤ _; omega),h1.s⟩
   refine b8 rfl rfl rfl ?_;refine exI _ (exI _ (exI _ (exI _ (exI _ (anI (ask) (anI (fun _ h=>h.symm) (anI (by decide) ?_)))))));rintro v' w2 hown hgr - hat;have h2:=h1.appN (i:=1) rfl hown hgr hat;have hm2:=hm1.row h1.r (i:=1) rfl hgr;obtain ⟨g2,n2,c2,hv⟩:=df hown;subst hv
   repeat refine zX rfl ?_
   refine zS rfl rfl (h2.r.xcell (i:=0) rfl (j:=2) rfl) (h2.r.free (i:=0) rfl 2) ?_;exact aj ⟨_,⟨rfl,trivial⟩,h2.xstore (i:=0) rfl 2 (.slice g2 n2 c2),hm2.store h2.r (i:=0) rfl⟩
  obtain ⟨h,hm⟩:=hw;refine wp_seq (ai [(4,Vi xs.length)] (· = w7) af hS ?_ (fun a w8 hS hw=>?_))
  ·repeat refine zX rfl ?_
   exact aj ⟨⟨rfl,trivial⟩,rfl⟩
  subst hw;refine wp_ret ?_
  repeat first|refine a8 ?_|refine am ?_
  refine ret1 hS rfl rfl ⟨by rw [k2,hxl],mb,vf',xs ++ [x],h,?_,?_,hb⟩
  ·rw [k1,hrs]; simp
  ·rw [List.length_append]; exact hm
 ·obtain ⟨k1,k2⟩:=sg (nb:=nb) hI hx hne h0;have hps : (plf s x).isSome = true:=by rw [plf,if_pos (by omega)]; rfl
  rw [hps] at hS;refine cond hS rfl (fun hT=>by cases hT) (fun hF=>wp_skip ?_);refine wp_seq (ai [(4,Vi (((plf s x).getD 0 : Nat) : Int))] (· = w4) af hS ?_ (fun a w5 hS hw=>?_))
  ·repeat refine zX rfl ?_
   exact aj ⟨⟨rfl,trivial⟩,rfl⟩
  subst hw;rw [k1,k2];refine wp_ret ?_
  repeat first|refine a8 ?_|refine am ?_
  exact ret1 hS rfl rfl ⟨rfl,mb,vf,xs,h,hrs,hm,hb⟩
end
end
section
open Go Sym
theorem adz : bk Tryz.prog 83 = true:=by kernel_rfl
theorem jo {n : Nat} {next : List (List Int)} {r : Int} {L : Nat} {s : FS} (h : FIn n s) (ht : ∀ c,c < L → -1 ≤ tgtM next r c ∧ tgtM next r c < n) : ∀ c,c ≤ L → FIn n (FS.row next r c s) ∧ FLe n s (FS.row next r c s)
 | 0,_=>⟨h,FLe.refl _ _⟩
 | c + 1,hc=>by
   obtain ⟨h1,h2⟩:=jo h ht c (by omega);rw [FS.row_succ];obtain ⟨h3,h4⟩:=h1.step (next:=next) (r:=r) (c:=c) (ht c (by omega)).2;exact ⟨h3,h2.trans h4⟩
theorem FLe.len {n : Nat} {s f : FS} (h : FLe n s f) : s.rows.length ≤ f.rows.length:=by
 rcases Nat.eq_zero_or_pos s.rows.length with h0 | h0
 ·omega
 ·have:=h.rows (s.rows.length - 1) s.rows[s.rows.length - 1] (by simp)
  have:=(List.getElem?_eq_some_iff.1 this).1
  omega
theorem abw {n : Nat} {next : List (List Int)} {r : Int} {L : Nat} {s : FS} (h : FIn n s) (ht : ∀ c,c < L → -1 ≤ tgtM next r c ∧ tgtM next r c < n) (c : Nat) : ∀ k,c + k ≤ L → FLe n (FS.row next r c s) (FS.row next r (c + k) s)
 | 0,_=>FLe.refl _ _
 | k + 1,hc=>by
   have h1:=abw h ht c k (by omega);obtain ⟨h2,-⟩:=jo h ht (c + k) (by omega);obtain ⟨-,h4⟩:=h2.step (next:=next) (r:=r) (c:=c + k) (ht (c + k) (by omega)).2;rw [← Nat.add_assoc,FS.row_succ];exact h1.trans h4
theorem se {n : Nat} {next : List (List Int)} {r : Int} {L c : Nat} {s F : FS} (h : FIn n s) (ht : ∀ c,c < L → -1 ≤ tgtM next r c ∧ tgtM next r c < n) (hc : c < L) (hF : FLe n (FS.row next r L s) F) :
  plcM ((FS.row next r c s).num (tgtM next r c)).place (tgtM next r c) = plcM F.place (tgtM next r c):=by
 by_cases h0 : tgtM next r c < 0
 ·rw [gj h0,gj h0]
 ·obtain ⟨h1,-⟩:=jo h ht c (by omega);obtain ⟨j,e1,-⟩:=h1.num_place (by omega) (ht c hc).2;have h2:=(abw h ht (c + 1) (L - (c + 1)) (by omega));rw [show c + 1 + (L - (c + 1)) = L by omega] at h2;have h3:=(h2.trans hF).place (tgtM next r c).toNat (by have:=(ht c hc).2; omega);rw [FS.row_succ,FS.step_num] at h3;rw [plcM,plcM,if_pos (by omega),if_pos (by omega),h3 (by omega)]
def rowZ (L c : Nat) (v : Nat → Int) : List Int:=(List.range L).map fun d=>if d < c then v d else 0
theorem wk (L c : Nat) (v : Nat → Int) : (rowZ L c v).length = L:=by simp [rowZ]
theorem afh (L : Nat) (v : Nat → Int) : List.replicate L 0 = rowZ L 0 v:=by
 refine List.ext_getElem (by simp [rowZ]) fun j h1 h2=>by simp [rowZ]
theorem afg (L : Nat) (v : Nat → Int) : rowZ L L v = (List.range L).map v:=by
 refine List.ext_getElem (by simp [rowZ]) fun j h1 h2=>?_;have : j < L:=by simpa [rowZ] using h1
 simp [rowZ,this]
theorem wj {L c : Nat} (v : Nat → Int) (hc : c < L) : (rowZ L c v).set c (v c) = rowZ L (c + 1) v:=by
 refine List.ext_getElem (by simp [rowZ]) fun j h1 h2=>?_;have hj : j < L:=by simpa [rowZ] using h1
 rw [List.getElem_set]
 by_cases e : c = j
 ·subst e; simp [rowZ]
 ·rw [if_neg e];have : (j < c) = (j < c + 1):=by simp; omega
  simp [rowZ,this]
def dk (vp : Value) (vs : List Value) (Ls : List (List Int)) : List Ow:=⟨vp,34,1,vs.length,vs⟩ :: List.zipWith (fun v l=>oI v l) vs Ls
theorem mo {vp' v : Value} {vs : List Value} {Ls : List (List Int)} {l : List Int} (hl : vs.length = Ls.length) : dk vp' (vs ++ [v]) (Ls ++ [l]) = ⟨vp',34,1,vs.length + 1,vs ++ [v]⟩ :: (List.zipWith (fun v l=>oI v l) vs Ls ++ [oI v l]):=by
 unfold dk;rw [List.zipWith_append hl];simp
section
variable {base : Nat} {w0 w w' : World} {l rest : List Ow}
theorem Hold.makeI (h : Hold base w0 w l) {n : Nat} (hn : n ≤ 9223372036854775807) : Hold base w0 (w.alloc (.cells (madeCells #[Vi 0] n) 3)) (oI (Vs w.heap.size n n) (List.replicate n 0) :: l):=by
 have h1:=h.lit (e:=3) (s:=1) (n:=n) (madeCells #[Vi 0] n) (by simp [madeCells]) hn;rw [toList_madeCells_one] at h1
 simpa [oI,ints] using h1
theorem Hold.storeI (h : Hold base w0 w l) {i g n c : Nat} {xs : List Int} (hi : l[i]? = some (oI (Vs g n c) xs)) (j : Nat) (x : Int) : Hold base w0 (w.setCell ⟨g,0 + j,none⟩ (Vi x)) (l.set i (oI (Vs g n c) (xs.set j x))):=by
 have h1:=h.store hi j (Vi x)
 have e : (⟨Vs g n c,3,1,xs.length,(ints xs).set j (Vi x)⟩ : Ow) = oI (Vs g n c) (xs.set j x):=by
  rw [oI,List.length_set,show ints (xs.set j x) = (ints xs).set j (Vi x) from List.map_set ..]
 rwa [e] at h1
theorem li.below {fb nb : Nat} {s : FS} (h : li base w0 w fb nb s rest) (hb : RowKit.Below w.heap.size w w') : li base w0 w' fb nb s rest:=by
 obtain ⟨mb,vf,xs,h1,h2,h3,h4⟩:=h;exact ⟨mb,vf,xs,h1.below hb,h2,h3.below hb,h4⟩
set_option maxHeartbeats 1000000 in
theorem aad {n fb nb x0 L lim S : Nat} {caps : Array Value} {next : List (List Int)} {F : FS} (h : li base w0 w fb nb (FS.none n) rest) (hn : n ≤ 100000) (hnl : next.length = n) (hx0 : x0 < n) (hL : L ≤ 100000) (hlim : F.rows.length ≤ lim) (hlim2 : lim ≤ 1000000)
  (hr : ∀ r : Int,0 ≤ r → r < n → ∀ c,c < L → -1 ≤ tgtM next r c ∧ tgtM next r c < n) (hen : bk Tryz.prog S = true)
  (hstep : ∀ (y c : Nat) (w : World),y < n → c < L → Hold base w0 w rest → Calls Tryz.prog S ([Vi y,Vi c] ++ caps.toList).toArray w fun e w'=>∃ z : Nat,z < n ∧ e = .returned (Vi z) ∧ tgtM next (y : Int) c = cd nb z ∧ RowKit.Below w.heap.size w w')
  (hF : d7 (cd nb x0) next L = F) :
  Calls Tryz.prog 83 #[Vp fb,Vi x0,Vi L,Vi lim,.func (.func S) #[] caps] w fun e w'=>∃ (vn : Value) (vs : List Value),e = .returned (.tuple #[vn,.bool true]) ∧ vs.length = F.rows.length ∧ FIn n F ∧ li base w0 w' fb nb F (dk vn vs (F.rows.map (bj F.place next L)) ++ rest):=by
 refine Sym.c8 (args:=[Vp fb,Vi x0,Vi L,Vi lim,.func (.func S) #[] caps]) Tryz.func83 rfl rfl rfl (fun a0 hS0=>?_);refine wp_seq (ai [(0,Vp fb),(2,Vi L),(3,Vi lim),(4,.func (.func S) #[] caps),(1,Vi x0),(10,.slice none 0 0)] (· = w) af hS0 ?_ (fun a w1 hS hw=>?_))
 ·repeat refine zX rfl ?_
  exact aj ⟨⟨rfl,rfl,rfl,rfl,rfl,rfl,trivial⟩,rfl⟩
 subst hw;have hc0:=ul (nb:=nb) hx0;have hI0:=(FIn.none n).num hc0.2 hc0.1;refine wp_scope_straight (wp_seq (ai [(0,Vp fb),(2,Vi L),(3,Vi lim),(4,.func (.func S) #[] caps),(10,.slice none 0 0)] (fun w'=>li base w0 w' fb nb ((FS.none n).num (cd nb x0)) rest) af hS ?_ (fun a w2 hS h=>?_)))
 ·repeat refine zX rfl ?_
  refine zF rfl (qr) (n5 h (FIn.none n) hn hx0) ?_;rintro e w2 ⟨rfl,h2⟩;refine ⟨_,rfl,?_⟩
  repeat refine zX rfl ?_
  exact aj ⟨⟨rfl,rfl,rfl,rfl,rfl,trivial⟩,h2⟩
 refine wp_seq (wp_label ?_);refine wp_seq (wp_seq (ai [(0,Vp fb),(2,Vi L),(3,Vi lim),(4,.func (.func S) #[] caps),(10,.slice none 0 0),(12,Vi (0 : Nat))] (· = w2) af hS ?_ (fun a w3 hS hw=>?_)))
 ·repeat refine zX rfl ?_
  exact aj ⟨⟨rfl,rfl,rfl,rfl,rfl,rfl,trivial⟩,rfl⟩
 subst hw;obtain ⟨mb,vf,xs,h,hrs,hm,hb⟩:=h;have hne:=(h.nil 34 1).perm (List.Perm.trans (.swap _ _ _) (.cons _ (.swap _ _ _)))
 refine wp_block (cz hS (fun g E w'=>∃ (i : Nat) (s : FS) (vn : Value) (vs : List Value),E = [(0,Vp fb),(2,Vi L),(3,Vi lim),(4,.func (.func S) #[] caps),(10,vn),(12,Vi i)] ∧ FIn n s ∧ i ≤ s.rows.length ∧ dg next L g i s = F ∧ n ≤ g + i ∧ vs.length = i ∧ li base w0 w' fb nb s (dk vn vs ((s.rows.take i).map (bj F.place next L)) ++ rest)) n
  ⟨0,_,_,[],rfl,hI0.1,Nat.zero_le _,by rw [← hF,js (by rw [hnl]; exact hc0.2) hc0.1,hnl],by omega,rfl,mb,vf,xs,hne,hrs,hm,hb⟩ ?_)
 clear hS h hne hrs hm hb;rintro g E w4 a ⟨i,s,vn,vs,rfl,hI,hi,hgo,hg,hvs,h⟩ hS;have hcap:=hI.ok.cap;refine wp_seq (wp_seq (ai [(0,Vp fb),(2,Vi L),(3,Vi lim),(4,.func (.func S) #[] caps),(10,vn),(12,Vi i),(24,.bool (decide (i < s.rows.length)))] (· = w4) af hS ?_ (fun a w5 hS hw=>?_)))
 ·obtain ⟨mb,vf,xs,h,hrs,hm,hb⟩:=h;have hxl : s.rows.length = xs.length:=by rw [hrs,List.length_map]
  obtain ⟨gf,cf,rfl,-,-⟩:=h.r.any (i:=1) rfl;rw [hxl]
  repeat refine zX rfl ?_
  refine zL rfl (h.r.xcell (i:=0) rfl (j:=2) rfl) ?_
  repeat refine zX rfl ?_
  refine zC rfl (co _ _) ?_
  repeat refine zX rfl ?_
  exact aj ⟨⟨rfl,rfl,rfl,rfl,rfl,rfl,rfl,trivial⟩,rfl⟩
 subst hw;refine cond hS rfl (fun hT=>wp_skip ?_) (fun hF'=>?_)
 rotate_left
 ·have hii : s.rows.length ≤ i:=by have:=of_decide_eq_false hF'; omega
  have hsF : s = F:=by rw [← hgo,ob hii]
  have hie : i = s.rows.length:=by omega
  rw [hie,List.take_length] at h;subst hsF;refine wp_exit ?_
  repeat first|refine bf ?_|refine ba ?_|refine az rfl ?_
  refine wp_seq (b6 [(10,vn),(11,.bool true)] af dc (by kernel_rfl) hS ?_ (fun a w6 hS hw=>?_))
  ·obtain ⟨mb,vf,xs,h,hrs,hm,hb⟩:=h;have hxl : s.rows.length = xs.length:=by rw [hrs,List.length_map]
   obtain ⟨gf,cf,rfl,-,-⟩:=h.r.any (i:=1) rfl
   repeat refine qX rfl ?_
   refine qL rfl (h.r.xcell (i:=0) rfl (j:=2) rfl) ?_
   repeat refine qX rfl ?_
   refine qC rfl (decide_eq_true (show (xs.length : Int) ≤ (lim : Int) by omega)) ?_
   repeat refine qX rfl ?_
   exact fa ⟨rfl,rfl,trivial⟩
  refine wp_ret ?_
  repeat first|refine a8 ?_|refine am ?_
  exact n8 (ret2 hS rfl rfl rfl ⟨vn,vs,rfl,by omega,hI,h.below hw⟩)
 have hii : i < s.rows.length:=of_decide_eq_true hT;obtain ⟨g,rfl⟩ : ∃ g',g = g' + 1:=⟨g - 1,by omega⟩;rw [l0 hii] at hgo;obtain ⟨r,hre⟩ : ∃ r,r = s.rows.getD i 0:=⟨_,rfl⟩;have hri : s.rows[i] = r:=by rw [hre]; simp [List.getD_eq_getElem?_getD,hii]
 rw [← hre] at hgo;obtain ⟨hr0,hrn,-⟩:=hI.ok.r r (by rw [← hri]; exact List.getElem_mem hii);have hrt:=hr r hr0 hrn;obtain ⟨hIL,hLL⟩:=jo hI hrt L (Nat.le_refl _)
 have hrl : s.rows.length ≤ (FS.row next r L s).rows.length:=by
  have:=hLL.rows (s.rows.length - 1) s.rows[s.rows.length - 1] (by simp)
  have:=(List.getElem?_eq_some_iff.1 this).1
  omega
 have hFl : FLe n (FS.row next r L s) F:=by
  rw [← hgo];exact (kj (L:=L) hr g (i + 1) _ hIL (by omega) (by omega)).2.1
 have hva : ∀ c,c < L → plcM ((FS.row next r c s).num (tgtM next r c)).place (tgtM next r c) = plcM F.place (tgtM next r c):=fun c hc=>se hI hrt hc hFl;obtain ⟨v,hve⟩ : ∃ v : Nat → Int,v = fun c=>plcM F.place (tgtM next r c):=⟨_,rfl⟩;obtain ⟨NR,hNR⟩ : ∃ NR,NR = dk vn vs ((s.rows.take i).map (bj F.place next L)) ++ rest:=⟨_,rfl⟩;rw [← hNR] at h;have hNRr : ∀ {w'},Hold base w0 w' NR → Hold base w0 w' rest:=fun h=>by rw [hNR] at h; exact h.drop
 refine wp_seq (wp_block (wp_seq (bg (α:=Nat) (fun gc=>[(0,Vp fb),(2,Vi L),(3,Vi lim),(4,.func (.func S) #[] caps),(10,vn),(12,Vi i),(13,Vs gc L L)]) (fun gc w'=>li base w0 w' fb nb s (oI (Vs gc L L) (rowZ L 0 v) :: NR)) af hS ?_ (fun gc a w6 hS h=>?_))))
 ·obtain ⟨mb,vf,xs,h,hrs,hm,hb⟩:=h;have h2:=(h.makeI (n:=L) (by omega)).perm (List.Perm.trans (.swap _ _ _) (.cons _ (.swap _ _ _)));rw [afh L v] at h2
  repeat refine zX rfl ?_
  refine zM (L) rfl rfl rfl rfl rfl ((by show 8 * _ ≤ _; omega)) ((by omega)) ?_
  repeat refine zX rfl ?_
  exact aj ⟨_,⟨rfl,rfl,rfl,rfl,rfl,rfl,rfl,trivial⟩,mb,vf,xs,h2,hrs,hm.below (ao _ _),hb⟩
 refine wp_seq (wp_seq (ai [(0,Vp fb),(2,Vi L),(3,Vi lim),(4,.func (.func S) #[] caps),(10,vn),(12,Vi i),(13,Vs gc L L),(29,Vi L),(30,Vi (0 : Nat))] (· = w6) af hS ?_ (fun a w7 hS hw=>?_)))
 ·repeat refine zX rfl ?_
  exact aj ⟨⟨rfl,rfl,rfl,rfl,rfl,rfl,rfl,rfl,rfl,trivial⟩,rfl⟩
 subst hw;refine wp_block (cz hS (fun γ E w'=>∃ c : Nat,c ≤ L ∧ γ = L - c ∧ E = [(0,Vp fb),(2,Vi L),(3,Vi lim),(4,.func (.func S) #[] caps),(10,vn),(12,Vi i),(13,Vs gc L L),(29,Vi L),(30,Vi c)] ∧ li base w0 w' fb nb (FS.row next r c s) (oI (Vs gc L L) (rowZ L c v) :: NR)) L ⟨0,by omega,by omega,rfl,h⟩ ?_);clear hS h;rintro γ E w8 a ⟨c,hc,rfl,rfl,h⟩ hS;refine wp_seq (ai [(0,Vp fb),(2,Vi L),(3,Vi lim),(4,.func (.func S) #[] caps),(10,vn),(12,Vi i),(13,Vs gc L L),(29,Vi L),(30,Vi c),(31,.bool (decide (c < L)))] (· = w8) af hS ?_ (fun a w9 hS hw=>?_))
 ·repeat refine zX rfl ?_
  refine zC rfl (co _ _) ?_
  repeat refine zX rfl ?_
  exact aj ⟨⟨rfl,rfl,rfl,rfl,rfl,rfl,rfl,rfl,rfl,rfl,trivial⟩,rfl⟩
 subst hw;refine wp_seq (cond hS rfl (fun hT=>wp_skip ?_) (fun hF'=>?_))
 rotate_left
 ·have hcc : L = c:=by have:=of_decide_eq_false hF'; omega
  subst hcc;refine wp_exit ?_
  repeat first|refine bf ?_|refine ba ?_|refine az rfl ?_
  rw [afg,hve] at h;refine bg (α:=Value) (fun vn'=>[(0,Vp fb),(2,Vi L),(3,Vi lim),(4,.func (.func S) #[] caps),(10,vn'),(12,Vi i)]) (fun vn' w'=>li base w0 w' fb nb (FS.row next r L s) (dk vn' (vs ++ [Vs gc L L]) ((s.rows.take (i + 1)).map (bj F.place next L)) ++ rest)) af hS ?_ (fun vn' a w10 hS h=>?_)
  ·obtain ⟨mb,vf,xs,h,hrs,hm,hb⟩:=h;subst hNR;obtain ⟨gvp,cvp,rfl,-⟩:=h.r.any (i:=3) (v:=vn) (e:=34) (s:=1) (n:=vs.length) (xs:=vs) rfl
   repeat refine zX rfl ?_
   refine b8 rfl rfl rfl ?_;refine exI [(0,Vs gc L L)] (exI #[Vs gc L L] (anI (anI rfl rfl) (anI (by decide) (anI (uh _ _ _ _) ?_))));have hal:=ao w9 (.cells #[Vs gc L L] 34);have h3:=h.alloc (.cells #[Vs gc L L] 34);have hm4:=hm.below hal
   have ask : AppAsk (w9.alloc (.cells #[Vs gc L L] 34)) ⟨34,.slice 3,1,24,.slice none 0 0⟩ (.slice gvp vs.length cvp) vs.length vs (Vs w9.heap.size 1 1) 1 [Vs gc L L] base:=
    ⟨h3.r.1 3 _ rfl,.inr ⟨_,0,_,rfl,ax rfl,trivial⟩,rfl,(by simp [Value.oneCell']),(by omega),(by show (vs.length + 1) * 24 ≤ _; omega),h3.s⟩
   refine b8 rfl rfl rfl ?_;refine exI _ (exI _ (exI _ (exI _ (exI _ (anI (ask) (anI (fun _ h=>h.symm) (anI (by decide) ?_)))))));rintro v' w16 hown2 hgr - hat;have h4:=h3.app (i:=3) rfl hown2 hgr hat;have hm5:=hm4.row h3.r (i:=3) rfl hgr
   repeat refine zX rfl ?_
   refine aj ⟨v',⟨rfl,rfl,rfl,rfl,rfl,rfl,trivial⟩,mb,vf,xs,?_,hrs,hm5,hb⟩;have hlen : vs.length = ((s.rows.take i).map (bj F.place next L)).length:=by simp; omega
   rw [List.take_succ_eq_append_getElem hii,List.map_append,List.map_singleton,mo hlen,hri];refine h4.perm ?_;obtain ⟨Z,hZ⟩ : ∃ Z,Z = List.zipWith (fun v l=>oI v l) vs ((s.rows.take i).map (bj F.place next L)):=⟨_,rfl⟩;show List.Perm (_ :: _ :: oI (Vs gc L L) ((List.range L).map fun d=>plcM F.place (tgtM next r d)) :: _ :: (List.zipWith (fun v l=>oI v l) vs ((s.rows.take i).map (bj F.place next L)) ++ rest)) (_ :: _ :: _ :: ((List.zipWith (fun v l=>oI v l) vs ((s.rows.take i).map (bj F.place next L)) ++ [oI (Vs gc L L) (bj F.place next L r)]) ++ rest));rw [← hZ];refine .cons _ (.cons _ ((List.Perm.swap _ _ _).trans (.cons _ ?_)));rw [List.append_assoc];exact (List.perm_middle (l₁:=Z) (l₂:=rest)).symm
  refine ay ?_;refine ai [(0,Vp fb),(2,Vi L),(3,Vi lim),(4,.func (.func S) #[] caps),(10,vn'),(12,Vi (i + 1 : Nat))] (· = w10) af hS ?_ (fun a w11 hS hw=>?_)
  ·repeat refine zX rfl ?_
   refine zN rfl (bm i 1 (by omega)) ?_
   repeat refine zX rfl ?_
   exact aj ⟨⟨rfl,rfl,rfl,rfl,rfl,rfl,trivial⟩,rfl⟩
  subst hw;refine ⟨g,_,by omega,⟨i + 1,FS.row next r L s,vn',vs ++ [Vs gc L L],rfl,hIL,by omega,hgo,by omega,by simp [hvs],?_⟩,hS⟩
  have e : (FS.row next r L s).rows.take (i + 1) = s.rows.take (i + 1):=by
   refine List.ext_getElem (by simp; omega) fun j h1 h2=>?_;have hj : j < s.rows.length:=by simp at h2; omega
   have:=hLL.rows j s.rows[j] (by simp [hj])
   simp only [List.getElem_take];exact (List.getElem?_eq_some_iff.1 this).2
  rw [e]; exact h
 have hcc : c < L:=of_decide_eq_true hT;obtain ⟨hIc,-⟩:=jo hI hrt c (by omega);obtain ⟨hIc1,hLc⟩:=jo hI hrt (c + 1) (by omega);refine wp_seq (wp_block (wp_seq (ai [(0,Vp fb),(2,Vi L),(3,Vi lim),(4,.func (.func S) #[] caps),(10,vn),(12,Vi i),(13,Vs gc L L),(29,Vi L),(30,Vi c),(14,Vi c)] (· = w9) af hS ?_ (fun a w10 hS hw=>?_))))
 ·repeat refine zX rfl ?_
  exact aj ⟨⟨rfl,rfl,rfl,rfl,rfl,rfl,rfl,rfl,rfl,rfl,trivial⟩,rfl⟩
 subst hw;refine wp_seq (ai [(0,Vp fb),(2,Vi L),(3,Vi lim),(4,.func (.func S) #[] caps),(10,vn),(12,Vi i),(13,Vs gc L L),(29,Vi L),(30,Vi c)] (fun w'=>li base w0 w' fb nb (FS.row next r (c + 1) s) (oI (Vs gc L L) (rowZ L (c + 1) v) :: NR)) af hS ?_ (fun a w11 hS h=>?_))
 ·obtain ⟨mb,vf,xs,h,hrs,hm,hb⟩:=h;obtain ⟨-,hLc0⟩:=jo hI hrt c (by omega);have hxl : (FS.row next r c s).rows.length = xs.length:=by rw [hrs,List.length_map]
  have hir:=hLc0.rows i r (by rw [← hri]; simp [hii]);obtain ⟨hi2,hir2⟩:=List.getElem?_eq_some_iff.1 hir;have hix : i < xs.length:=by omega
  have hyr : ((gt xs i : Nat) : Int) = r:=by
   rw [← hir2];simp only [hrs,List.getElem_map];simp [gt,List.getD_eq_getElem?_getD,hix]
  obtain ⟨y,hye⟩ : ∃ y,y = gt xs i:=⟨_,rfl⟩;rw [← hye] at hyr;have hyn : y < n:=by omega
  obtain ⟨gf,cf,rfl,-⟩:=h.r.nilOr (i:=1) rfl (by omega);have hcell:=h.r.cN (i:=1) rfl hix;rw [← hye] at hcell
  repeat refine zX rfl ?_
  refine zL rfl (h.r.xcell (i:=0) rfl (j:=2) rfl) ?_
  repeat refine zX rfl ?_
  refine zI rfl (rfl) (hix) ?_;refine zL rfl (hcell) ?_
  repeat refine zX rfl ?_
  refine zF rfl (hen) (hstep y c w10 hyn hcc (hNRr h.tail.tail.tail)) ?_;rintro e w11 ⟨z,hzn,rfl,hzt,hw⟩;refine ⟨_,rfl,?_⟩;rw [hyr] at hzt;have hfn : li base w0 w11 fb nb (FS.row next r c s) (oI (Vs gc L L) (rowZ L c v) :: NR):=⟨mb,_,xs,h.below hw,hrs,hm.below hw,hb⟩
  repeat refine zX rfl ?_
  refine zF rfl (qr) (n5 hfn hIc hn hzn) ?_;rintro e w12 ⟨rfl,h12⟩;refine ⟨_,rfl,?_⟩;rw [← hzt,hva c hcc];rw [← hzt,← FS.step_num,← FS.row_succ] at h12;obtain ⟨mb,vf,xs,h,hrs,hm,hb⟩:=h12;have hzl : c < (rowZ L c v).length:=by rw [wk]; exact hcc
  have hst:=h.storeI (i:=2) rfl c (plcM F.place (tgtM next r c));rw [show (rowZ L c v).set c (plcM F.place (tgtM next r c)) = rowZ L (c + 1) v by rw [← wj v hcc,hve]] at hst
  repeat refine zX rfl ?_
  refine zI rfl (rfl) (hcc) ?_;refine zS rfl rfl (h.r.cellI (i:=2) rfl hzl) (h.r.free (i:=2) rfl _) ?_;exact aj ⟨⟨rfl,rfl,rfl,rfl,rfl,rfl,rfl,rfl,rfl,trivial⟩,mb,vf,xs,hst,hrs,hm.store h.r (i:=2) rfl,hb⟩
 refine wp_seq (ai [(0,Vp fb),(2,Vi L),(3,Vi lim),(4,.func (.func S) #[] caps),(10,vn),(12,Vi i),(13,Vs gc L L),(29,Vi L),(30,Vi c),(54,.bool false)] (· = w11) af hS ?_ (fun a w12 hS hw=>?_))
 ·obtain ⟨mb,vf,xs,h,hrs,hm,hb⟩:=h;have hxl : (FS.row next r (c + 1) s).rows.length = xs.length:=by rw [hrs,List.length_map]
  have:=((abw hI hrt (c + 1) (L - (c + 1)) (by omega)).trans (by rw [show c + 1 + (L - (c + 1)) = L by omega]; exact hFl)).len
  obtain ⟨gf,cf,rfl,-,-⟩:=h.r.any (i:=1) rfl
  repeat refine zX rfl ?_
  refine zL rfl (h.r.xcell (i:=0) rfl (j:=2) rfl) ?_
  repeat refine zX rfl ?_
  refine zC rfl (decide_eq_false (show ¬ ((lim : Int) < (xs.length : Int)) by omega)) ?_
  repeat refine zX rfl ?_
  exact aj ⟨⟨rfl,rfl,rfl,rfl,rfl,rfl,rfl,rfl,rfl,rfl,trivial⟩,rfl⟩
 subst hw;refine cond hS rfl (fun hT=>by cases hT) (fun hF'=>wp_skip ?_);refine ay ?_;refine ai [(0,Vp fb),(2,Vi L),(3,Vi lim),(4,.func (.func S) #[] caps),(10,vn),(12,Vi i),(13,Vs gc L L),(29,Vi L),(30,Vi (c + 1 : Nat))] (· = w12) af hS ?_ (fun a w13 hS hw=>?_)
 ·repeat refine zX rfl ?_
  refine zN rfl (bm c 1 (by omega)) ?_
  repeat refine zX rfl ?_
  exact aj ⟨⟨rfl,rfl,rfl,rfl,rfl,rfl,rfl,rfl,rfl,trivial⟩,rfl⟩
 subst hw;exact ⟨L - (c + 1),_,by omega,⟨c + 1,by omega,rfl,rfl,h⟩,hS⟩
end
theorem abu {L : Nat} {next : List (List Int)} {P : Int → Prop} (hP : ∀ r,P r → ∀ c,c < L → 0 ≤ tgtM next r c → P (tgtM next r c)) : ∀ (g i : Nat) (s : FS),(∀ z ∈ s.rows,P z) → ∀ z ∈ (dg next L g i s).rows,P z
 | 0,_,_,h=>h
 | g + 1,i,s,h=>by
   rw [dg]
   split
   ·rename_i hi
    have hr : P (s.rows.getD i 0):=by
     rw [List.getD_eq_getElem?_getD,List.getElem?_eq_getElem hi];exact h _ (List.getElem_mem hi)
    refine abu hP g (i + 1) _ ?_
    have : ∀ c,c ≤ L → ∀ z ∈ (FS.row next (s.rows.getD i 0) c s).rows,P z:=fun c=>by
     induction c with
     | zero=>exact fun _=>h
     | succ c ih=>
       intro hc;rw [FS.row_succ,FS.step_num,FS.num]
       split
       ·rename_i h0;intro z hz
        rcases List.mem_append.1 hz with hz | hz
        ·exact ih (by omega) z hz
        ·rw [List.mem_singleton.1 hz]; exact hP _ hr c (by omega) h0.1
       ·exact ih (by omega)
    exact this L (Nat.le_refl _)
   ·exact h
end
section
open Go Sym
theorem ag5 : bk Tryz.prog 58 = true:=by kernel_rfl
theorem io {L : Nat} {s s0 : Int} {next : List (List Int)} {fin : List Bool} (h : Shape (L : Int) s0 next fin) (h1 : -1 ≤ s) (h2 : s < next.length) : Found s next L (d7 s next L):=by
 by_cases h0 : s < 0
 ·unfold d7;rw [if_pos h0];exact ⟨FIn.none next.length,fun h=>by omega,fun _=>rfl,fun j hj=>by simp at hj⟩
 ·have:=qz (L:=(L : Int)) (s:=s) (next:=next) (fin:=fin) ⟨h.L0,h.fin,h1,h2,fun _=>by omega,h.rows⟩
  rwa [Int.toNat_natCast] at this
theorem yt {L : Nat} {s : Int} {next : List (List Int)} {F : FS} (h : Found s next L F) : F.num s = F ∧ plcM F.place s = if F.rows.length = 0 then -1 else 0:=by
 by_cases h0 : s < 0
 ·rw [h.none h0,FS.num,if_neg (by omega),gj h0];exact ⟨rfl,rfl⟩
 ·have h1:=(h.first (by omega)).1;obtain ⟨h2,h3⟩:=List.getElem?_eq_some_iff.1 h1;have h4:=h.inn.at' 0 h2;rw [h3] at h4;rw [FS.num,if_neg (by omega),plcM,if_pos (by omega),if_neg (by omega),h4];exact ⟨rfl,rfl⟩
theorem afu {n : Nat} {F : FS} (h : FIn n F) {t : Int} (ht : t < n) : -1 ≤ plcM F.place t ∧ plcM F.place t ≤ n:=by
 unfold plcM
 split
 ·rename_i h0;obtain ⟨k,rfl⟩:=Int.eq_ofNat_of_zero_le h0;have hk : k < n:=by omega
  have h1:=h.low k hk;simp only [Int.toNat_natCast]
  by_cases h2 : F.place.getD k 0 < 0
  ·omega
  ·obtain ⟨j,e1,e2⟩:=h.of k hk (by omega)
   have:=(List.getElem?_eq_some_iff.1 e2).1
   have:=h.ok.cap
   omega
 ·omega
section
variable {base : Nat} {w0 w w' : World} {l rest : List Ow}
theorem aiv {vn : Value} {vs : List Value} {Ls : List (List Int)} (h : Hold base w0 w (dk vn vs Ls ++ rest)) (hl : vs.length = Ls.length) (hI : ∀ l ∈ Ls,∀ x ∈ l,I64 x) : Sl w vn Ls PRow ∧ Ok vn:=
 jn (P:=PRow) (h.r.1 0 _ rfl) hl (fun i hi=>by
  have hi' : i < vs.length:=by omega
  refine ⟨vs[i],by simp [hi'],?_⟩
  have:=h.r.slI (i:=i + 1) (v:=vs[i]) (xs:=Ls[i]) (by
   unfold dk;rw [List.cons_append,List.getElem?_cons_succ,List.getElem?_append_left (by simp; omega)];simp [List.getElem?_zipWith,hi,hi']) (hI _ (List.getElem_mem hi))
  exact this)
theorem aap {L s : Int} {vn ve : Value} {vs : List Value} {Ls : List (List Int)} {fin : List Bool} (h : Hold base w0 w (oB ve fin :: (dk vn vs Ls ++ rest))) (hvs : vs.length = Ls.length) (hI : ∀ l ∈ Ls,∀ x ∈ l,I64 x) (hL : I64 L) (hs : I64 s) : Ma w L s Ls fin vn ve:=by
 have hn:=aiv h.tail hvs hI;have he:=jn (P:=je) (l:=fin) (h.r.1 0 _ rfl) rfl (fun i hi=>⟨_,by simp [hi],rfl⟩);exact ⟨hn.1,he.1,hL,hs,hn.2,he.2⟩
theorem me (h : Rows base w l) {i T b : Nat} {v0 v1 v2 v3 : Value} (hi : l[i]? = some (oX T b 4 [v0,v1,v2,v3])) : ∀ j,j < 4 → (w.cell? ⟨b,0 + j,none⟩).isSome = true ∧ w.frozen? ⟨b,0 + j,none⟩ = false:=fun j hj=>by
 rw [Nat.zero_add];refine ⟨?_,h.free hi j⟩
 match j,hj with
 | 0,_=>rw [h.xcell hi (j:=0) rfl]; rfl
 | 1,_=>rw [h.xcell hi (j:=1) rfl]; rfl
 | 2,_=>rw [h.xcell hi (j:=2) rfl]; rfl
 | 3,_=>rw [h.xcell hi (j:=3) rfl]; rfl
theorem Hold.xput4 (h : Hold base w0 w l) {i T b : Nat} {v0 v1 v2 v3 : Value} (hi : l[i]? = some (oX T b 4 [v0,v1,v2,v3])) (u0 u1 u2 u3 : Value) : Hold base w0 (w.setCells b 0 [u0,u1,u2,u3]) (l.set i (oX T b 4 [u0,u1,u2,u3])):=by
 have hl:=(List.getElem?_eq_some_iff.1 hi).1;have h1:=h.xstore hi 0 u0;have h2:=h1.xstore (i:=i) (T:=T) (b:=b) (k:=4) (vs:=[v0,v1,v2,v3].set 0 u0) (by rw [List.getElem?_set_self hl]) 1 u1;rw [List.set_set] at h2;have h3:=h2.xstore (i:=i) (T:=T) (b:=b) (k:=4) (vs:=([v0,v1,v2,v3].set 0 u0).set 1 u1) (by rw [List.getElem?_set_self hl]) 2 u2;rw [List.set_set] at h3;have h4:=h3.xstore (i:=i) (T:=T) (b:=b) (k:=4) (vs:=(([v0,v1,v2,v3].set 0 u0).set 1 u1).set 2 u2) (by rw [List.getElem?_set_self hl]) 3 u3;rw [List.set_set] at h4;exact h4
set_option maxHeartbeats 2000000 in
theorem ajx {mi rc y k L S2 : Nat} {caps2 : Array Value} {st : Int} {vn ve vf : Value} {ends : List Bool} {b : Bool} {xl : Nat} {tl : List Ow}
  (h : Hold base w0 w (oB ve ends :: oX 25 mi 4 [Vi L,Vi st,vn,ve] :: tl)) (hl : ends.length ≤ 100000000) (hen : bk Tryz.prog S2 = true)
  (hend : ∀ w',RowKit.Below w.heap.size w w' → Calls Tryz.prog S2 ([Vi y] ++ caps2.toList).toArray w' fun e w2=>e = .returned (.bool b) ∧ RowKit.Below w'.heap.size w' w2)
  {Q : Exit → Act → World → Prop} {a : Act} {ops : Array Oper} {id : Nat} (hops : Sym.da Tryz.f58.body 9 = some (id,ops))
  (hS : St Tryz.f58.ntmps a [(5,.func (.func S2) #[] caps2),(12,Vp rc),(17,Vp mi),(43,vf),(44,Vi xl),(45,Vi k),(19,Vi y)])
  (hq : ∀ ve' a' w',St Tryz.f58.ntmps a' [(5,.func (.func S2) #[] caps2),(12,Vp rc),(17,Vp mi),(43,vf),(44,Vi xl),(45,Vi k)] → Hold base w0 w' (oB ve' (ends ++ [b]) :: oX 25 mi 4 [Vi L,Vi st,vn,ve'] :: tl) → Q .normal a' w') : (Code.region id ops true).wp Tryz.prog Q a w:=by
 cases hops
 refine ep (α:=Value) 6 (fun _=>[(5,.func (.func S2) #[] caps2),(12,Vp rc),(17,Vp mi),(43,vf),(44,Vi xl),(45,Vi k)]) (fun ve' w'=>Hold base w0 w' (oB ve' (ends ++ [b]) :: oX 25 mi 4 [Vi L,Vi st,vn,ve'] :: tl)) dc hS ?_ hq;obtain ⟨gs,cs,rfl,hc⟩:=h.r.any (i:=0) rfl;have hy : RowKit.Below w.drew.heap.size w.drew w.drew:=RowKit.Below.refl _ _;have hD:=h.drew;have hd : RowKit.Below w.heap.size w w.drew:=(RowKit.Below.refl _ _).drew;refine yT 0 af rfl (by kernel_rfl) hy rfl (rfl) ?_;refine yL 1 af rfl (by kernel_rfl) hy rfl rfl (hD.r.xcell (i:=1) rfl (j:=3) rfl) ?_;refine yT 2 af rfl (by kernel_rfl) hy rfl (rfl) ?_;refine yT 3 af rfl (by kernel_rfl) hy rfl (rfl) ?_;refine bo 4 (by kernel_rfl) (y_op 4 af rfl rfl rfl rfl ?_);refine anI hen ((hend w.drew hd).mono ?_);rintro e w2 ⟨rfl,k1⟩;refine ⟨_,rfl,?_⟩;refine anI (.inr k1) ?_;refine bo 5 (by kernel_rfl) (y_op 5 af rfl rfl rfl rfl ?_);refine exI [(0,.bool b)] (exI #[.bool b] (anI (anI rfl rfl) (anI (by decide) (anI (agv _ _) ?_))));have hy2:=k1.alloc k1.size (.cells #[.bool b] 4);refine anI (.inr hy2) ?_;have h3:=(hD.below k1).alloc (.cells #[.bool b] 4)
 have ask : AppAsk (w2.alloc (.cells #[.bool b] 4)) ⟨4,.bool,1,1,.bool false⟩ (.slice gs ends.length cs) ends.length (ip ends) (Vs w2.heap.size 1 1) 1 [.bool b] base:=
  ⟨h3.r.1 0 _ rfl,.inr ⟨_,0,_,rfl,ax rfl,trivial⟩,rfl,(by simp [Value.oneCell']),(by omega),(by show (ends.length + 1) * 1 ≤ _; omega),h3.s⟩
 refine bo 6 (by kernel_rfl) (y_op 6 af rfl rfl rfl rfl ?_);refine exI _ (exI _ (exI _ (exI _ (exI _ (anI (ask) (anI (fun _ h=>h.symm) (anI (by decide) ?_)))))));rintro v' w3 hown hgr - hat;refine anI (.inl (by kernel_rfl)) ?_;have h4:=h3.appB (ys:=[b]) (i:=0) rfl hown hgr hat;obtain ⟨g2,n2,c2,hv⟩:=df hown;subst hv;refine yG 7 af rfl (by kernel_rfl) (.inl (by kernel_rfl)) rfl rfl ?_;refine bo 8 (by kernel_rfl) (ew 8 af rfl rfl rfl ?_);refine anI rfl (anI rfl (anI ⟨_,h4.r.xcell (i:=1) rfl (j:=3) rfl⟩ (anI (h4.r.free (i:=1) rfl 3) (anI (.inl (by kernel_rfl)) ?_))));exact fc (.slice g2 n2 c2) (by kernel_rfl) ⟨rfl,rfl,rfl,rfl,rfl,rfl,trivial⟩ (h4.xstore (i:=1) rfl 3 (.slice g2 n2 c2))
set_option maxHeartbeats 2000000 in
theorem aea {n nb x0 L lim S S2 : Nat} {caps caps2 : Array Value} {next : List (List Int)} {fin : List Bool} {s0 : Int} {F : FS} (h : Hold base w0 w rest) (hn : n ≤ 100000) (hnl : next.length = n) (hx0 : x0 < n) (hL : L ≤ 100000) (hlim : F.rows.length ≤ lim) (hlim2 : lim ≤ 1000000)
  (hsh : Shape (L : Int) s0 next fin) (hen : bk Tryz.prog S = true) (hen2 : bk Tryz.prog S2 = true)
  (hstep : ∀ (y c : Nat) (w : World),y < n → c < L → Hold base w0 w rest → Calls Tryz.prog S ([Vi y,Vi c] ++ caps.toList).toArray w fun e w'=>∃ z : Nat,z < n ∧ e = .returned (Vi z) ∧ tgtM next (y : Int) c = cd nb z ∧ RowKit.Below w.heap.size w w')
  (hend : ∀ (y : Nat) (w : World),y < n → Hold base w0 w rest → Calls Tryz.prog S2 ([Vi y] ++ caps2.toList).toArray w fun e w'=>e = .returned (.bool (fin.getD y false)) ∧ RowKit.Below w.heap.size w w')
  (hF : d7 (cd nb x0) next L = F) :
  Calls Tryz.prog 58 #[Vi x0,Vi nb,Vi L,Vi lim,.func (.func S) #[] caps,.func (.func S2) #[] caps2] w fun e w'=>∃ (vn ve : Value) (vs : List Value),e = .returned (.tuple #[.agg #[Vi L,Vi (if F.rows.length = 0 then -1 else 0 : Int),vn,ve],Vi 0]) ∧ Found (cd nb x0) next L F ∧ vs.length = F.rows.length ∧ (∀ l ∈ F.rows.map (bj F.place next L),∀ x ∈ l,I64 x) ∧ Hold base w0 w' (oB ve (bt F fin) :: (dk vn vs (F.rows.map (bj F.place next L)) ++ rest)):=by
 refine Sym.c8 (args:=[Vi x0,Vi nb,Vi L,Vi lim,.func (.func S) #[] caps,.func (.func S2) #[] caps2]) Tryz.func58 rfl rfl rfl (fun a0 hS0=>?_);refine wp_seq (bg (α:=Nat) (fun rc=>[(0,Vi x0),(1,Vi nb),(2,Vi L),(3,Vi lim),(4,.func (.func S) #[] caps),(5,.func (.func S2) #[] caps2),(12,Vp rc)]) (fun rc w'=>Hold base w0 w' (oX 25 rc 4 [Vi 0,Vi 0,.slice none 0 0,.slice none 0 0] :: rest)) af hS0 ?_ (fun rc a w1 hS h=>?_))
 ·refine zB rfl ?_
  repeat refine zX rfl ?_
  exact aj ⟨_,⟨rfl,rfl,rfl,rfl,rfl,rfl,rfl,trivial⟩,h.box (T:=25) (k:=4) #[Vi 0,Vi 0,.slice none 0 0,.slice none 0 0] rfl⟩
 have hc0:=ul (nb:=nb) hx0
 have hFo : Found (cd nb x0) next L F:=by
  rw [← hF]; exact io hsh hc0.1 (by rw [hnl]; exact hc0.2)
 have hr : ∀ r : Int,0 ≤ r → r < n → ∀ c,c < L → -1 ≤ tgtM next r c ∧ tgtM next r c < n:=fun r h1 h2 c hc=>by
  have:=dm hsh r h1 (by omega) c (by rw [Int.toNat_natCast]; exact hc)
  rwa [hnl] at this
 refine wp_seq (bg (α:=Nat) (fun fb=>[(0,Vi x0),(1,Vi nb),(2,Vi L),(3,Vi lim),(4,.func (.func S) #[] caps),(5,.func (.func S2) #[] caps2),(12,Vp rc),(14,Vp fb)]) (fun fb w'=>li base w0 w' fb nb (FS.none n) (oX 25 rc 4 [Vi 0,Vi 0,.slice none 0 0,.slice none 0 0] :: rest)) af hS ?_ (fun fb a w2 hS h=>?_))
 ·repeat refine zX rfl ?_
  refine zF rfl (xi) (ug h nb n) ?_;rintro e w2 ⟨fb,rfl,h2⟩;refine ⟨_,rfl,?_⟩
  repeat refine zX rfl ?_
  exact aj ⟨fb,⟨rfl,rfl,rfl,rfl,rfl,rfl,rfl,rfl,trivial⟩,h2⟩
 refine wp_seq (bg (α:=Value × List Value) (fun v=>[(0,Vi x0),(1,Vi nb),(2,Vi L),(3,Vi lim),(4,.func (.func S) #[] caps),(5,.func (.func S2) #[] caps2),(12,Vp rc),(14,Vp fb),(15,v.1),(16,.bool true)]) (fun v w'=>v.2.length = F.rows.length ∧ FIn n F ∧ li base w0 w' fb nb F (dk v.1 v.2 (F.rows.map (bj F.place next L)) ++ (oX 25 rc 4 [Vi 0,Vi 0,.slice none 0 0,.slice none 0 0] :: rest))) af hS ?_ (fun v a w3 hS h=>?_))
 ·repeat refine zX rfl ?_
  refine zF rfl (adz) (aad h hn hnl hx0 hL hlim hlim2 hr hen (fun y c w hy hc hw=>hstep y c w hy hc hw.tail) hF) ?_;rintro e w3 ⟨vn,vs,rfl,k1,k2,k3⟩;refine ⟨_,rfl,?_⟩
  repeat refine zX rfl ?_
  exact aj ⟨(vn,vs),⟨rfl,rfl,rfl,rfl,rfl,rfl,rfl,rfl,rfl,rfl,trivial⟩,k1,k2,k3⟩
 obtain ⟨vn,vs⟩:=v;simp only at hS h;obtain ⟨hvs,hIF,h⟩:=h
 obtain ⟨gn,cn,hvn⟩ : ∃ g c,vn = .slice g vs.length c:=by
  obtain ⟨mb,vf,xs,h,-,-,-⟩:=h;obtain ⟨g,c,e,-⟩:=h.r.any (i:=2) (v:=vn) (e:=34) (s:=1) (n:=vs.length) (xs:=vs) rfl;exact ⟨g,c,e⟩
 refine wp_seq (wp_seq (ai [(0,Vi x0),(1,Vi nb),(2,Vi L),(3,Vi lim),(4,.func (.func S) #[] caps),(5,.func (.func S2) #[] caps2),(12,Vp rc),(14,Vp fb),(15,vn),(32,.bool false)] (· = w3) af hS ?_ (fun a w4 hS hw=>?_)))
 ·repeat refine zX rfl ?_
  exact aj ⟨⟨rfl,rfl,rfl,rfl,rfl,rfl,rfl,rfl,rfl,rfl,trivial⟩,rfl⟩
 subst hw;refine cond hS rfl (fun hT=>by cases hT) (fun _=>wp_skip ?_);obtain ⟨fn1,fn2⟩:=yt hFo;refine wp_seq (bg (α:=Nat) (fun mi=>[(5,.func (.func S2) #[] caps2),(12,Vp rc),(14,Vp fb),(17,Vp mi)]) (fun mi w'=>∃ (mb : Nat) (vf : Value) (xs : List Nat),Hold base w0 w' (oB (.slice none 0 0) [] :: oX 25 mi 4 [Vi L,Vi (if F.rows.length = 0 then -1 else 0 : Int),vn,.slice none 0 0] :: oX 25 rc 4 [Vi 0,Vi 0,.slice none 0 0,.slice none 0 0] :: g7 137 fb [natV nb] mb vf :: oN vf xs :: (dk vn vs (F.rows.map (bj F.place next L)) ++ rest)) ∧ F.rows = xs.map Int.ofNat) af hS ?_ (fun mi a w5 hS h=>?_))
 ·subst hvn;have hnum:=n5 h hIF hn hx0;rw [fn1,fn2] at hnum
  repeat refine zX rfl ?_
  refine zF rfl (qr) (hnum) ?_;rintro e w5 ⟨rfl,mb,vf,xs,h,hrs,hm,hb⟩;refine ⟨_,rfl,?_⟩
  repeat refine zX rfl ?_
  refine zB rfl ?_;refine cj rfl rfl (anI rfl (anI rfl (anI (b0 (OwnB.new w5 [Vi 0,Vi 0,.slice none 0 0,.slice none 0 0] 25)) ?_)));have h2:=(h.var (T:=25) (k:=4) [Vi 0,Vi 0,.slice none 0 0,.slice none 0 0] [Vi L,Vi (if F.rows.length = 0 then -1 else 0 : Int),.slice gn vs.length cn,.slice none 0 0] rfl rfl).1;refine aj ⟨_,⟨rfl,rfl,rfl,rfl,trivial⟩,mb,vf,xs,?_,hrs⟩;refine (h2.nil 4 1).perm (.cons _ (.cons _ ?_));exact List.perm_middle (l₁:=g7 137 fb [natV nb] mb vf :: oN vf xs :: dk (.slice gn vs.length cn) vs (F.rows.map (bj F.place next L))) (l₂:=rest)
 obtain ⟨mb,vf,xs,h,hrs⟩:=h;have hxl : F.rows.length = xs.length:=by rw [hrs,List.length_map]
 have hcap:=hIF.ok.cap;obtain ⟨TL,hTL⟩ : ∃ TL,TL = oX 25 rc 4 [Vi 0,Vi 0,.slice none 0 0,.slice none 0 0] :: g7 137 fb [natV nb] mb vf :: oN vf xs :: (dk vn vs (F.rows.map (bj F.place next L)) ++ rest):=⟨_,rfl⟩;refine wp_seq (wp_seq (ai [(5,.func (.func S2) #[] caps2),(12,Vp rc),(17,Vp mi),(43,vf),(44,Vi xs.length),(45,Vi (0 : Nat))] (· = w5) af hS ?_ (fun a w' hS hw=>?_)))
 ·obtain ⟨gf,cf,rfl,-,-⟩:=h.r.any (i:=4) rfl
  repeat refine zX rfl ?_
  refine zL rfl (h.r.xcell (i:=3) rfl (j:=2) rfl) ?_
  repeat refine zX rfl ?_
  exact aj ⟨⟨rfl,rfl,rfl,rfl,rfl,rfl,trivial⟩,rfl⟩
 subst hw;rw [← hTL] at h;refine wp_block (cz hS (fun γ E w'=>∃ (k : Nat) (ve : Value),k ≤ xs.length ∧ γ = xs.length - k ∧ E = [(5,.func (.func S2) #[] caps2),(12,Vp rc),(17,Vp mi),(43,vf),(44,Vi xs.length),(45,Vi k)] ∧ Hold base w0 w' (oB ve ((F.rows.take k).map fun r=>fin.getD r.toNat false) :: oX 25 mi 4 [Vi L,Vi (if F.rows.length = 0 then -1 else 0 : Int),vn,ve] :: TL)) xs.length ⟨0,.slice none 0 0,by omega,by omega,rfl,h⟩ ?_);clear hS h;rintro γ E w6 a ⟨k,ve,hk,rfl,rfl,h⟩ hS;refine wp_seq (ai [(5,.func (.func S2) #[] caps2),(12,Vp rc),(17,Vp mi),(43,vf),(44,Vi xs.length),(45,Vi k),(46,.bool (decide (k < xs.length)))] (· = w6) af hS ?_ (fun a w7 hS hw=>?_))
 ·repeat refine zX rfl ?_
  refine zC rfl (co _ _) ?_
  repeat refine zX rfl ?_
  exact aj ⟨⟨rfl,rfl,rfl,rfl,rfl,rfl,rfl,trivial⟩,rfl⟩
 subst hw;refine wp_seq (cond hS rfl (fun hT=>wp_skip ?_) (fun hF'=>?_))
 rotate_left
 ·have hkk : k = F.rows.length:=by have:=of_decide_eq_false hF'; omega
  rw [hkk,List.take_length] at h;refine wp_exit ?_
  repeat first|refine bf ?_|refine ba ?_|refine az rfl ?_
  subst hTL;refine wp_seq (ai [(12,Vp rc),(13,Vi 0)] (fun w'=>Hold base w0 w' ((oB ve (bt F fin) :: oX 25 mi 4 [Vi L,Vi (if F.rows.length = 0 then -1 else 0 : Int),vn,ve] :: oX 25 rc 4 [Vi L,Vi (if F.rows.length = 0 then -1 else 0 : Int),vn,ve] :: g7 137 fb [natV nb] mb vf :: [oN vf xs]) ++ (dk vn vs (F.rows.map (bj F.place next L)) ++ rest))) af hS ?_ (fun a w8 hS h=>?_))
  ·refine zA ([Vi L,Vi (if F.rows.length = 0 then -1 else 0 : Int),vn,ve]) rfl rfl (⟨h.r.xcell (i:=1) rfl (j:=0) rfl,h.r.xcell (i:=1) rfl (j:=1) rfl,h.r.xcell (i:=1) rfl (j:=2) rfl,h.r.xcell (i:=1) rfl (j:=3) rfl,trivial⟩) ?_;obtain ⟨ge,ce,hve2,-⟩:=h.r.any (i:=0) (v:=ve) (e:=4) (s:=1) (n:=(bt F fin).length) (xs:=ip (bt F fin)) rfl;have hone : iz (Value.agg #[Vi L,Vi (if F.rows.length = 0 then -1 else 0 : Int),vn,ve]).cells.toList = true:=by rw [hvn,hve2]; rfl
   refine cj rfl rfl (anI rfl (anI hone (anI (me h.r (i:=2) rfl) ?_)))
   repeat refine zX rfl ?_
   exact aj ⟨⟨rfl,rfl,trivial⟩,h.xput4 (i:=2) rfl _ _ _ _⟩
  have hI64 : ∀ l ∈ F.rows.map (bj F.place next L),∀ x ∈ l,I64 x:=fun l hl x hx=>by
   obtain ⟨r,hr1,rfl⟩:=List.mem_map.1 hl;obtain ⟨c,hc,rfl⟩:=List.mem_map.1 hx;obtain ⟨q1,q2,-⟩:=hIF.ok.r r hr1
   have:=afu hIF (hr r q1 q2 c (List.mem_range.1 hc)).2
   unfold I64; omega
  have hfin:=(((h.erase 1).erase 1).erase 1).erase 1;refine wp_ret ?_
  repeat first|refine a8 ?_|refine am ?_
  refine p9 af hS rfl rfl rfl rfl rfl (o:=0) (vs:=[Vi L,Vi (if F.rows.length = 0 then -1 else 0 : Int),vn,ve]) ⟨h.r.xcell (i:=2) rfl (j:=0) rfl,h.r.xcell (i:=2) rfl (j:=1) rfl,h.r.xcell (i:=2) rfl (j:=2) rfl,h.r.xcell (i:=2) rfl (j:=3) rfl,trivial⟩ rfl ⟨vn,ve,vs,rfl,hFo,hvs,hI64,hfin⟩
 have hkk : k < xs.length:=of_decide_eq_true hT;have hkr : k < F.rows.length:=by omega
 obtain ⟨y,hye⟩ : ∃ y,y = gt xs k:=⟨_,rfl⟩
 have hyr : ((y : Nat) : Int) = F.rows[k]:=by
  rw [hye];simp only [hrs,List.getElem_map];simp [gt,List.getD_eq_getElem?_getD,hkk]
 have hyn : y < n:=by
  have:=hIF.ok.r _ (List.getElem_mem hkr)
  omega
 refine wp_seq (wp_block (wp_seq (ai [(5,.func (.func S2) #[] caps2),(12,Vp rc),(17,Vp mi),(43,vf),(44,Vi xs.length),(45,Vi k),(19,Vi y)] (· = w7) af hS ?_ (fun a w8 hS hw=>?_))))
 ·subst hTL;obtain ⟨gf,cf,rfl,-⟩:=h.r.nilOr (i:=4) rfl (by omega);have hcell:=h.r.cN (i:=4) rfl hkk;rw [← hye] at hcell
  repeat refine zX rfl ?_
  refine zI rfl (rfl) (hkk) ?_;refine zL rfl (hcell) ?_
  repeat refine zX rfl ?_
  exact aj ⟨⟨rfl,rfl,rfl,rfl,rfl,rfl,rfl,trivial⟩,rfl⟩
 subst hw
 refine ajx (b:=fin.getD y false) h (by simp; omega) hen2 (fun w' hw'=>hend y w' hyn (by
  have:=h.below hw'
  subst hTL;exact (this.drop (A:=oB ve ((F.rows.take k).map fun r=>fin.getD r.toNat false) :: oX 25 mi 4 [Vi L,Vi (if F.rows.length = 0 then -1 else 0 : Int),vn,ve] :: oX 25 rc 4 [Vi 0,Vi 0,.slice none 0 0,.slice none 0 0] :: g7 137 fb [natV nb] mb vf :: oN vf xs :: dk vn vs (F.rows.map (bj F.place next L)))))) (by rfl) hS (fun ve' a w9 hS h=>?_)
 refine ay ?_;refine ai [(5,.func (.func S2) #[] caps2),(12,Vp rc),(17,Vp mi),(43,vf),(44,Vi xs.length),(45,Vi (k + 1 : Nat))] (· = w9) af hS ?_ (fun a w10 hS hw=>?_)
 ·repeat refine zX rfl ?_
  refine zN rfl (bm k 1 (by omega)) ?_
  repeat refine zX rfl ?_
  exact aj ⟨⟨rfl,rfl,rfl,rfl,rfl,rfl,trivial⟩,rfl⟩
 subst hw;refine ⟨xs.length - (k + 1),_,by omega,⟨k + 1,ve',by omega,rfl,rfl,?_⟩,hS⟩;rw [List.take_succ_eq_append_getElem hkr,List.map_append,List.map_singleton,← hyr,Int.toNat_natCast];exact h
end
end
section
def repB (p : Pt) (b : Nat) : Nat:=gt p.st (gb p.bs b).first
def quoN (L : Nat) (nx : List Nat) (p : Pt) (nb : Nat) : List (List Int):=(List.range p.bs.length).map fun b=>(List.range L).map fun c=>cd nb (gt p.bl (dlG nx L (repB p b) c))
def quoF (en : List Bool) (p : Pt) : List Bool:=(List.range p.bs.length).map fun b=>enG en (repB p b)
section
variable {L N nb tt : Nat} {nx : List Nat} {en : List Bool} {p : Pt} {lev : Nat → Nat → Nat} {R : Nat}
theorem ld (h : RefS L N nx en p lev R) {b : Nat} (hb : b < p.bs.length) : repB p b < N ∧ gt p.bl (repB p b) = b ∧ (gb p.bs b).first < N:=by
 obtain ⟨h1,-,h3⟩:=h.pi.bd b hb;have h4 : (gb p.bs b).first < N:=by omega
 exact ⟨(h.pi.sp _ h4).1,h.pi.own b hb _ (Nat.le_refl _) (by omega),h4⟩
theorem afm (h : RefS L N nx en p lev R) {b : Nat} (hb : b < p.bs.length) : (quoN L nx p nb).getD b [] = (List.range L).map fun c=>cd nb (gt p.bl (dlG nx L (repB p b) c)):=by
 have:=h.pos
 simp [quoN,List.getD_eq_getElem?_getD,hb]
theorem aaj (h : RefS L N nx en p lev R) {b c : Nat} (hb : b < p.bs.length) (hc : c < L) : tgtM (quoN L nx p nb) (b : Int) c = cd nb (gt p.bl (dlG nx L (repB p b) c)):=by
 rw [tgtM,Int.toNat_natCast,afm h hb];simp [List.getD_eq_getElem?_getD,hc]
theorem mm (h : RefS L N nx en p lev R) {s t : Nat} (hs : s < N) (ht : t < N) : gt p.bl s = gt p.bl t ↔ ∀ w,Word L w → enG en (rnG (dlG nx L) s w) = enG en (rnG (dlG nx L) t w):=by
 rw [h.cur s hs,h.cur t ht]; exact h.tells s t hs ht
theorem afn (h : RefS L N nx en p lev R) {b : Nat} (hb : b < p.bs.length) : (quoF en p).getD b false = enG en (repB p b):=by
 have:=h.pos
 simp [quoF,List.getD_eq_getElem?_getD,hb]
theorem afp (h : RefS L N nx en p lev R) (hg : Gr N L nx en) (htt : tt < N) (hnb : nb = gt p.bl tt) (dead : ∀ w,Word L w → enG en (rnG (dlG nx L) tt w) = false) :
  ∀ (w : List Nat) (x : Nat),Word L w → x < N → accM (quoN L nx p nb) (quoF en p) (cd nb (gt p.bl x)) w = enG en (rnG (dlG nx L) x w):=by
 intro w
 induction w with
 | nil=>
   intro x hw hx
   by_cases e : gt p.bl x = nb
   ·rw [cd,if_pos e,di _ _ _ (by omega),(mm h hx htt).1 (by rw [e,hnb]) [] hw,dead [] hw]
   ·have hb:=h.pi.ib x hx;obtain ⟨r1,r2,-⟩:=ld h hb;rw [cd,if_neg e,fu,fo,decide_eq_true (by omega),Bool.true_and,Int.toNat_natCast,afn h hb];exact (mm h r1 hx).1 r2 [] hw
 | cons c w ih=>
   intro x hw hx
   by_cases e : gt p.bl x = nb
   ·rw [cd,if_pos e,di _ _ _ (by omega),(mm h hx htt).1 (by rw [e,hnb]) _ hw,dead _ hw]
   ·have hb:=h.pi.ib x hx;obtain ⟨r1,r2,-⟩:=ld h hb;have hd:=hg.lt (repB p (gt p.bl x)) c r1 hw.head;rw [cd,if_neg e,ef,dv (by omega),aaj h hb hw.head,ih _ hw.tail hd];exact (mm h r1 hx).1 r2 (c :: w) hw
theorem sa (h : RefS L N nx en p lev R) (hg : Gr N L nx en) : Shape (L : Int) 0 (quoN L nx p nb) (quoF en p):=by
 have hK : 0 < p.bs.length:=by have:=h.pi.ib 0 hg.pos; omega
 refine ⟨by omega,by simp [quoN,quoF],by omega,by simp only [quoN,List.length_map,List.length_range]; omega,fun _=>by omega,fun k hk=>?_⟩;have hk' : k < p.bs.length:=by simpa [quoN] using hk
 simp only [quoN,List.getElem_map,List.getElem_range,List.length_map,List.length_range];refine ⟨trivial,fun j hj=>?_⟩;obtain ⟨r1,-⟩:=ld h hk';exact ul (h.pi.ib _ (hg.lt _ j r1 (by simpa using hj)))
theorem afd {next : List (List Int)} {z : Int} (hz : ∀ r c,tgtM next r c ≠ z) : ∀ (g i : Nat) (s : FS),z ∉ s.rows → z ∉ (dg next L g i s).rows
 | 0,_,_,h=>h
 | g + 1,i,s,h=>by
   rw [dg]
   split
   ·refine afd hz g (i + 1) _ ?_
    have : ∀ c,z ∉ (FS.row next (s.rows.getD i 0) c s).rows:=fun c=>by
     induction c with
     | zero=>exact h
     | succ c ih=>
       rw [FS.row_succ,FS.step_num,FS.num]
       split
       ·rw [List.mem_append,List.mem_singleton];rintro (k | k)
        ·exact ih k
        ·exact hz _ _ k.symm
       ·exact ih
    exact this L
   ·exact h
theorem cd_ne (nb x : Nat) : cd nb x ≠ (nb : Int):=by
 unfold cd; split <;> omega
theorem afo (h : RefS L N nx en p lev R) (hg : Gr N L nx en) (htt : tt < N) (hnb : nb = gt p.bl tt) (dead : ∀ w,Word L w → enG en (rnG (dlG nx L) tt w) = false) {x : Nat} (hx : x < N) {F : FS} (hF : d7 (cd nb (gt p.bl x)) (quoN L nx p nb) L = F) (hFo : Found (cd nb (gt p.bl x)) (quoN L nx p nb) L F) :
  Canon (L : Int) (if F.rows.length = 0 then -1 else 0) (F.rows.map (bj F.place (quoN L nx p nb) L)) (bt F (quoF en p)) ∧
   ∀ w,Word L w → accM (F.rows.map (bj F.place (quoN L nx p nb) L)) (bt F (quoF en p)) (if F.rows.length = 0 then -1 else 0) w = enG en (rnG (dlG nx L) x w):=by
 have hlen : (quoN L nx p nb).length = p.bs.length:=by simp [quoN]
 have hz : ∀ r c,tgtM (quoN L nx p nb) r c ≠ (nb : Int):=fun r c=>by
  unfold tgtM
  generalize r.toNat = b
  by_cases hb : b < p.bs.length
  ·rw [afm h hb]
   by_cases hc : c < L
   ·simp only [List.getD_eq_getElem?_getD,List.getElem?_map,List.getElem?_range hc,Option.map_some,Option.getD_some];exact cd_ne _ _
   ·rw [List.getD_eq_getElem?_getD,List.getElem?_eq_none (by simp; omega),Option.getD_none]; omega
  ·rw [List.getD_eq_getElem?_getD (l:=quoN L nx p nb),List.getElem?_eq_none (by omega),Option.getD_none];simp
 have hnr : (nb : Int) ∉ F.rows:=by
  have hb:=h.pi.ib x hx
  have:=ul (nb:=nb) hb
  rw [← hF,js (by rw [hlen]; exact this.2) this.1];refine afd hz _ _ _ ?_;rw [FS.num]
  split
  ·simp only [FS.none,List.nil_append,List.mem_singleton];exact (cd_ne _ _).symm
  ·simp [FS.none]
 have hrow : ∀ b : Nat,(b : Int) ∈ F.rows → b < p.bs.length ∧ b ≠ nb ∧ repB p b < N ∧ ∀ w,Word L w → accM (quoN L nx p nb) (quoF en p) b w = enG en (rnG (dlG nx L) (repB p b) w):=fun b hb=>by
  obtain ⟨-,b2,-⟩:=hFo.inn.ok.r _ hb;have hbK : b < p.bs.length:=by omega
  have hne : b ≠ nb:=fun e=>hnr (e ▸ hb);obtain ⟨r1,r2,-⟩:=ld h hbK;refine ⟨hbK,hne,r1,fun w hw=>?_⟩
  have:=afp h hg htt hnb dead w (repB p b) hw r1
  rwa [r2,cd,if_neg hne] at this
 have hc:=adt (L:=(L : Int)) (sa (nb:=nb) h hg) (by rw [Int.toNat_natCast]; exact hFo) (fun b hb=>by
  obtain ⟨h1,h2,h3,h4⟩:=hrow b hb;rw [Int.toNat_natCast];have hnt : ¬ gt p.bl (repB p b) = gt p.bl tt:=by rw [(ld h h1).2.1,← hnb]; exact h2
  rw [mm h h3 htt] at hnt;obtain ⟨w,hw⟩:=Classical.not_forall.1 hnt;obtain ⟨hw1,hw2⟩:=Classical.not_imp.1 hw;refine ⟨w,hw1,?_⟩;rw [h4 w hw1];rw [dead w hw1] at hw2;exact (Bool.not_eq_false _).mp hw2) (fun b b' hb hb' ha=>by
  obtain ⟨h1,h2,h3,h4⟩:=hrow b hb;obtain ⟨k1,k2,k3,k4⟩:=hrow b' hb';rw [Int.toNat_natCast] at ha
  have:=(mm h h3 k3).2 (fun w hw=>by rw [← h4 w hw,← k4 w hw]; exact ha w hw)
  rwa [(ld h h1).2.1,(ld h k1).2.1] at this)
 rw [Int.toNat_natCast] at hc;refine ⟨hc.1,fun w hw=>?_⟩;rw [hc.2 w hw];exact afp h hg htt hnb dead w x hw hx
end
end
end Go.Proofs.YtndldmojkpjgoaaGreatDoor
