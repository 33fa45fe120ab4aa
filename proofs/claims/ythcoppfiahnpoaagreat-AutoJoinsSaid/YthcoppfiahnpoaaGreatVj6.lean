/- AutoJoins holds of the program as it landed: Both and Either give, for any two machines of at most 30 states and 8 letters, what the product of the two gives, made small. -/
import Derived.Test.YthcoppfiahnpoaaGreatVj5
set_option maxRecDepth 100000
namespace Go.Proofs.YthcoppfiahnpoaaGreat
open Go Sym
theorem en_product : enters Tryz.prog 49 = true:=by kernel_rfl
section
variable {base : Nat} {w0 w : World} {l : List Ow}
theorem pr_x4 (h : Rows base w l) {i T b : Nat} {v0 v1 v2 v3 : Value} (hi : l[i]? = some (oX T b 4 [v0,v1,v2,v3])) : cellsAt w.cell? b 0 [v0,v1,v2,v3]:=⟨h.xcell hi (j:=0) rfl,h.xcell hi (j:=1) rfl,h.xcell hi (j:=2) rfl,h.xcell hi (j:=3) rfl,trivial⟩
theorem shape_row' {L s : Int} {nn : List (List Int)} {ff : List Bool} {x : Int} {c : Nat} (hs : Shape L s nn ff) (hx2 : x < nn.length) (hc : (c : Int) < L) : 0 ≤ x → (0 : Int) ≤ (c : Int) ∧ ((c : Int) < (nn.getD x.toNat []).length):=fun h0=>by
 obtain ⟨y,rfl⟩ : ∃ y : Nat,x = y:=⟨x.toNat,by omega⟩
 have hy : y < nn.length:=by omega
 obtain ⟨g1,g2⟩:=hs.rows y hy
 have e1 : nn.getD y [] = nn[y]:=by simp [List.getD_eq_getElem?_getD,hy]
 rw [Int.toNat_natCast,e1]
 omega
end
set_option maxHeartbeats 2000000 in
theorem prod_r10 {both : Bool} {Ln R bw b0 b1 O pb i g c : Nat} {s1 s2 p q : Int} {vn1 ve1 vn2 ve2 vp vl vf : Value} {n1 n2 : List (List Int)} {f1 f2 : List Bool} {ps : List (Int × Int)} {w0 w : World} {tl : List Ow} (h : Hold w0.heap.size w0 w (oI (Vs g Ln Ln) (rowZ Ln c (fun d=>atGo (step2 n1 n2 (p,q) d) ps 0)) :: oX 48 pb 2 [Vi p,Vi q] :: oX 25 R 4 [Vi 0,Vi 0,.slice none 0 0,.slice none 0 0] :: oX 85 bw 3 [vp,vl,vf] :: oX 25 b1 4 [Vi Ln,Vi s2,vn2,ve2] :: oX 25 b0 4 [Vi Ln,Vi s1,vn1,ve1] :: tl))
  (hm1 : Ma w0 Ln s1 n1 f1 vn1 ve1) (hm2 : Ma w0 Ln s2 n2 f2 vn2 ve2) (hs1 : Shape Ln s1 n1 f1) (hs2 : Shape Ln s2 n2 f2) (hp0 : SlP w0 vp ps) (hc : c < Ln) (hp : p < n1.length) (hq' : q < n2.length)
  {Q : Exit → Act → World → Prop} {a : Act} {ops : Array Oper} {id : Nat} (hops : Sym.regionOf Tryz.f49.body 10 = some (id,ops)) (hS : St Tryz.f49.ntmps a [(3,.bool both),(4,Vp b0),(5,Vp b1),(6,Vp bw),(8,Vp R),(9,Vp O),(10,Vi i),(11,Vp pb),(12,Vs g Ln Ln),(13,Vi c)])
  (hq : ∀ a' w',St Tryz.f49.ntmps a' [(3,.bool both),(4,Vp b0),(5,Vp b1),(6,Vp bw),(8,Vp R),(9,Vp O),(10,Vi i),(11,Vp pb),(12,Vs g Ln Ln),(13,Vi c)] → Hold w0.heap.size w0 w' (oI (Vs g Ln Ln) (rowZ Ln (c + 1) (fun d=>atGo (step2 n1 n2 (p,q) d) ps 0)) :: oX 48 pb 2 [Vi p,Vi q] :: oX 25 R 4 [Vi 0,Vi 0,.slice none 0 0,.slice none 0 0] :: oX 85 bw 3 [vp,vl,vf] :: oX 25 b1 4 [Vi Ln,Vi s2,vn2,ve2] :: oX 25 b0 4 [Vi Ln,Vi s1,vn1,ve1] :: tl) → Q .normal a' w') : (Code.region id ops true).wp Tryz.prog Q a w:=by
 cases hops
 refine any_cut 17 [(3,.bool both),(4,Vp b0),(5,Vp b1),(6,Vp bw),(8,Vp R),(9,Vp O),(10,Vi i),(11,Vp pb),(12,Vs g Ln Ln),(13,Vi c)] (fun w'=>Hold w0.heap.size w0 w' (oI (Vs g Ln Ln) (rowZ Ln (c + 1) (fun d=>atGo (step2 n1 n2 (p,q) d) ps 0)) :: oX 48 pb 2 [Vi p,Vi q] :: oX 25 R 4 [Vi 0,Vi 0,.slice none 0 0,.slice none 0 0] :: oX 85 bw 3 [vp,vl,vf] :: oX 25 b1 4 [Vi Ln,Vi s2,vn2,ve2] :: oX 25 b0 4 [Vi Ln,Vi s1,vn1,ve1] :: tl)) mixed hS ?_ hq
 have hy : RowKit.Below w.drew.heap.size w.drew w.drew:=RowKit.Below.refl _ _
 have hD:=h.drew
 have hzl : c < (rowZ Ln c (fun d=>atGo (step2 n1 n2 (p,q) d) ps 0)).length:=by rw [rowZ_len]; exact hc
 refine yT 0 tab_ok rfl (by kernel_rfl) hy rfl (rfl) ?_
 refine yT 1 tab_ok rfl (by kernel_rfl) hy rfl (rfl) ?_
 refine yT 2 tab_ok rfl (by kernel_rfl) hy rfl (rfl) ?_
 refine yL 3 tab_ok rfl (by kernel_rfl) hy rfl rfl (hD.r.xcell (i:=3) rfl (j:=0) rfl) ?_
 refine yT 4 tab_ok rfl (by kernel_rfl) hy rfl (Exists.intro ([Vi Ln,Vi s1,vn1,ve1]) (And.intro rfl (And.intro (pr_x4 hD.r (i:=5) rfl) rfl))) ?_
 refine yT 5 tab_ok rfl (by kernel_rfl) hy rfl (rfl) ?_
 refine yL 6 tab_ok rfl (by kernel_rfl) hy rfl rfl (hD.r.xcell (i:=1) rfl (j:=0) rfl) ?_
 refine yT 7 tab_ok rfl (by kernel_rfl) hy rfl (rfl) ?_
 refine yT 9 tab_ok rfl (by kernel_rfl) hy rfl (Exists.intro ([Vi Ln,Vi s2,vn2,ve2]) (And.intro rfl (And.intro (pr_x4 hD.r (i:=4) rfl) rfl))) ?_
 refine yT 10 tab_ok rfl (by kernel_rfl) hy rfl (rfl) ?_
 refine yL 11 tab_ok rfl (by kernel_rfl) hy rfl rfl (hD.r.xcell (i:=1) rfl (j:=1) rfl) ?_
 refine yT 12 tab_ok rfl (by kernel_rfl) hy rfl (rfl) ?_
 refine y_one 8 (by kernel_rfl) (y_op 8 tab_ok rfl rfl rfl rfl ?_)
 refine And.intro en_step ((step_any Ln s1 vn1 ve1 n1 p c _ (hm1.keep hD.b).n hp (shape_row' hs1 hp (by omega))).mono ?_)
 rintro e w1 ⟨rfl,k1⟩
 refine ⟨_,rfl,?_⟩
 refine And.intro (.inr k1) ?_
 have h1:=hD.below k1
 refine y_one 13 (by kernel_rfl) (y_op 13 tab_ok rfl rfl rfl rfl ?_)
 refine And.intro en_step ((step_any Ln s2 vn2 ve2 n2 q c _ (hm2.keep h1.b).n hq' (shape_row' hs2 hq' (by omega))).mono ?_)
 rintro e w2 ⟨rfl,k2⟩
 refine ⟨_,rfl,?_⟩
 have k3:=below_trans k1 k2
 refine And.intro (.inr k3) ?_
 have h2:=h1.below k2
 refine yT 14 tab_ok rfl (by kernel_rfl) k3 rfl (rfl) ?_
 refine y_one 15 (by kernel_rfl) (y_op 15 tab_ok rfl rfl rfl rfl ?_)
 refine And.intro en_at ((at_any vp ps (stepM n1 p c) (stepM n2 q c) _ (hp0.keep h2.b)).mono ?_)
 rintro e w3 ⟨rfl,k4⟩
 refine ⟨_,rfl,?_⟩
 have k5:=below_trans k3 k4
 refine And.intro (.inr k5) ?_
 have h3:=h2.below k4
 refine yT 16 tab_ok rfl (by kernel_rfl) k5 rfl (Exists.intro _ (And.intro (rfl) (And.intro (hc) rfl))) ?_
 refine y_one 17 (by kernel_rfl) (y_op0 17 tab_ok rfl rfl rfl ?_)
 refine And.intro rfl (And.intro rfl (And.intro ⟨_,h3.r.cellI (i:=0) rfl hzl⟩ (And.intro (h3.r.free (i:=0) rfl _) (And.intro (.inl (by kernel_rfl)) ?_))))
 have h4:=h3.storeI (i:=0) rfl c (atGo (step2 n1 n2 (p,q) c) ps 0)
 rw [rowZ_set (fun d=>atGo (step2 n1 n2 (p,q) d) ps 0) hc] at h4
 exact y_end (by kernel_rfl) ⟨rfl,rfl,rfl,rfl,rfl,rfl,rfl,rfl,rfl,rfl,trivial⟩ h4
theorem prod_next_row {n1 n2 : List (List Int)} {L : Nat} {ps : List (Int × Int)} {p : Int × Int} : (List.range L).map (fun d=>atGo (step2 n1 n2 p d) ps 0) = (List.range L).map fun c=>let q:=step2 n1 n2 p c; let k:=atGo q ps 0; if k < 0 then -1 else k:=by
 refine List.map_congr_left fun c _=>?_
 have:=atGo_low (step2 n1 n2 p c) ps 0
 dsimp only
 split
 ·omega
 ·rfl
set_option maxHeartbeats 4000000 in
theorem product_any {Ln : Nat} {s1 s2 : Int} {vn1 ve1 vn2 ve2 vp vl vf : Value} {n1 n2 : List (List Int)} {f1 f2 : List Bool} (ps : List (Int × Int)) (both : Bool) (w : World) (hm1 : Ma w Ln s1 n1 f1 vn1 ve1) (hm2 : Ma w Ln s2 n2 f2 vn2 ve2) (hs1 : Shape Ln s1 n1 f1) (hs2 : Shape Ln s2 n2 f2) (hLn : Ln ≤ 1000) (hp0 : SlP w vp ps) (hps : ps.length ≤ 100000)
  (hr : ∀ x ∈ ps,x.1 < n1.length ∧ x.2 < n2.length) (hvl : ∃ a n c,vl = .slice a n c) (hvf : ∃ a n c,vf = .slice a n c) :
  Calls Tryz.prog 49 #[.agg #[Vi Ln,Vi s1,vn1,ve1],.agg #[Vi Ln,Vi s2,vn2,ve2],.agg #[vp,vl,vf],.bool both] w fun e w'=>∃ (vn' ve' : Value),e = .returned (.agg #[Vi Ln,Vi (if ps.length = 0 then -1 else 0 : Int),vn',ve']) ∧ Ma w' Ln (if ps.length = 0 then -1 else 0 : Int) (prodNext n1 n2 Ln ps) (prodFin f1 f2 both ps) vn' ve' ∧ RowKit.Below w.heap.size w w':=by
 refine Sym.enter (args:=[.agg #[Vi Ln,Vi s1,vn1,ve1],.agg #[Vi Ln,Vi s2,vn2,ve2],.agg #[vp,vl,vf],.bool both]) Tryz.func49 rfl rfl rfl (fun a0 hS0=>?_)
 obtain ⟨gp,bp,op,cp,hvp,hp1,hp2,hp3,hp4⟩:=id hp0
 obtain ⟨al,nl,cl,hvl⟩:=hvl
 obtain ⟨af,nf,cf,hvf⟩:=hvf
 refine wp_seq (seq_cutx (α:=Nat × Nat × Nat × Nat) (fun x=>[(3,.bool both),(4,Vp x.1),(5,Vp x.2.1),(6,Vp x.2.2.1),(8,Vp x.2.2.2)]) (fun x w'=>Hold w.heap.size w w' [oX 25 x.2.2.2 4 [Vi 0,Vi 0,.slice none 0 0,.slice none 0 0],oX 85 x.2.2.1 3 [vp,vl,vf],oX 25 x.2.1 4 [Vi Ln,Vi s2,vn2,ve2],oX 25 x.1 4 [Vi Ln,Vi s1,vn1,ve1]]) tab_ok hS0 ?_ (fun x a w1 hS h=>?_))
 ·refine zB rfl ?_
  refine zB rfl ?_
  refine zB rfl ?_
  refine zB rfl ?_
  repeat first|refine zP rfl ?_|refine zK rfl ?_
  exact o_nil ⟨(_,_,_,_),⟨rfl,rfl,rfl,rfl,rfl,trivial⟩,((((Hold.start w).box (T:=25) (k:=4) #[Vi Ln,Vi s1,vn1,ve1] rfl).box (T:=25) (k:=4) #[Vi Ln,Vi s2,vn2,ve2] rfl).box (T:=85) (k:=3) #[vp,vl,vf] rfl).box (T:=25) (k:=4) #[Vi 0,Vi 0,.slice none 0 0,.slice none 0 0] rfl⟩
 obtain ⟨b0,b1,bw,R⟩:=x
 dsimp only at hS h
 clear hS0
 refine wp_seq (seq_cutx (α:=Nat) (fun O=>[(3,.bool both),(4,Vp b0),(5,Vp b1),(6,Vp bw),(8,Vp R),(9,Vp O)]) (fun O w'=>Hold w.heap.size w w' (oX 25 R 4 [Vi 0,Vi 0,.slice none 0 0,.slice none 0 0] :: oX 85 bw 3 [vp,vl,vf] :: oX 25 b1 4 [Vi Ln,Vi s2,vn2,ve2] :: oX 25 b0 4 [Vi Ln,Vi s1,vn1,ve1] :: [oX 25 O 4 [Vi Ln,Vi (-1),.slice none 0 0,.slice none 0 0]])) tab_ok hS ?_ (fun O a w2 hS h=>?_))
 ·repeat first|refine zP rfl ?_|refine zK rfl ?_
  refine zL rfl (h.r.xcell (i:=3) rfl (j:=0) rfl) ?_
  repeat first|refine zP rfl ?_|refine zK rfl ?_
  refine zB rfl ?_
  have h2:=(h.var (T:=25) (k:=4) [Vi 0,Vi 0,.slice none 0 0,.slice none 0 0] [Vi Ln,Vi (-1),.slice none 0 0,.slice none 0 0] rfl rfl).1
  refine o_step0 rfl rfl (And.intro rfl (And.intro rfl (And.intro (own_cells4 (OwnB.new w1 [Vi 0,Vi 0,.slice none 0 0,.slice none 0 0] 25)) ?_)))
  exact o_nil ⟨_,⟨rfl,rfl,rfl,rfl,rfl,rfl,trivial⟩,h2.perm (List.perm_append_comm (l₁:=[_]))⟩
 refine wp_seq (wp_seq (seq_cut [(3,.bool both),(4,Vp b0),(5,Vp b1),(6,Vp bw),(8,Vp R),(9,Vp O),(10,Vi (0 : Nat))] (· = w2) tab_ok hS ?_ (fun a w3 hS hw=>?_)))
 ·repeat first|refine zP rfl ?_|refine zK rfl ?_
  exact o_nil ⟨⟨rfl,rfl,rfl,rfl,rfl,rfl,rfl,trivial⟩,rfl⟩
 subst hw
 have h0:=((h.nil 35 1).nil 4 1).perm (List.perm_append_comm (l₁:=[_,_]))
 refine wp_block (loop0 hS (fun γ E w'=>∃ (i : Nat) (vN vE : Value) (vs : List Value),i ≤ ps.length ∧ γ = ps.length - i ∧ E = [(3,.bool both),(4,Vp b0),(5,Vp b1),(6,Vp bw),(8,Vp R),(9,Vp O),(10,Vi i)] ∧ vs.length = i ∧ Hold w.heap.size w w' (oX 25 R 4 [Vi 0,Vi 0,.slice none 0 0,.slice none 0 0] :: oX 85 bw 3 [vp,vl,vf] :: oX 25 b1 4 [Vi Ln,Vi s2,vn2,ve2] :: oX 25 b0 4 [Vi Ln,Vi s1,vn1,ve1] :: oX 25 O 4 [Vi Ln,Vi (if i = 0 then -1 else 0 : Int),vN,vE] :: oB vE (prodFin f1 f2 both (ps.take i)) :: nextR vN vs ((ps.take i).map fun p=>(List.range Ln).map fun d=>atGo (step2 n1 n2 p d) ps 0))) ps.length
  ⟨0,.slice none 0 0,.slice none 0 0,[],Nat.zero_le _,rfl,rfl,rfl,h0⟩ ?_)
 clear hS h h0
 rintro γ E w4 a ⟨i,vN,vE,vs,hi,rfl,rfl,hvs,h⟩ hS
 refine wp_seq (wp_seq (seq_cut [(3,.bool both),(4,Vp b0),(5,Vp b1),(6,Vp bw),(8,Vp R),(9,Vp O),(10,Vi i),(23,.bool (decide (i < ps.length)))] (· = w4) tab_ok hS ?_ (fun a w5 hS hw=>?_)))
 ·subst hvp
  repeat first|refine zP rfl ?_|refine zK rfl ?_
  refine zL rfl (h.r.xcell (i:=1) rfl (j:=0) rfl) ?_
  repeat first|refine zP rfl ?_|refine zK rfl ?_
  refine zC rfl (lt_nat _ _) ?_
  exact o_nil ⟨⟨rfl,rfl,rfl,rfl,rfl,rfl,rfl,rfl,trivial⟩,rfl⟩
 subst hw
 refine cond hS rfl (fun hT=>wp_skip ?_) (fun hF=>?_)
 case refine_2=>
  have hie : i = ps.length:=by have:=of_decide_eq_false hF; omega
  subst hie
  refine wp_exit ?_
  repeat (first | refine then_exit ?_ | refine block_exit ?_ | refine block_other rfl ?_)
  rw [List.take_length] at h
  have hlen : ((prodNext n1 n2 Ln ps)).length = ps.length:=by simp [prodNext]
  have hrows : (ps.map fun p=>(List.range Ln).map fun d=>atGo (step2 n1 n2 p d) ps 0) = prodNext n1 n2 Ln ps:=List.map_congr_left fun x _=>prod_next_row
  rw [hrows] at h
  refine wp_seq (seq_cut [(8,Vp R)] (fun w'=>Hold w.heap.size w w' (oX 25 R 4 [Vi Ln,Vi (if ps.length = 0 then -1 else 0 : Int),vN,vE] :: oX 85 bw 3 [vp,vl,vf] :: oX 25 b1 4 [Vi Ln,Vi s2,vn2,ve2] :: oX 25 b0 4 [Vi Ln,Vi s1,vn1,ve1] :: oX 25 O 4 [Vi Ln,Vi (if ps.length = 0 then -1 else 0 : Int),vN,vE] :: oB vE (prodFin f1 f2 both ps) :: nextR vN vs (prodNext n1 n2 Ln ps))) tab_ok hS ?_ (fun a w6 hS h=>?_))
  ·obtain ⟨ge,ce,rfl,-⟩:=h.r.any (i:=5) (v:=vE) (e:=4) (s:=1) (n:=(prodFin f1 f2 both ps).length) (xs:=bools (prodFin f1 f2 both ps)) rfl
   obtain ⟨gn,cn,hvN,-⟩:=h.r.any (i:=6) (v:=vN) (e:=35) (s:=1) (n:=vs.length) (xs:=vs) rfl
   subst hvN
   refine zA ([Vi Ln,Vi (if ps.length = 0 then -1 else 0 : Int),.slice gn vs.length cn,.slice ge (prodFin f1 f2 both ps).length ce]) rfl rfl (pr_x4 h.r (i:=4) rfl) ?_
   refine o_step0 rfl rfl (And.intro rfl (And.intro rfl (And.intro (x_cells4 h.r (i:=0) rfl) ?_)))
   exact o_nil ⟨⟨rfl,trivial⟩,h.xput4 (i:=0) rfl _ _ _ _⟩
  have hrow : Hold w.heap.size w w6 (oB vE (prodFin f1 f2 both ps) :: (nextR vN vs (prodNext n1 n2 Ln ps) ++ [])):=by
   rw [List.append_nil]
   exact h.tail.tail.tail.tail.tail
  have hI : ∀ l ∈ prodNext n1 n2 Ln ps,∀ x ∈ l,I64 x:=fun l hl x hx=>by
   obtain ⟨y,_,rfl⟩:=List.mem_map.1 hl
   obtain ⟨c,_,rfl⟩:=List.mem_map.1 hx
   have k1:=atGo_low (step2 n1 n2 y c) ps 0
   have k2:=atGo_top (step2 n1 n2 y c) ps 0
   dsimp only
   unfold I64
   split <;> omega
  have hma:=ma_rows (L:=(Ln : Int)) (s:=(if ps.length = 0 then -1 else 0 : Int)) hrow (by rw [hvs,hlen]) hI hm1.L (by unfold I64; split <;> omega)
  refine wp_ret ?_
  repeat (first | refine then_ret ?_ | refine block_ret ?_)
  refine retc1 tab_ok hS rfl rfl rfl rfl (o:=0) (vs:=[Vi Ln,Vi (if ps.length = 0 then -1 else 0 : Int),vN,vE]) (pr_x4 h.r (i:=0) rfl) rfl ⟨vN,vE,rfl,hma,h.b⟩
 have hlt : i < ps.length:=of_decide_eq_true hT
 obtain ⟨p,q,hpq⟩ : ∃ p q,ps[i] = (p,q):=⟨_,_,rfl⟩
 obtain ⟨hr1,hr2⟩:=hr _ (List.getElem_mem hlt)
 rw [hpq] at hr1 hr2
 refine wp_seq (wp_block ?_)
 refine wp_seq (seq_cutx (α:=Nat) (fun pb=>[(3,.bool both),(4,Vp b0),(5,Vp b1),(6,Vp bw),(8,Vp R),(9,Vp O),(10,Vi i),(11,Vp pb)]) (fun pb w'=>Hold w.heap.size w w' (oX 48 pb 2 [Vi p,Vi q] :: oX 25 R 4 [Vi 0,Vi 0,.slice none 0 0,.slice none 0 0] :: oX 85 bw 3 [vp,vl,vf] :: oX 25 b1 4 [Vi Ln,Vi s2,vn2,ve2] :: oX 25 b0 4 [Vi Ln,Vi s1,vn1,ve1] :: oX 25 O 4 [Vi Ln,Vi (if i = 0 then -1 else 0 : Int),vN,vE] :: oB vE (prodFin f1 f2 both (ps.take i)) :: nextR vN vs ((ps.take i).map fun p=>(List.range Ln).map fun d=>atGo (step2 n1 n2 p d) ps 0))) tab_ok hS ?_ (fun pb a w6 hS h=>?_))
 ·have hcell:=(hp0.keep h.b)
  obtain ⟨g2,b2,o2,c2,e2,m2,-,-,m4⟩:=hcell
  have m5:=m2 (by omega)
  subst m5
  have hcc:=m4 i hlt
  rw [hpq] at hcc
  subst e2
  repeat first|refine zP rfl ?_|refine zK rfl ?_
  refine zL rfl (h.r.xcell (i:=1) rfl (j:=0) rfl) ?_
  repeat first|refine zP rfl ?_|refine zK rfl ?_
  refine zI rfl (rfl) (hlt) ?_
  refine zA ([Vi p,Vi q]) rfl rfl (hcc.1) ?_
  refine zB rfl ?_
  have h2:=(h.var (T:=48) (k:=2) [Vi 0,Vi 0] [Vi p,Vi q] rfl rfl).1
  refine o_step0 rfl rfl (And.intro rfl (And.intro rfl (And.intro (own_cells2 (OwnB.new w5 [Vi 0,Vi 0] 48)) ?_)))
  exact o_nil ⟨_,⟨rfl,rfl,rfl,rfl,rfl,rfl,rfl,rfl,trivial⟩,h2⟩
 obtain ⟨TL,hTL⟩ : ∃ TL,TL = oX 25 O 4 [Vi Ln,Vi (if i = 0 then -1 else 0 : Int),vN,vE] :: oB vE (prodFin f1 f2 both (ps.take i)) :: nextR vN vs ((ps.take i).map fun p=>(List.range Ln).map fun d=>atGo (step2 n1 n2 p d) ps 0):=⟨_,rfl⟩
 rw [← hTL] at h
 refine wp_seq (seq_cutx (α:=Nat) (fun g=>[(3,.bool both),(4,Vp b0),(5,Vp b1),(6,Vp bw),(8,Vp R),(9,Vp O),(10,Vi i),(11,Vp pb),(12,Vs g Ln Ln)]) (fun g w'=>Hold w.heap.size w w' (oI (Vs g Ln Ln) (rowZ Ln 0 (fun d=>atGo (step2 n1 n2 (p,q) d) ps 0)) :: oX 48 pb 2 [Vi p,Vi q] :: oX 25 R 4 [Vi 0,Vi 0,.slice none 0 0,.slice none 0 0] :: oX 85 bw 3 [vp,vl,vf] :: oX 25 b1 4 [Vi Ln,Vi s2,vn2,ve2] :: oX 25 b0 4 [Vi Ln,Vi s1,vn1,ve1] :: TL)) tab_ok hS ?_ (fun g a w7 hS h=>?_))
 ·have h2:=h.makeI (n:=Ln) (by omega)
  rw [rowZ_0 Ln (fun d=>atGo (step2 n1 n2 (p,q) d) ps 0)] at h2
  repeat first|refine zP rfl ?_|refine zK rfl ?_
  refine zL rfl (h.r.xcell (i:=4) rfl (j:=0) rfl) ?_
  refine zM (Ln) rfl rfl rfl rfl rfl ((by show 8 * _ ≤ _; omega)) ((by omega)) ?_
  repeat first|refine zP rfl ?_|refine zK rfl ?_
  exact o_nil ⟨_,⟨rfl,rfl,rfl,rfl,rfl,rfl,rfl,rfl,rfl,trivial⟩,h2⟩
 refine wp_seq (wp_seq (seq_cut [(3,.bool both),(4,Vp b0),(5,Vp b1),(6,Vp bw),(8,Vp R),(9,Vp O),(10,Vi i),(11,Vp pb),(12,Vs g Ln Ln),(13,Vi (0 : Nat))] (· = w7) tab_ok hS ?_ (fun a w8 hS hw=>?_)))
 ·repeat first|refine zP rfl ?_|refine zK rfl ?_
  exact o_nil ⟨⟨rfl,rfl,rfl,rfl,rfl,rfl,rfl,rfl,rfl,rfl,trivial⟩,rfl⟩
 subst hw
 refine wp_block (loop0 hS (fun γ E w'=>∃ c : Nat,c ≤ Ln ∧ γ = Ln - c ∧ E = [(3,.bool both),(4,Vp b0),(5,Vp b1),(6,Vp bw),(8,Vp R),(9,Vp O),(10,Vi i),(11,Vp pb),(12,Vs g Ln Ln),(13,Vi c)] ∧ Hold w.heap.size w w' (oI (Vs g Ln Ln) (rowZ Ln c (fun d=>atGo (step2 n1 n2 (p,q) d) ps 0)) :: oX 48 pb 2 [Vi p,Vi q] :: oX 25 R 4 [Vi 0,Vi 0,.slice none 0 0,.slice none 0 0] :: oX 85 bw 3 [vp,vl,vf] :: oX 25 b1 4 [Vi Ln,Vi s2,vn2,ve2] :: oX 25 b0 4 [Vi Ln,Vi s1,vn1,ve1] :: TL)) Ln ⟨0,Nat.zero_le _,rfl,rfl,h⟩ ?_)
 clear hS h
 rintro γ E w9 a ⟨c,hcL,rfl,rfl,h⟩ hS
 refine wp_seq (wp_seq (seq_cut [(3,.bool both),(4,Vp b0),(5,Vp b1),(6,Vp bw),(8,Vp R),(9,Vp O),(10,Vi i),(11,Vp pb),(12,Vs g Ln Ln),(13,Vi c),(37,.bool (decide (c < Ln)))] (· = w9) tab_ok hS ?_ (fun a w10 hS hw=>?_)))
 ·repeat first|refine zP rfl ?_|refine zK rfl ?_
  refine zL rfl (h.r.xcell (i:=5) rfl (j:=0) rfl) ?_
  refine zC rfl (lt_nat _ _) ?_
  exact o_nil ⟨⟨rfl,rfl,rfl,rfl,rfl,rfl,rfl,rfl,rfl,rfl,rfl,trivial⟩,rfl⟩
 subst hw
 refine cond hS rfl (fun hT=>wp_skip ?_) (fun hF=>?_)
 case refine_1=>
  have hcl : c < Ln:=of_decide_eq_true hT
  refine wp_seq (wp_block ?_)
  refine prod_r10 h hm1 hm2 hs1 hs2 hp0 hcl hr1 hr2 (by rfl) (hS.sub ⟨rfl,rfl,rfl,rfl,rfl,rfl,rfl,rfl,rfl,rfl,trivial⟩) (fun a w11 hS h=>?_)
  refine block_normal ?_
  refine then_normal ?_
  refine seq_cut [(3,.bool both),(4,Vp b0),(5,Vp b1),(6,Vp bw),(8,Vp R),(9,Vp O),(10,Vi i),(11,Vp pb),(12,Vs g Ln Ln),(13,Vi (c + 1 : Nat))] (· = w11) tab_ok hS ?_ (fun a w12 hS hw=>?_)
  ·repeat first|refine zP rfl ?_|refine zK rfl ?_
   refine zN rfl (wrap_succ (by omega)) ?_
   repeat first|refine zP rfl ?_|refine zK rfl ?_
   exact o_nil ⟨⟨rfl,rfl,rfl,rfl,rfl,rfl,rfl,rfl,rfl,rfl,trivial⟩,rfl⟩
  subst hw
  exact ⟨Ln - (c + 1),_,by omega,⟨c + 1,hcl,rfl,rfl,h⟩,hS⟩
 have hcc : c = Ln:=by have:=of_decide_eq_false hF; omega
 subst hcc
 refine wp_exit ?_
 repeat (first | refine then_exit ?_ | refine block_exit ?_ | refine block_other rfl ?_)
 rw [rowZ_L,hTL] at h
 refine wp_seq (seq_cut [(3,.bool both),(4,Vp b0),(5,Vp b1),(6,Vp bw),(8,Vp R),(9,Vp O),(10,Vi i),(11,Vp pb),(12,Vs g c c)] (fun w'=>Hold w.heap.size w w' (oI (Vs g c c) ((List.range c).map (fun d=>atGo (step2 n1 n2 (p,q) d) ps 0)) :: oX 48 pb 2 [Vi p,Vi q] :: oX 25 R 4 [Vi 0,Vi 0,.slice none 0 0,.slice none 0 0] :: oX 85 bw 3 [vp,vl,vf] :: oX 25 b1 4 [Vi c,Vi s2,vn2,ve2] :: oX 25 b0 4 [Vi c,Vi s1,vn1,ve1] :: oX 25 O 4 [Vi c,Vi 0,vN,vE] :: oB vE (prodFin f1 f2 both (ps.take i)) :: nextR vN vs ((ps.take i).map fun p=>(List.range c).map fun d=>atGo (step2 n1 n2 p d) ps 0))) tab_ok hS ?_ (fun a w11 hS h11=>?_))
 ·repeat first|refine zP rfl ?_|refine zK rfl ?_
  refine zS rfl rfl (h.r.xcell (i:=6) rfl (j:=1) rfl) (h.r.free (i:=6) rfl _) ?_
  exact o_nil ⟨⟨rfl,rfl,rfl,rfl,rfl,rfl,rfl,rfl,rfl,trivial⟩,h.xstore (i:=6) rfl 1 (Vi 0)⟩
 refine wp_seq (seq_cutx (α:=Value) (fun _=>[(3,.bool both),(4,Vp b0),(5,Vp b1),(6,Vp bw),(8,Vp R),(9,Vp O),(10,Vi i),(11,Vp pb)]) (fun vN' w'=>Hold w.heap.size w w' (oI (Vs g c c) ((List.range c).map (fun d=>atGo (step2 n1 n2 (p,q) d) ps 0)) :: oX 48 pb 2 [Vi p,Vi q] :: oX 25 R 4 [Vi 0,Vi 0,.slice none 0 0,.slice none 0 0] :: oX 85 bw 3 [vp,vl,vf] :: oX 25 b1 4 [Vi c,Vi s2,vn2,ve2] :: oX 25 b0 4 [Vi c,Vi s1,vn1,ve1] :: oX 25 O 4 [Vi c,Vi 0,vN',vE] :: oB vE (prodFin f1 f2 both (ps.take i)) :: ⟨vN',35,1,vs.length + 1,vs ++ [Vs g c c]⟩ :: List.zipWith (fun v l=>oI v l) vs ((ps.take i).map fun p=>(List.range c).map fun d=>atGo (step2 n1 n2 p d) ps 0))) tab_ok hS ?_ (fun vN' a w12 hS h12=>?_))
 ·obtain ⟨gvp,cvp,rfl,-⟩:=h11.r.any (i:=8) (v:=vN) (e:=35) (s:=1) (n:=vs.length) (xs:=vs) rfl
  repeat first|refine zP rfl ?_|refine zK rfl ?_
  refine zL rfl (h11.r.xcell (i:=6) rfl (j:=2) rfl) ?_
  repeat first|refine zP rfl ?_|refine zK rfl ?_
  refine o_step rfl rfl rfl ?_
  refine Exists.intro [(0,Vs g c c)] (Exists.intro #[Vs g c c] (And.intro (And.intro rfl rfl) (And.intro (by decide) (And.intro (fill1 _ _ _ _) ?_))))
  have h3:=h11.alloc (.cells #[Vs g c c] 35)
  have ask : AppAsk (w11.alloc (.cells #[Vs g c c] 35)) ⟨35,.slice 3,1,24,.slice none 0 0⟩ (.slice gvp vs.length cvp) vs.length vs (Vs w11.heap.size 1 1) 1 [Vs g c c] w.heap.size:=
   ⟨h3.r.1 8 _ rfl,.inr ⟨_,0,_,rfl,cell_alloc_new rfl,trivial⟩,rfl,(by simp [Value.oneCell']),(by omega),(by show (vs.length + 1) * 24 ≤ _; omega),h3.s⟩
  refine o_step rfl rfl rfl ?_
  refine Exists.intro _ (Exists.intro _ (Exists.intro _ (Exists.intro _ (Exists.intro _ (And.intro (ask) (And.intro (fun _ h=>h.symm) (And.intro (by decide) ?_)))))))
  rintro v' w16 hown2 hgr - hat
  have h4:=h3.app (i:=8) rfl hown2 hgr hat
  obtain ⟨g2,n2',c2,hv⟩:=own_form hown2
  subst hv
  repeat first|refine zP rfl ?_|refine zK rfl ?_
  refine zS rfl rfl (h4.r.xcell (i:=6) rfl (j:=2) rfl) (h4.r.free (i:=6) rfl _) ?_
  exact o_nil ⟨_,⟨rfl,rfl,rfl,rfl,rfl,rfl,rfl,rfl,trivial⟩,h4.xstore (i:=6) rfl 2 _⟩
 refine wp_seq (quiet_cut [(3,.bool both),(4,Vp b0),(5,Vp b1),(6,Vp bw),(8,Vp R),(9,Vp O),(10,Vi i),(11,Vp pb),(14,.bool (endsM f1 p)),(15,.bool (endsM f2 q))] tab_ok mixed (by kernel_rfl) hS ?_ (fun a w13 hS hw=>?_))
 ·have he1:=(hm1.keep h12.b).e
  have he2:=(hm2.keep h12.b).e
  refine qA ([Vi c,Vi s1,vn1,ve1]) rfl rfl (pr_x4 h12.r (i:=5) rfl) ?_
  refine qP rfl ?_
  refine qL rfl (h12.r.xcell (i:=1) rfl (j:=0) rfl) ?_
  refine qF (.bool (endsM f1 p)) rfl (en_ends) (fun w1 k1=>ends_any c s1 vn1 ve1 f1 p w1 (he1.keep k1 (fun _ _ h=>h)) (by rw [hs1.fin]; exact hr1)) ?_
  refine qA ([Vi c,Vi s2,vn2,ve2]) rfl rfl (pr_x4 h12.r (i:=4) rfl) ?_
  refine qP rfl ?_
  refine qL rfl (h12.r.xcell (i:=1) rfl (j:=1) rfl) ?_
  refine qF (.bool (endsM f2 q)) rfl (en_ends) (fun w1 k1=>ends_any c s2 vn2 ve2 f2 q w1 (he2.keep k1 (fun _ _ h=>h)) (by rw [hs2.fin]; exact hr2)) ?_
  repeat first|refine qP rfl ?_|refine qK rfl ?_
  exact q_nil ⟨rfl,rfl,rfl,rfl,rfl,rfl,rfl,rfl,rfl,rfl,trivial⟩
 have h13:=h12.below hw
 clear hw h h11 h12
 refine seq_cutx (α:=Value) (fun _=>[(3,.bool both),(4,Vp b0),(5,Vp b1),(6,Vp bw),(8,Vp R),(9,Vp O),(10,Vi i)]) (fun vE' w'=>Hold w.heap.size w w' (oI (Vs g c c) ((List.range c).map (fun d=>atGo (step2 n1 n2 (p,q) d) ps 0)) :: oX 48 pb 2 [Vi p,Vi q] :: oX 25 R 4 [Vi 0,Vi 0,.slice none 0 0,.slice none 0 0] :: oX 85 bw 3 [vp,vl,vf] :: oX 25 b1 4 [Vi c,Vi s2,vn2,ve2] :: oX 25 b0 4 [Vi c,Vi s1,vn1,ve1] :: oX 25 O 4 [Vi c,Vi 0,vN',vE'] :: oB vE' (prodFin f1 f2 both (ps.take i) ++ [joinB both (endsM f1 p) (endsM f2 q)]) :: ⟨vN',35,1,vs.length + 1,vs ++ [Vs g c c]⟩ :: List.zipWith (fun v l=>oI v l) vs ((ps.take i).map fun p=>(List.range c).map fun d=>atGo (step2 n1 n2 p d) ps 0))) tab_ok hS ?_ (fun vE' a w14 hS h=>?_)
 ·obtain ⟨ge,ce,rfl,-⟩:=h13.r.any (i:=7) (v:=vE) (e:=4) (s:=1) (n:=(prodFin f1 f2 both (ps.take i)).length) (xs:=bools (prodFin f1 f2 both (ps.take i))) rfl
  have hle : (prodFin f1 f2 both (ps.take i)).length ≤ 100000:=by simp [prodFin]; omega
  obtain ⟨fs,hfs⟩ : ∃ fs,fs = prodFin f1 f2 both (ps.take i):=⟨_,rfl⟩
  rw [← hfs] at h13 hle ⊢
  clear hfs hTL
  generalize endsM f1 p = x at *
  generalize endsM f2 q = y at *
  have go : ∀ z : Bool,z = joinB both x y → ∀ w3 : World,w3 = w13.alloc (.cells #[.bool z] 4) → Hold w.heap.size w w3 (oI (Vs g c c) ((List.range c).map (fun d=>atGo (step2 n1 n2 (p,q) d) ps 0)) :: oX 48 pb 2 [Vi p,Vi q] :: oX 25 R 4 [Vi 0,Vi 0,.slice none 0 0,.slice none 0 0] :: oX 85 bw 3 [vp,vl,vf] :: oX 25 b1 4 [Vi c,Vi s2,vn2,ve2] :: oX 25 b0 4 [Vi c,Vi s1,vn1,ve1] :: oX 25 O 4 [Vi c,Vi 0,vN',.slice ge fs.length ce] :: oB (.slice ge fs.length ce) fs :: ⟨vN',35,1,vs.length + 1,vs ++ [Vs g c c]⟩ :: List.zipWith (fun v l=>oI v l) vs ((ps.take i).map fun p=>(List.range c).map fun d=>atGo (step2 n1 n2 p d) ps 0)) ∧ AppAsk w3 ⟨4,.bool,1,1,.bool false⟩ (.slice ge fs.length ce) fs.length (bools fs) (Vs w13.heap.size 1 1) 1 [.bool z] w.heap.size:=fun z _ w3 hw3=>by
   have h3:=h13.alloc (.cells #[.bool z] 4)
   rw [hw3]
   exact ⟨h3,⟨h3.r.1 7 _ rfl,.inr ⟨_,0,_,rfl,cell_alloc_new rfl,trivial⟩,rfl,(by simp [Value.oneCell']),(by omega),(by show (fs.length + 1) * 1 ≤ _; omega),h3.s⟩⟩
  have hc0:=h13.r.xcell (i:=6) rfl (j:=3) rfl
  clear h13
  cases both <;> cases x <;> cases y
  all_goals
   repeat first|refine zP rfl ?_|refine zK rfl ?_
   refine zL rfl (hc0) ?_
   repeat first|refine zP rfl ?_|refine zK rfl ?_
   refine o_step rfl rfl rfl ?_
   refine Exists.intro [(0,.bool (_))] (Exists.intro #[.bool (_)] (And.intro (And.intro rfl rfl) (And.intro (by decide) (And.intro (fillB _ _) ?_))))
   obtain ⟨h3,ask⟩:=go _ rfl _ rfl
   refine o_step rfl rfl rfl ?_
   refine Exists.intro _ (Exists.intro _ (Exists.intro _ (Exists.intro _ (Exists.intro _ (And.intro (ask) (And.intro (fun _ h=>h.symm) (And.intro (by decide) ?_)))))))
   rintro v' w16 hown2 hgr - hat
   have h4:=h3.appB (ys:=[_]) (i:=7) rfl hown2 hgr hat
   obtain ⟨g2,n2',c2,hv⟩:=own_form hown2
   subst hv
   repeat first|refine zP rfl ?_|refine zK rfl ?_
   refine zS rfl rfl (h4.r.xcell (i:=6) rfl (j:=3) rfl) (h4.r.free (i:=6) rfl _) ?_
   exact o_nil ⟨_,⟨rfl,rfl,rfl,rfl,rfl,rfl,rfl,trivial⟩,h4.xstore (i:=6) rfl 3 _⟩
 refine block_normal ?_
 refine then_normal ?_
 refine seq_cut [(3,.bool both),(4,Vp b0),(5,Vp b1),(6,Vp bw),(8,Vp R),(9,Vp O),(10,Vi (i + 1 : Nat))] (· = w14) tab_ok hS ?_ (fun a w15 hS hw=>?_)
 ·repeat first|refine zP rfl ?_|refine zK rfl ?_
  refine zN rfl (wrap_succ (by omega)) ?_
  repeat first|refine zP rfl ?_|refine zK rfl ?_
  exact o_nil ⟨⟨rfl,rfl,rfl,rfl,rfl,rfl,rfl,trivial⟩,rfl⟩
 subst hw
 refine ⟨ps.length - (i + 1),_,by omega,⟨i + 1,vN',vE',vs ++ [Vs g c c],hlt,rfl,rfl,by simp [hvs],?_⟩,hS⟩
 have hl1 : vs.length = ((ps.take i).map fun p=>(List.range c).map fun d=>atGo (step2 n1 n2 p d) ps 0).length:=by simp; omega
 rw [List.take_succ_eq_append_getElem hlt,List.map_append,List.map_singleton,hpq,nextR_snoc hl1,if_neg (by omega : ¬ (i + 1 = 0))]
 have hpf : prodFin f1 f2 both (ps.take i ++ [(p,q)]) = prodFin f1 f2 both (ps.take i) ++ [joinB both (endsM f1 p) (endsM f2 q)]:=by simp [prodFin]
 rw [hpf]
 exact (h.erase 1).perm (List.perm_append_comm (l₁:=[_]))
end Go.Proofs.YthcoppfiahnpoaaGreat
namespace Go.Proofs.YthcoppfiahnpoaaGreat
open Go Sym
theorem en_joined : enters Tryz.prog 19 = true:=by kernel_rfl
theorem en_Both : enters Tryz.prog 6 = true:=by kernel_rfl
theorem en_Either : enters Tryz.prog 7 = true:=by kernel_rfl
theorem en_two' : enters Tryz.prog 46 = true:=by kernel_rfl
theorem en_walked : enters Tryz.prog 48 = true:=by kernel_rfl
set_option maxHeartbeats 4000000 in
theorem joined_r4 {both : Bool} {Ln b0 b1 R : Nat} {s1 s2 : Int} {vn1 ve1 vn2 ve2 : Value} {P1 P2 : Int → List (List Int) → List Bool → Prop} {w0 w : World} (h : Hold w0.heap.size w0 w [oX 25 R 4 [Vi 0,Vi 0,.slice none 0 0,.slice none 0 0],oX 25 b1 4 [Vi Ln,Vi s2,vn2,ve2],oX 25 b0 4 [Vi Ln,Vi s1,vn1,ve1]])
  (hc1 : ∀ u,RowKit.Below w0.heap.size w0 u → Calls Tryz.prog 47 #[.agg #[Vi Ln,Vi s1,vn1,ve1]] u fun e u'=>∃ (s' : Int) (vn' ve' : Value) (n' : List (List Int)) (f' : List Bool),e = .returned (.agg #[Vi Ln,Vi s',vn',ve']) ∧ OwnM u.heap.size u' n' f' vn' ve' ∧ RowKit.Below u.heap.size u u' ∧ P1 s' n' f')
  (hc2 : ∀ u,RowKit.Below w0.heap.size w0 u → Calls Tryz.prog 47 #[.agg #[Vi Ln,Vi s2,vn2,ve2]] u fun e u'=>∃ (s' : Int) (vn' ve' : Value) (n' : List (List Int)) (f' : List Bool),e = .returned (.agg #[Vi Ln,Vi s',vn',ve']) ∧ OwnM u.heap.size u' n' f' vn' ve' ∧ RowKit.Below u.heap.size u u' ∧ P2 s' n' f')
  {Q : Exit → Act → World → Prop} {a : Act} {ops : Array Oper} {id : Nat} (hops : Sym.regionOf Tryz.f19.body 4 = some (id,ops)) (hS : St Tryz.f19.ntmps a [(2,.bool both),(3,Vp b0),(4,Vp b1),(6,Vp R)])
  (hq : ∀ (x : Nat × Nat × (Int × Value × Value × List (List Int) × List Bool) × (Int × Value × Value × List (List Int) × List Bool)) a' w',St Tryz.f19.ntmps a' [(2,.bool both),(6,Vp R),(9,Vp x.1),(10,Vp x.2.1)] → Hold w0.heap.size w0 w' [oX 25 x.1 4 [Vi Ln,Vi x.2.2.1.1,x.2.2.1.2.1,x.2.2.1.2.2.1],oX 25 x.2.1 4 [Vi Ln,Vi x.2.2.2.1,x.2.2.2.2.1,x.2.2.2.2.2.1],oX 25 R 4 [Vi 0,Vi 0,.slice none 0 0,.slice none 0 0],oX 25 b1 4 [Vi Ln,Vi s2,vn2,ve2],oX 25 b0 4 [Vi Ln,Vi s1,vn1,ve1]] ∧ OwnM w0.heap.size w' x.2.2.1.2.2.2.1 x.2.2.1.2.2.2.2 x.2.2.1.2.1 x.2.2.1.2.2.1 ∧ OwnM w0.heap.size w' x.2.2.2.2.2.2.1 x.2.2.2.2.2.2.2 x.2.2.2.2.1 x.2.2.2.2.2.1 ∧ P1 x.2.2.1.1 x.2.2.1.2.2.2.1 x.2.2.1.2.2.2.2 ∧ P2 x.2.2.2.1 x.2.2.2.2.2.2.1 x.2.2.2.2.2.2.2 → Q .normal a' w') : (Code.region id ops true).wp Tryz.prog Q a w:=by
 cases hops
 refine any_cutx (α:=Nat × Nat × (Int × Value × Value × List (List Int) × List Bool) × (Int × Value × Value × List (List Int) × List Bool)) 6 (fun x=>[(2,.bool both),(6,Vp R),(9,Vp x.1),(10,Vp x.2.1)]) (fun x w'=>Hold w0.heap.size w0 w' [oX 25 x.1 4 [Vi Ln,Vi x.2.2.1.1,x.2.2.1.2.1,x.2.2.1.2.2.1],oX 25 x.2.1 4 [Vi Ln,Vi x.2.2.2.1,x.2.2.2.2.1,x.2.2.2.2.2.1],oX 25 R 4 [Vi 0,Vi 0,.slice none 0 0,.slice none 0 0],oX 25 b1 4 [Vi Ln,Vi s2,vn2,ve2],oX 25 b0 4 [Vi Ln,Vi s1,vn1,ve1]] ∧ OwnM w0.heap.size w' x.2.2.1.2.2.2.1 x.2.2.1.2.2.2.2 x.2.2.1.2.1 x.2.2.1.2.2.1 ∧ OwnM w0.heap.size w' x.2.2.2.2.2.2.1 x.2.2.2.2.2.2.2 x.2.2.2.2.1 x.2.2.2.2.2.1 ∧ P1 x.2.2.1.1 x.2.2.1.2.2.2.1 x.2.2.1.2.2.2.2 ∧ P2 x.2.2.2.1 x.2.2.2.2.2.2.1 x.2.2.2.2.2.2.2) mixed hS ?_ hq
 have hy0 : RowKit.Below w.drew.heap.size w.drew w.drew:=RowKit.Below.refl _ _
 have hs0:=h.drew
 refine yT 0 tab_ok rfl (by kernel_rfl) hy0 rfl (Exists.intro ([Vi Ln,Vi s1,vn1,ve1]) (And.intro rfl (And.intro (pr_x4 hs0.r (i:=2) rfl) rfl))) ?_
 refine yT 2 tab_ok rfl (by kernel_rfl) hy0 rfl (Exists.intro ([Vi Ln,Vi s2,vn2,ve2]) (And.intro rfl (And.intro (pr_x4 hs0.r (i:=1) rfl) rfl))) ?_
 refine y_three 1 4 5 (by kernel_rfl) (y_op 1 tab_ok rfl rfl rfl rfl ?_) (y_op 4 tab_ok rfl rfl rfl rfl ?_) (y_op 5 tab_ok rfl rfl rfl rfl ?_)
 ·refine And.intro en_Shrunk ((hc1 _ hs0.b).mono ?_)
  rintro e u1 ⟨t1,vn1,ve1,g1,d1,rfl,m1,k1,c1⟩
  refine ⟨_,rfl,?_⟩
  have hy1:=below_trans hy0 k1
  refine And.intro (.inr hy1) ?_
  have hs1:=hs0.below k1
  replace m1:=m1.mono hs0.s
  refine y_three 3 4 5 (by kernel_rfl) (y_op 3 tab_ok rfl rfl rfl rfl ?_) (y_op 4 tab_ok rfl rfl rfl rfl ?_) (y_op 5 tab_ok rfl rfl rfl rfl ?_)
  ·refine And.intro en_Shrunk ((hc2 _ hs1.b).mono ?_)
   rintro e u2 ⟨t2,vn2,ve2,g2,d2,rfl,m2,k2,c2⟩
   refine ⟨_,rfl,?_⟩
   have hy2:=below_trans hy1 k2
   refine And.intro (.inr hy2) ?_
   have hs2:=hs1.below k2
   replace m1:=m1.below k2
   replace m2:=m2.mono hs1.s
   refine y_two 4 5 (by kernel_rfl) (y_op 4 tab_ok rfl rfl rfl rfl ?_) (y_op 5 tab_ok rfl rfl rfl rfl ?_)
   ·have hy3:=hy2.alloc (hy2.size) (.cells #[Vi 0,Vi 0,.slice none 0 0,.slice none 0 0] 25)
    refine And.intro (.inr hy3) ?_
    have hs3:=hs2.box (T:=25) (k:=4) #[Vi 0,Vi 0,.slice none 0 0,.slice none 0 0] rfl
    replace m1:=m1.below (below_alloc _ (.cells #[Vi 0,Vi 0,.slice none 0 0,.slice none 0 0] 25))
    replace m2:=m2.below (below_alloc _ (.cells #[Vi 0,Vi 0,.slice none 0 0,.slice none 0 0] 25))
    refine y_one 5 (by kernel_rfl) (y_op 5 tab_ok rfl rfl rfl rfl ?_)
    have hy4:=hy3.alloc (hy3.size) (.cells #[Vi 0,Vi 0,.slice none 0 0,.slice none 0 0] 25)
    refine And.intro (.inr hy4) ?_
    have hs4:=hs3.box (T:=25) (k:=4) #[Vi 0,Vi 0,.slice none 0 0,.slice none 0 0] rfl
    replace m1:=m1.below (below_alloc _ (.cells #[Vi 0,Vi 0,.slice none 0 0,.slice none 0 0] 25))
    replace m2:=m2.below (below_alloc _ (.cells #[Vi 0,Vi 0,.slice none 0 0,.slice none 0 0] 25))
    have hz:=hs4.perm (.swap _ _ _)
    obtain ⟨an1,cn1,hv1⟩:=own_sl m1
    obtain ⟨an2,cn2,hv2⟩:=own_sl m2
    obtain ⟨ae1,ce1,hw1⟩:=own_se m1
    obtain ⟨ae2,ce2,hw2⟩:=own_se m2
    subst hv1 hv2 hw1 hw2
    have oA:=own_ownB (hz.r.1 0 _ rfl)
    have m1:=m1.put oA [Vi Ln,Vi t1,.slice an1 g1.length cn1,.slice ae1 d1.length ce1]
    have m2:=m2.put oA [Vi Ln,Vi t1,.slice an1 g1.length cn1,.slice ae1 d1.length ce1]
    have hz2:=hz.xput4 (i:=0) rfl (Vi Ln) (Vi t1) (.slice an1 g1.length cn1) (.slice ae1 d1.length ce1)
    have oB:=own_ownB (hz2.r.1 1 _ rfl)
    have m1:=m1.put oB [Vi Ln,Vi t2,.slice an2 g2.length cn2,.slice ae2 d2.length ce2]
    have m2:=m2.put oB [Vi Ln,Vi t2,.slice an2 g2.length cn2,.slice ae2 d2.length ce2]
    refine y_one 6 (by kernel_rfl) (y_op0 6 tab_ok rfl rfl rfl ?_)
    refine And.intro rfl (And.intro rfl (And.intro (x_cells4 hz.r (i:=0) rfl) (And.intro (.inl (by kernel_rfl)) ?_)))
    refine y_one 7 (by kernel_rfl) (y_op0 7 tab_ok rfl rfl rfl ?_)
    refine And.intro rfl (And.intro rfl (And.intro (x_cells4 hz2.r (i:=1) rfl) (And.intro (.inl (by kernel_rfl)) ?_)))
    exact y_endx (_,_,(t1,.slice an1 g1.length cn1,.slice ae1 d1.length ce1,g1,d1),(t2,.slice an2 g2.length cn2,.slice ae2 d2.length ce2,g2,d2)) (by kernel_rfl) ⟨rfl,rfl,rfl,rfl,trivial⟩ ⟨hz2.xput4 (i:=1) rfl _ _ _ _,m1,m2,c1,c2⟩
   ·have hy3:=hy2.alloc (hy2.size) (.cells #[Vi 0,Vi 0,.slice none 0 0,.slice none 0 0] 25)
    refine And.intro (.inr hy3) ?_
    have hs3:=hs2.box (T:=25) (k:=4) #[Vi 0,Vi 0,.slice none 0 0,.slice none 0 0] rfl
    replace m1:=m1.below (below_alloc _ (.cells #[Vi 0,Vi 0,.slice none 0 0,.slice none 0 0] 25))
    replace m2:=m2.below (below_alloc _ (.cells #[Vi 0,Vi 0,.slice none 0 0,.slice none 0 0] 25))
    refine y_one 4 (by kernel_rfl) (y_op 4 tab_ok rfl rfl rfl rfl ?_)
    have hy4:=hy3.alloc (hy3.size) (.cells #[Vi 0,Vi 0,.slice none 0 0,.slice none 0 0] 25)
    refine And.intro (.inr hy4) ?_
    have hs4:=hs3.box (T:=25) (k:=4) #[Vi 0,Vi 0,.slice none 0 0,.slice none 0 0] rfl
    replace m1:=m1.below (below_alloc _ (.cells #[Vi 0,Vi 0,.slice none 0 0,.slice none 0 0] 25))
    replace m2:=m2.below (below_alloc _ (.cells #[Vi 0,Vi 0,.slice none 0 0,.slice none 0 0] 25))
    have hz:=hs4
    obtain ⟨an1,cn1,hv1⟩:=own_sl m1
    obtain ⟨an2,cn2,hv2⟩:=own_sl m2
    obtain ⟨ae1,ce1,hw1⟩:=own_se m1
    obtain ⟨ae2,ce2,hw2⟩:=own_se m2
    subst hv1 hv2 hw1 hw2
    have oA:=own_ownB (hz.r.1 0 _ rfl)
    have m1:=m1.put oA [Vi Ln,Vi t1,.slice an1 g1.length cn1,.slice ae1 d1.length ce1]
    have m2:=m2.put oA [Vi Ln,Vi t1,.slice an1 g1.length cn1,.slice ae1 d1.length ce1]
    have hz2:=hz.xput4 (i:=0) rfl (Vi Ln) (Vi t1) (.slice an1 g1.length cn1) (.slice ae1 d1.length ce1)
    have oB:=own_ownB (hz2.r.1 1 _ rfl)
    have m1:=m1.put oB [Vi Ln,Vi t2,.slice an2 g2.length cn2,.slice ae2 d2.length ce2]
    have m2:=m2.put oB [Vi Ln,Vi t2,.slice an2 g2.length cn2,.slice ae2 d2.length ce2]
    refine y_one 6 (by kernel_rfl) (y_op0 6 tab_ok rfl rfl rfl ?_)
    refine And.intro rfl (And.intro rfl (And.intro (x_cells4 hz.r (i:=0) rfl) (And.intro (.inl (by kernel_rfl)) ?_)))
    refine y_one 7 (by kernel_rfl) (y_op0 7 tab_ok rfl rfl rfl ?_)
    refine And.intro rfl (And.intro rfl (And.intro (x_cells4 hz2.r (i:=1) rfl) (And.intro (.inl (by kernel_rfl)) ?_)))
    exact y_endx (_,_,(t1,.slice an1 g1.length cn1,.slice ae1 d1.length ce1,g1,d1),(t2,.slice an2 g2.length cn2,.slice ae2 d2.length ce2,g2,d2)) (by kernel_rfl) ⟨rfl,rfl,rfl,rfl,trivial⟩ ⟨hz2.xput4 (i:=1) rfl _ _ _ _,m1,m2,c1,c2⟩
  ·have hy2:=hy1.alloc (hy1.size) (.cells #[Vi 0,Vi 0,.slice none 0 0,.slice none 0 0] 25)
   refine And.intro (.inr hy2) ?_
   have hs2:=hs1.box (T:=25) (k:=4) #[Vi 0,Vi 0,.slice none 0 0,.slice none 0 0] rfl
   replace m1:=m1.below (below_alloc _ (.cells #[Vi 0,Vi 0,.slice none 0 0,.slice none 0 0] 25))
   refine y_two 3 5 (by kernel_rfl) (y_op 3 tab_ok rfl rfl rfl rfl ?_) (y_op 5 tab_ok rfl rfl rfl rfl ?_)
   ·refine And.intro en_Shrunk ((hc2 _ hs2.b).mono ?_)
    rintro e u3 ⟨t2,vn2,ve2,g2,d2,rfl,m2,k3,c2⟩
    refine ⟨_,rfl,?_⟩
    have hy3:=below_trans hy2 k3
    refine And.intro (.inr hy3) ?_
    have hs3:=hs2.below k3
    replace m1:=m1.below k3
    replace m2:=m2.mono hs2.s
    refine y_one 5 (by kernel_rfl) (y_op 5 tab_ok rfl rfl rfl rfl ?_)
    have hy4:=hy3.alloc (hy3.size) (.cells #[Vi 0,Vi 0,.slice none 0 0,.slice none 0 0] 25)
    refine And.intro (.inr hy4) ?_
    have hs4:=hs3.box (T:=25) (k:=4) #[Vi 0,Vi 0,.slice none 0 0,.slice none 0 0] rfl
    replace m1:=m1.below (below_alloc _ (.cells #[Vi 0,Vi 0,.slice none 0 0,.slice none 0 0] 25))
    replace m2:=m2.below (below_alloc _ (.cells #[Vi 0,Vi 0,.slice none 0 0,.slice none 0 0] 25))
    have hz:=hs4.perm (.swap _ _ _)
    obtain ⟨an1,cn1,hv1⟩:=own_sl m1
    obtain ⟨an2,cn2,hv2⟩:=own_sl m2
    obtain ⟨ae1,ce1,hw1⟩:=own_se m1
    obtain ⟨ae2,ce2,hw2⟩:=own_se m2
    subst hv1 hv2 hw1 hw2
    have oA:=own_ownB (hz.r.1 0 _ rfl)
    have m1:=m1.put oA [Vi Ln,Vi t1,.slice an1 g1.length cn1,.slice ae1 d1.length ce1]
    have m2:=m2.put oA [Vi Ln,Vi t1,.slice an1 g1.length cn1,.slice ae1 d1.length ce1]
    have hz2:=hz.xput4 (i:=0) rfl (Vi Ln) (Vi t1) (.slice an1 g1.length cn1) (.slice ae1 d1.length ce1)
    have oB:=own_ownB (hz2.r.1 1 _ rfl)
    have m1:=m1.put oB [Vi Ln,Vi t2,.slice an2 g2.length cn2,.slice ae2 d2.length ce2]
    have m2:=m2.put oB [Vi Ln,Vi t2,.slice an2 g2.length cn2,.slice ae2 d2.length ce2]
    refine y_one 6 (by kernel_rfl) (y_op0 6 tab_ok rfl rfl rfl ?_)
    refine And.intro rfl (And.intro rfl (And.intro (x_cells4 hz.r (i:=0) rfl) (And.intro (.inl (by kernel_rfl)) ?_)))
    refine y_one 7 (by kernel_rfl) (y_op0 7 tab_ok rfl rfl rfl ?_)
    refine And.intro rfl (And.intro rfl (And.intro (x_cells4 hz2.r (i:=1) rfl) (And.intro (.inl (by kernel_rfl)) ?_)))
    exact y_endx (_,_,(t1,.slice an1 g1.length cn1,.slice ae1 d1.length ce1,g1,d1),(t2,.slice an2 g2.length cn2,.slice ae2 d2.length ce2,g2,d2)) (by kernel_rfl) ⟨rfl,rfl,rfl,rfl,trivial⟩ ⟨hz2.xput4 (i:=1) rfl _ _ _ _,m1,m2,c1,c2⟩
   ·have hy3:=hy2.alloc (hy2.size) (.cells #[Vi 0,Vi 0,.slice none 0 0,.slice none 0 0] 25)
    refine And.intro (.inr hy3) ?_
    have hs3:=hs2.box (T:=25) (k:=4) #[Vi 0,Vi 0,.slice none 0 0,.slice none 0 0] rfl
    replace m1:=m1.below (below_alloc _ (.cells #[Vi 0,Vi 0,.slice none 0 0,.slice none 0 0] 25))
    refine y_one 3 (by kernel_rfl) (y_op 3 tab_ok rfl rfl rfl rfl ?_)
    refine And.intro en_Shrunk ((hc2 _ hs3.b).mono ?_)
    rintro e u4 ⟨t2,vn2,ve2,g2,d2,rfl,m2,k4,c2⟩
    refine ⟨_,rfl,?_⟩
    have hy4:=below_trans hy3 k4
    refine And.intro (.inr hy4) ?_
    have hs4:=hs3.below k4
    replace m1:=m1.below k4
    replace m2:=m2.mono hs3.s
    have hz:=hs4.perm (.swap _ _ _)
    obtain ⟨an1,cn1,hv1⟩:=own_sl m1
    obtain ⟨an2,cn2,hv2⟩:=own_sl m2
    obtain ⟨ae1,ce1,hw1⟩:=own_se m1
    obtain ⟨ae2,ce2,hw2⟩:=own_se m2
    subst hv1 hv2 hw1 hw2
    have oA:=own_ownB (hz.r.1 0 _ rfl)
    have m1:=m1.put oA [Vi Ln,Vi t1,.slice an1 g1.length cn1,.slice ae1 d1.length ce1]
    have m2:=m2.put oA [Vi Ln,Vi t1,.slice an1 g1.length cn1,.slice ae1 d1.length ce1]
    have hz2:=hz.xput4 (i:=0) rfl (Vi Ln) (Vi t1) (.slice an1 g1.length cn1) (.slice ae1 d1.length ce1)
    have oB:=own_ownB (hz2.r.1 1 _ rfl)
    have m1:=m1.put oB [Vi Ln,Vi t2,.slice an2 g2.length cn2,.slice ae2 d2.length ce2]
    have m2:=m2.put oB [Vi Ln,Vi t2,.slice an2 g2.length cn2,.slice ae2 d2.length ce2]
    refine y_one 6 (by kernel_rfl) (y_op0 6 tab_ok rfl rfl rfl ?_)
    refine And.intro rfl (And.intro rfl (And.intro (x_cells4 hz.r (i:=0) rfl) (And.intro (.inl (by kernel_rfl)) ?_)))
    refine y_one 7 (by kernel_rfl) (y_op0 7 tab_ok rfl rfl rfl ?_)
    refine And.intro rfl (And.intro rfl (And.intro (x_cells4 hz2.r (i:=1) rfl) (And.intro (.inl (by kernel_rfl)) ?_)))
    exact y_endx (_,_,(t1,.slice an1 g1.length cn1,.slice ae1 d1.length ce1,g1,d1),(t2,.slice an2 g2.length cn2,.slice ae2 d2.length ce2,g2,d2)) (by kernel_rfl) ⟨rfl,rfl,rfl,rfl,trivial⟩ ⟨hz2.xput4 (i:=1) rfl _ _ _ _,m1,m2,c1,c2⟩
  ·have hy2:=hy1.alloc (hy1.size) (.cells #[Vi 0,Vi 0,.slice none 0 0,.slice none 0 0] 25)
   refine And.intro (.inr hy2) ?_
   have hs2:=hs1.box (T:=25) (k:=4) #[Vi 0,Vi 0,.slice none 0 0,.slice none 0 0] rfl
   replace m1:=m1.below (below_alloc _ (.cells #[Vi 0,Vi 0,.slice none 0 0,.slice none 0 0] 25))
   refine y_two 3 4 (by kernel_rfl) (y_op 3 tab_ok rfl rfl rfl rfl ?_) (y_op 4 tab_ok rfl rfl rfl rfl ?_)
   ·refine And.intro en_Shrunk ((hc2 _ hs2.b).mono ?_)
    rintro e u3 ⟨t2,vn2,ve2,g2,d2,rfl,m2,k3,c2⟩
    refine ⟨_,rfl,?_⟩
    have hy3:=below_trans hy2 k3
    refine And.intro (.inr hy3) ?_
    have hs3:=hs2.below k3
    replace m1:=m1.below k3
    replace m2:=m2.mono hs2.s
    refine y_one 4 (by kernel_rfl) (y_op 4 tab_ok rfl rfl rfl rfl ?_)
    have hy4:=hy3.alloc (hy3.size) (.cells #[Vi 0,Vi 0,.slice none 0 0,.slice none 0 0] 25)
    refine And.intro (.inr hy4) ?_
    have hs4:=hs3.box (T:=25) (k:=4) #[Vi 0,Vi 0,.slice none 0 0,.slice none 0 0] rfl
    replace m1:=m1.below (below_alloc _ (.cells #[Vi 0,Vi 0,.slice none 0 0,.slice none 0 0] 25))
    replace m2:=m2.below (below_alloc _ (.cells #[Vi 0,Vi 0,.slice none 0 0,.slice none 0 0] 25))
    have hz:=hs4
    obtain ⟨an1,cn1,hv1⟩:=own_sl m1
    obtain ⟨an2,cn2,hv2⟩:=own_sl m2
    obtain ⟨ae1,ce1,hw1⟩:=own_se m1
    obtain ⟨ae2,ce2,hw2⟩:=own_se m2
    subst hv1 hv2 hw1 hw2
    have oA:=own_ownB (hz.r.1 0 _ rfl)
    have m1:=m1.put oA [Vi Ln,Vi t1,.slice an1 g1.length cn1,.slice ae1 d1.length ce1]
    have m2:=m2.put oA [Vi Ln,Vi t1,.slice an1 g1.length cn1,.slice ae1 d1.length ce1]
    have hz2:=hz.xput4 (i:=0) rfl (Vi Ln) (Vi t1) (.slice an1 g1.length cn1) (.slice ae1 d1.length ce1)
    have oB:=own_ownB (hz2.r.1 1 _ rfl)
    have m1:=m1.put oB [Vi Ln,Vi t2,.slice an2 g2.length cn2,.slice ae2 d2.length ce2]
    have m2:=m2.put oB [Vi Ln,Vi t2,.slice an2 g2.length cn2,.slice ae2 d2.length ce2]
    refine y_one 6 (by kernel_rfl) (y_op0 6 tab_ok rfl rfl rfl ?_)
    refine And.intro rfl (And.intro rfl (And.intro (x_cells4 hz.r (i:=0) rfl) (And.intro (.inl (by kernel_rfl)) ?_)))
    refine y_one 7 (by kernel_rfl) (y_op0 7 tab_ok rfl rfl rfl ?_)
    refine And.intro rfl (And.intro rfl (And.intro (x_cells4 hz2.r (i:=1) rfl) (And.intro (.inl (by kernel_rfl)) ?_)))
    exact y_endx (_,_,(t1,.slice an1 g1.length cn1,.slice ae1 d1.length ce1,g1,d1),(t2,.slice an2 g2.length cn2,.slice ae2 d2.length ce2,g2,d2)) (by kernel_rfl) ⟨rfl,rfl,rfl,rfl,trivial⟩ ⟨hz2.xput4 (i:=1) rfl _ _ _ _,m1,m2,c1,c2⟩
   ·have hy3:=hy2.alloc (hy2.size) (.cells #[Vi 0,Vi 0,.slice none 0 0,.slice none 0 0] 25)
    refine And.intro (.inr hy3) ?_
    have hs3:=hs2.box (T:=25) (k:=4) #[Vi 0,Vi 0,.slice none 0 0,.slice none 0 0] rfl
    replace m1:=m1.below (below_alloc _ (.cells #[Vi 0,Vi 0,.slice none 0 0,.slice none 0 0] 25))
    refine y_one 3 (by kernel_rfl) (y_op 3 tab_ok rfl rfl rfl rfl ?_)
    refine And.intro en_Shrunk ((hc2 _ hs3.b).mono ?_)
    rintro e u4 ⟨t2,vn2,ve2,g2,d2,rfl,m2,k4,c2⟩
    refine ⟨_,rfl,?_⟩
    have hy4:=below_trans hy3 k4
    refine And.intro (.inr hy4) ?_
    have hs4:=hs3.below k4
    replace m1:=m1.below k4
    replace m2:=m2.mono hs3.s
    have hz:=hs4
    obtain ⟨an1,cn1,hv1⟩:=own_sl m1
    obtain ⟨an2,cn2,hv2⟩:=own_sl m2
    obtain ⟨ae1,ce1,hw1⟩:=own_se m1
    obtain ⟨ae2,ce2,hw2⟩:=own_se m2
    subst hv1 hv2 hw1 hw2
    have oA:=own_ownB (hz.r.1 0 _ rfl)
    have m1:=m1.put oA [Vi Ln,Vi t1,.slice an1 g1.length cn1,.slice ae1 d1.length ce1]
    have m2:=m2.put oA [Vi Ln,Vi t1,.slice an1 g1.length cn1,.slice ae1 d1.length ce1]
    have hz2:=hz.xput4 (i:=0) rfl (Vi Ln) (Vi t1) (.slice an1 g1.length cn1) (.slice ae1 d1.length ce1)
    have oB:=own_ownB (hz2.r.1 1 _ rfl)
    have m1:=m1.put oB [Vi Ln,Vi t2,.slice an2 g2.length cn2,.slice ae2 d2.length ce2]
    have m2:=m2.put oB [Vi Ln,Vi t2,.slice an2 g2.length cn2,.slice ae2 d2.length ce2]
    refine y_one 6 (by kernel_rfl) (y_op0 6 tab_ok rfl rfl rfl ?_)
    refine And.intro rfl (And.intro rfl (And.intro (x_cells4 hz.r (i:=0) rfl) (And.intro (.inl (by kernel_rfl)) ?_)))
    refine y_one 7 (by kernel_rfl) (y_op0 7 tab_ok rfl rfl rfl ?_)
    refine And.intro rfl (And.intro rfl (And.intro (x_cells4 hz2.r (i:=1) rfl) (And.intro (.inl (by kernel_rfl)) ?_)))
    exact y_endx (_,_,(t1,.slice an1 g1.length cn1,.slice ae1 d1.length ce1,g1,d1),(t2,.slice an2 g2.length cn2,.slice ae2 d2.length ce2,g2,d2)) (by kernel_rfl) ⟨rfl,rfl,rfl,rfl,trivial⟩ ⟨hz2.xput4 (i:=1) rfl _ _ _ _,m1,m2,c1,c2⟩
 ·have hy1:=hy0.alloc (Nat.le_refl _) (.cells #[Vi 0,Vi 0,.slice none 0 0,.slice none 0 0] 25)
  refine And.intro (.inr hy1) ?_
  have hs1:=hs0.box (T:=25) (k:=4) #[Vi 0,Vi 0,.slice none 0 0,.slice none 0 0] rfl
  refine y_two 1 5 (by kernel_rfl) (y_op 1 tab_ok rfl rfl rfl rfl ?_) (y_op 5 tab_ok rfl rfl rfl rfl ?_)
  ·refine And.intro en_Shrunk ((hc1 _ hs1.b).mono ?_)
   rintro e u2 ⟨t1,vn1,ve1,g1,d1,rfl,m1,k2,c1⟩
   refine ⟨_,rfl,?_⟩
   have hy2:=below_trans hy1 k2
   refine And.intro (.inr hy2) ?_
   have hs2:=hs1.below k2
   replace m1:=m1.mono hs1.s
   refine y_two 3 5 (by kernel_rfl) (y_op 3 tab_ok rfl rfl rfl rfl ?_) (y_op 5 tab_ok rfl rfl rfl rfl ?_)
   ·refine And.intro en_Shrunk ((hc2 _ hs2.b).mono ?_)
    rintro e u3 ⟨t2,vn2,ve2,g2,d2,rfl,m2,k3,c2⟩
    refine ⟨_,rfl,?_⟩
    have hy3:=below_trans hy2 k3
    refine And.intro (.inr hy3) ?_
    have hs3:=hs2.below k3
    replace m1:=m1.below k3
    replace m2:=m2.mono hs2.s
    refine y_one 5 (by kernel_rfl) (y_op 5 tab_ok rfl rfl rfl rfl ?_)
    have hy4:=hy3.alloc (hy3.size) (.cells #[Vi 0,Vi 0,.slice none 0 0,.slice none 0 0] 25)
    refine And.intro (.inr hy4) ?_
    have hs4:=hs3.box (T:=25) (k:=4) #[Vi 0,Vi 0,.slice none 0 0,.slice none 0 0] rfl
    replace m1:=m1.below (below_alloc _ (.cells #[Vi 0,Vi 0,.slice none 0 0,.slice none 0 0] 25))
    replace m2:=m2.below (below_alloc _ (.cells #[Vi 0,Vi 0,.slice none 0 0,.slice none 0 0] 25))
    have hz:=hs4.perm (.swap _ _ _)
    obtain ⟨an1,cn1,hv1⟩:=own_sl m1
    obtain ⟨an2,cn2,hv2⟩:=own_sl m2
    obtain ⟨ae1,ce1,hw1⟩:=own_se m1
    obtain ⟨ae2,ce2,hw2⟩:=own_se m2
    subst hv1 hv2 hw1 hw2
    have oA:=own_ownB (hz.r.1 0 _ rfl)
    have m1:=m1.put oA [Vi Ln,Vi t1,.slice an1 g1.length cn1,.slice ae1 d1.length ce1]
    have m2:=m2.put oA [Vi Ln,Vi t1,.slice an1 g1.length cn1,.slice ae1 d1.length ce1]
    have hz2:=hz.xput4 (i:=0) rfl (Vi Ln) (Vi t1) (.slice an1 g1.length cn1) (.slice ae1 d1.length ce1)
    have oB:=own_ownB (hz2.r.1 1 _ rfl)
    have m1:=m1.put oB [Vi Ln,Vi t2,.slice an2 g2.length cn2,.slice ae2 d2.length ce2]
    have m2:=m2.put oB [Vi Ln,Vi t2,.slice an2 g2.length cn2,.slice ae2 d2.length ce2]
    refine y_one 6 (by kernel_rfl) (y_op0 6 tab_ok rfl rfl rfl ?_)
    refine And.intro rfl (And.intro rfl (And.intro (x_cells4 hz.r (i:=0) rfl) (And.intro (.inl (by kernel_rfl)) ?_)))
    refine y_one 7 (by kernel_rfl) (y_op0 7 tab_ok rfl rfl rfl ?_)
    refine And.intro rfl (And.intro rfl (And.intro (x_cells4 hz2.r (i:=1) rfl) (And.intro (.inl (by kernel_rfl)) ?_)))
    exact y_endx (_,_,(t1,.slice an1 g1.length cn1,.slice ae1 d1.length ce1,g1,d1),(t2,.slice an2 g2.length cn2,.slice ae2 d2.length ce2,g2,d2)) (by kernel_rfl) ⟨rfl,rfl,rfl,rfl,trivial⟩ ⟨hz2.xput4 (i:=1) rfl _ _ _ _,m1,m2,c1,c2⟩
   ·have hy3:=hy2.alloc (hy2.size) (.cells #[Vi 0,Vi 0,.slice none 0 0,.slice none 0 0] 25)
    refine And.intro (.inr hy3) ?_
    have hs3:=hs2.box (T:=25) (k:=4) #[Vi 0,Vi 0,.slice none 0 0,.slice none 0 0] rfl
    replace m1:=m1.below (below_alloc _ (.cells #[Vi 0,Vi 0,.slice none 0 0,.slice none 0 0] 25))
    refine y_one 3 (by kernel_rfl) (y_op 3 tab_ok rfl rfl rfl rfl ?_)
    refine And.intro en_Shrunk ((hc2 _ hs3.b).mono ?_)
    rintro e u4 ⟨t2,vn2,ve2,g2,d2,rfl,m2,k4,c2⟩
    refine ⟨_,rfl,?_⟩
    have hy4:=below_trans hy3 k4
    refine And.intro (.inr hy4) ?_
    have hs4:=hs3.below k4
    replace m1:=m1.below k4
    replace m2:=m2.mono hs3.s
    have hz:=hs4.perm (.swap _ _ _)
    obtain ⟨an1,cn1,hv1⟩:=own_sl m1
    obtain ⟨an2,cn2,hv2⟩:=own_sl m2
    obtain ⟨ae1,ce1,hw1⟩:=own_se m1
    obtain ⟨ae2,ce2,hw2⟩:=own_se m2
    subst hv1 hv2 hw1 hw2
    have oA:=own_ownB (hz.r.1 0 _ rfl)
    have m1:=m1.put oA [Vi Ln,Vi t1,.slice an1 g1.length cn1,.slice ae1 d1.length ce1]
    have m2:=m2.put oA [Vi Ln,Vi t1,.slice an1 g1.length cn1,.slice ae1 d1.length ce1]
    have hz2:=hz.xput4 (i:=0) rfl (Vi Ln) (Vi t1) (.slice an1 g1.length cn1) (.slice ae1 d1.length ce1)
    have oB:=own_ownB (hz2.r.1 1 _ rfl)
    have m1:=m1.put oB [Vi Ln,Vi t2,.slice an2 g2.length cn2,.slice ae2 d2.length ce2]
    have m2:=m2.put oB [Vi Ln,Vi t2,.slice an2 g2.length cn2,.slice ae2 d2.length ce2]
    refine y_one 6 (by kernel_rfl) (y_op0 6 tab_ok rfl rfl rfl ?_)
    refine And.intro rfl (And.intro rfl (And.intro (x_cells4 hz.r (i:=0) rfl) (And.intro (.inl (by kernel_rfl)) ?_)))
    refine y_one 7 (by kernel_rfl) (y_op0 7 tab_ok rfl rfl rfl ?_)
    refine And.intro rfl (And.intro rfl (And.intro (x_cells4 hz2.r (i:=1) rfl) (And.intro (.inl (by kernel_rfl)) ?_)))
    exact y_endx (_,_,(t1,.slice an1 g1.length cn1,.slice ae1 d1.length ce1,g1,d1),(t2,.slice an2 g2.length cn2,.slice ae2 d2.length ce2,g2,d2)) (by kernel_rfl) ⟨rfl,rfl,rfl,rfl,trivial⟩ ⟨hz2.xput4 (i:=1) rfl _ _ _ _,m1,m2,c1,c2⟩
  ·have hy2:=hy1.alloc (hy1.size) (.cells #[Vi 0,Vi 0,.slice none 0 0,.slice none 0 0] 25)
   refine And.intro (.inr hy2) ?_
   have hs2:=hs1.box (T:=25) (k:=4) #[Vi 0,Vi 0,.slice none 0 0,.slice none 0 0] rfl
   refine y_one 1 (by kernel_rfl) (y_op 1 tab_ok rfl rfl rfl rfl ?_)
   refine And.intro en_Shrunk ((hc1 _ hs2.b).mono ?_)
   rintro e u3 ⟨t1,vn1,ve1,g1,d1,rfl,m1,k3,c1⟩
   refine ⟨_,rfl,?_⟩
   have hy3:=below_trans hy2 k3
   refine And.intro (.inr hy3) ?_
   have hs3:=hs2.below k3
   replace m1:=m1.mono hs2.s
   refine y_one 3 (by kernel_rfl) (y_op 3 tab_ok rfl rfl rfl rfl ?_)
   refine And.intro en_Shrunk ((hc2 _ hs3.b).mono ?_)
   rintro e u4 ⟨t2,vn2,ve2,g2,d2,rfl,m2,k4,c2⟩
   refine ⟨_,rfl,?_⟩
   have hy4:=below_trans hy3 k4
   refine And.intro (.inr hy4) ?_
   have hs4:=hs3.below k4
   replace m1:=m1.below k4
   replace m2:=m2.mono hs3.s
   have hz:=hs4.perm (.swap _ _ _)
   obtain ⟨an1,cn1,hv1⟩:=own_sl m1
   obtain ⟨an2,cn2,hv2⟩:=own_sl m2
   obtain ⟨ae1,ce1,hw1⟩:=own_se m1
   obtain ⟨ae2,ce2,hw2⟩:=own_se m2
   subst hv1 hv2 hw1 hw2
   have oA:=own_ownB (hz.r.1 0 _ rfl)
   have m1:=m1.put oA [Vi Ln,Vi t1,.slice an1 g1.length cn1,.slice ae1 d1.length ce1]
   have m2:=m2.put oA [Vi Ln,Vi t1,.slice an1 g1.length cn1,.slice ae1 d1.length ce1]
   have hz2:=hz.xput4 (i:=0) rfl (Vi Ln) (Vi t1) (.slice an1 g1.length cn1) (.slice ae1 d1.length ce1)
   have oB:=own_ownB (hz2.r.1 1 _ rfl)
   have m1:=m1.put oB [Vi Ln,Vi t2,.slice an2 g2.length cn2,.slice ae2 d2.length ce2]
   have m2:=m2.put oB [Vi Ln,Vi t2,.slice an2 g2.length cn2,.slice ae2 d2.length ce2]
   refine y_one 6 (by kernel_rfl) (y_op0 6 tab_ok rfl rfl rfl ?_)
   refine And.intro rfl (And.intro rfl (And.intro (x_cells4 hz.r (i:=0) rfl) (And.intro (.inl (by kernel_rfl)) ?_)))
   refine y_one 7 (by kernel_rfl) (y_op0 7 tab_ok rfl rfl rfl ?_)
   refine And.intro rfl (And.intro rfl (And.intro (x_cells4 hz2.r (i:=1) rfl) (And.intro (.inl (by kernel_rfl)) ?_)))
   exact y_endx (_,_,(t1,.slice an1 g1.length cn1,.slice ae1 d1.length ce1,g1,d1),(t2,.slice an2 g2.length cn2,.slice ae2 d2.length ce2,g2,d2)) (by kernel_rfl) ⟨rfl,rfl,rfl,rfl,trivial⟩ ⟨hz2.xput4 (i:=1) rfl _ _ _ _,m1,m2,c1,c2⟩
 ·have hy1:=hy0.alloc (Nat.le_refl _) (.cells #[Vi 0,Vi 0,.slice none 0 0,.slice none 0 0] 25)
  refine And.intro (.inr hy1) ?_
  have hs1:=hs0.box (T:=25) (k:=4) #[Vi 0,Vi 0,.slice none 0 0,.slice none 0 0] rfl
  refine y_two 1 4 (by kernel_rfl) (y_op 1 tab_ok rfl rfl rfl rfl ?_) (y_op 4 tab_ok rfl rfl rfl rfl ?_)
  ·refine And.intro en_Shrunk ((hc1 _ hs1.b).mono ?_)
   rintro e u2 ⟨t1,vn1,ve1,g1,d1,rfl,m1,k2,c1⟩
   refine ⟨_,rfl,?_⟩
   have hy2:=below_trans hy1 k2
   refine And.intro (.inr hy2) ?_
   have hs2:=hs1.below k2
   replace m1:=m1.mono hs1.s
   refine y_two 3 4 (by kernel_rfl) (y_op 3 tab_ok rfl rfl rfl rfl ?_) (y_op 4 tab_ok rfl rfl rfl rfl ?_)
   ·refine And.intro en_Shrunk ((hc2 _ hs2.b).mono ?_)
    rintro e u3 ⟨t2,vn2,ve2,g2,d2,rfl,m2,k3,c2⟩
    refine ⟨_,rfl,?_⟩
    have hy3:=below_trans hy2 k3
    refine And.intro (.inr hy3) ?_
    have hs3:=hs2.below k3
    replace m1:=m1.below k3
    replace m2:=m2.mono hs2.s
    refine y_one 4 (by kernel_rfl) (y_op 4 tab_ok rfl rfl rfl rfl ?_)
    have hy4:=hy3.alloc (hy3.size) (.cells #[Vi 0,Vi 0,.slice none 0 0,.slice none 0 0] 25)
    refine And.intro (.inr hy4) ?_
    have hs4:=hs3.box (T:=25) (k:=4) #[Vi 0,Vi 0,.slice none 0 0,.slice none 0 0] rfl
    replace m1:=m1.below (below_alloc _ (.cells #[Vi 0,Vi 0,.slice none 0 0,.slice none 0 0] 25))
    replace m2:=m2.below (below_alloc _ (.cells #[Vi 0,Vi 0,.slice none 0 0,.slice none 0 0] 25))
    have hz:=hs4
    obtain ⟨an1,cn1,hv1⟩:=own_sl m1
    obtain ⟨an2,cn2,hv2⟩:=own_sl m2
    obtain ⟨ae1,ce1,hw1⟩:=own_se m1
    obtain ⟨ae2,ce2,hw2⟩:=own_se m2
    subst hv1 hv2 hw1 hw2
    have oA:=own_ownB (hz.r.1 0 _ rfl)
    have m1:=m1.put oA [Vi Ln,Vi t1,.slice an1 g1.length cn1,.slice ae1 d1.length ce1]
    have m2:=m2.put oA [Vi Ln,Vi t1,.slice an1 g1.length cn1,.slice ae1 d1.length ce1]
    have hz2:=hz.xput4 (i:=0) rfl (Vi Ln) (Vi t1) (.slice an1 g1.length cn1) (.slice ae1 d1.length ce1)
    have oB:=own_ownB (hz2.r.1 1 _ rfl)
    have m1:=m1.put oB [Vi Ln,Vi t2,.slice an2 g2.length cn2,.slice ae2 d2.length ce2]
    have m2:=m2.put oB [Vi Ln,Vi t2,.slice an2 g2.length cn2,.slice ae2 d2.length ce2]
    refine y_one 6 (by kernel_rfl) (y_op0 6 tab_ok rfl rfl rfl ?_)
    refine And.intro rfl (And.intro rfl (And.intro (x_cells4 hz.r (i:=0) rfl) (And.intro (.inl (by kernel_rfl)) ?_)))
    refine y_one 7 (by kernel_rfl) (y_op0 7 tab_ok rfl rfl rfl ?_)
    refine And.intro rfl (And.intro rfl (And.intro (x_cells4 hz2.r (i:=1) rfl) (And.intro (.inl (by kernel_rfl)) ?_)))
    exact y_endx (_,_,(t1,.slice an1 g1.length cn1,.slice ae1 d1.length ce1,g1,d1),(t2,.slice an2 g2.length cn2,.slice ae2 d2.length ce2,g2,d2)) (by kernel_rfl) ⟨rfl,rfl,rfl,rfl,trivial⟩ ⟨hz2.xput4 (i:=1) rfl _ _ _ _,m1,m2,c1,c2⟩
   ·have hy3:=hy2.alloc (hy2.size) (.cells #[Vi 0,Vi 0,.slice none 0 0,.slice none 0 0] 25)
    refine And.intro (.inr hy3) ?_
    have hs3:=hs2.box (T:=25) (k:=4) #[Vi 0,Vi 0,.slice none 0 0,.slice none 0 0] rfl
    replace m1:=m1.below (below_alloc _ (.cells #[Vi 0,Vi 0,.slice none 0 0,.slice none 0 0] 25))
    refine y_one 3 (by kernel_rfl) (y_op 3 tab_ok rfl rfl rfl rfl ?_)
    refine And.intro en_Shrunk ((hc2 _ hs3.b).mono ?_)
    rintro e u4 ⟨t2,vn2,ve2,g2,d2,rfl,m2,k4,c2⟩
    refine ⟨_,rfl,?_⟩
    have hy4:=below_trans hy3 k4
    refine And.intro (.inr hy4) ?_
    have hs4:=hs3.below k4
    replace m1:=m1.below k4
    replace m2:=m2.mono hs3.s
    have hz:=hs4
    obtain ⟨an1,cn1,hv1⟩:=own_sl m1
    obtain ⟨an2,cn2,hv2⟩:=own_sl m2
    obtain ⟨ae1,ce1,hw1⟩:=own_se m1
    obtain ⟨ae2,ce2,hw2⟩:=own_se m2
    subst hv1 hv2 hw1 hw2
    have oA:=own_ownB (hz.r.1 0 _ rfl)
    have m1:=m1.put oA [Vi Ln,Vi t1,.slice an1 g1.length cn1,.slice ae1 d1.length ce1]
    have m2:=m2.put oA [Vi Ln,Vi t1,.slice an1 g1.length cn1,.slice ae1 d1.length ce1]
    have hz2:=hz.xput4 (i:=0) rfl (Vi Ln) (Vi t1) (.slice an1 g1.length cn1) (.slice ae1 d1.length ce1)
    have oB:=own_ownB (hz2.r.1 1 _ rfl)
    have m1:=m1.put oB [Vi Ln,Vi t2,.slice an2 g2.length cn2,.slice ae2 d2.length ce2]
    have m2:=m2.put oB [Vi Ln,Vi t2,.slice an2 g2.length cn2,.slice ae2 d2.length ce2]
    refine y_one 6 (by kernel_rfl) (y_op0 6 tab_ok rfl rfl rfl ?_)
    refine And.intro rfl (And.intro rfl (And.intro (x_cells4 hz.r (i:=0) rfl) (And.intro (.inl (by kernel_rfl)) ?_)))
    refine y_one 7 (by kernel_rfl) (y_op0 7 tab_ok rfl rfl rfl ?_)
    refine And.intro rfl (And.intro rfl (And.intro (x_cells4 hz2.r (i:=1) rfl) (And.intro (.inl (by kernel_rfl)) ?_)))
    exact y_endx (_,_,(t1,.slice an1 g1.length cn1,.slice ae1 d1.length ce1,g1,d1),(t2,.slice an2 g2.length cn2,.slice ae2 d2.length ce2,g2,d2)) (by kernel_rfl) ⟨rfl,rfl,rfl,rfl,trivial⟩ ⟨hz2.xput4 (i:=1) rfl _ _ _ _,m1,m2,c1,c2⟩
  ·have hy2:=hy1.alloc (hy1.size) (.cells #[Vi 0,Vi 0,.slice none 0 0,.slice none 0 0] 25)
   refine And.intro (.inr hy2) ?_
   have hs2:=hs1.box (T:=25) (k:=4) #[Vi 0,Vi 0,.slice none 0 0,.slice none 0 0] rfl
   refine y_one 1 (by kernel_rfl) (y_op 1 tab_ok rfl rfl rfl rfl ?_)
   refine And.intro en_Shrunk ((hc1 _ hs2.b).mono ?_)
   rintro e u3 ⟨t1,vn1,ve1,g1,d1,rfl,m1,k3,c1⟩
   refine ⟨_,rfl,?_⟩
   have hy3:=below_trans hy2 k3
   refine And.intro (.inr hy3) ?_
   have hs3:=hs2.below k3
   replace m1:=m1.mono hs2.s
   refine y_one 3 (by kernel_rfl) (y_op 3 tab_ok rfl rfl rfl rfl ?_)
   refine And.intro en_Shrunk ((hc2 _ hs3.b).mono ?_)
   rintro e u4 ⟨t2,vn2,ve2,g2,d2,rfl,m2,k4,c2⟩
   refine ⟨_,rfl,?_⟩
   have hy4:=below_trans hy3 k4
   refine And.intro (.inr hy4) ?_
   have hs4:=hs3.below k4
   replace m1:=m1.below k4
   replace m2:=m2.mono hs3.s
   have hz:=hs4
   obtain ⟨an1,cn1,hv1⟩:=own_sl m1
   obtain ⟨an2,cn2,hv2⟩:=own_sl m2
   obtain ⟨ae1,ce1,hw1⟩:=own_se m1
   obtain ⟨ae2,ce2,hw2⟩:=own_se m2
   subst hv1 hv2 hw1 hw2
   have oA:=own_ownB (hz.r.1 0 _ rfl)
   have m1:=m1.put oA [Vi Ln,Vi t1,.slice an1 g1.length cn1,.slice ae1 d1.length ce1]
   have m2:=m2.put oA [Vi Ln,Vi t1,.slice an1 g1.length cn1,.slice ae1 d1.length ce1]
   have hz2:=hz.xput4 (i:=0) rfl (Vi Ln) (Vi t1) (.slice an1 g1.length cn1) (.slice ae1 d1.length ce1)
   have oB:=own_ownB (hz2.r.1 1 _ rfl)
   have m1:=m1.put oB [Vi Ln,Vi t2,.slice an2 g2.length cn2,.slice ae2 d2.length ce2]
   have m2:=m2.put oB [Vi Ln,Vi t2,.slice an2 g2.length cn2,.slice ae2 d2.length ce2]
   refine y_one 6 (by kernel_rfl) (y_op0 6 tab_ok rfl rfl rfl ?_)
   refine And.intro rfl (And.intro rfl (And.intro (x_cells4 hz.r (i:=0) rfl) (And.intro (.inl (by kernel_rfl)) ?_)))
   refine y_one 7 (by kernel_rfl) (y_op0 7 tab_ok rfl rfl rfl ?_)
   refine And.intro rfl (And.intro rfl (And.intro (x_cells4 hz2.r (i:=1) rfl) (And.intro (.inl (by kernel_rfl)) ?_)))
   exact y_endx (_,_,(t1,.slice an1 g1.length cn1,.slice ae1 d1.length ce1,g1,d1),(t2,.slice an2 g2.length cn2,.slice ae2 d2.length ce2,g2,d2)) (by kernel_rfl) ⟨rfl,rfl,rfl,rfl,trivial⟩ ⟨hz2.xput4 (i:=1) rfl _ _ _ _,m1,m2,c1,c2⟩
set_option maxHeartbeats 4000000 in
theorem joined_any (both : Bool) (L1 s1 L2 s2 : Int) (vn1 ve1 vn2 ve2 : Value) (n1 n2 : List (List Int)) (f1 f2 : List Bool) (w : World) (hm : Ma w L1 s1 n1 f1 vn1 ve1) (hm2 : Ma w L2 s2 n2 f2 vn2 ve2) (hl1 : n1.length ≤ 50) (hl2 : n2.length ≤ 50) :
  Calls Tryz.prog 19 #[.agg #[Vi L1,Vi s1,vn1,ve1],.agg #[Vi L2,Vi s2,vn2,ve2],.bool both] w fun e w'=>∃ (L' s' r : Int) (vn' ve' : Value) (n' : List (List Int)) (f' : List Bool),e = .returned (.tuple #[.agg #[Vi L',Vi s',vn',ve'],Vi r]) ∧ Ma w' L' s' n' f' vn' ve' ∧ OwnM w.heap.size w' n' f' vn' ve' ∧ I64 L' ∧ I64 s' ∧ RowKit.Below w.heap.size w w' ∧ JoinE both L1 s1 n1 f1 L2 s2 n2 f2 L' s' n' f' r:=by
 refine Sym.enter (args:=[.agg #[Vi L1,Vi s1,vn1,ve1],.agg #[Vi L2,Vi s2,vn2,ve2],.bool both]) Tryz.func19 rfl rfl rfl (fun a0 hS0=>?_)
 refine wp_seq (seq_cutx (α:=Nat × Nat × Nat) (fun x=>[(2,.bool both),(3,Vp x.1),(4,Vp x.2.1),(6,Vp x.2.2)]) (fun x w'=>Hold w.heap.size w w' [oX 25 x.2.2 4 [Vi 0,Vi 0,.slice none 0 0,.slice none 0 0],oX 25 x.2.1 4 [Vi L2,Vi s2,vn2,ve2],oX 25 x.1 4 [Vi L1,Vi s1,vn1,ve1]]) tab_ok hS0 ?_ (fun x a w1 hS h=>?_))
 ·refine zB rfl ?_
  refine zB rfl ?_
  refine zB rfl ?_
  repeat first|refine zP rfl ?_|refine zK rfl ?_
  exact o_nil ⟨(_,_,_),⟨rfl,rfl,rfl,rfl,trivial⟩,(((Hold.start w).box (T:=25) (k:=4) #[Vi L1,Vi s1,vn1,ve1] rfl).box (T:=25) (k:=4) #[Vi L2,Vi s2,vn2,ve2] rfl).box (T:=25) (k:=4) #[Vi 0,Vi 0,.slice none 0 0,.slice none 0 0] rfl⟩
 obtain ⟨b0,b1,R⟩:=x
 dsimp only at hS h
 clear hS0
 refine wp_seq (seq_cut [(2,.bool both),(3,Vp b0),(4,Vp b1),(6,Vp R),(8,Vi (twoM L1 s1 n1 f1 L2 s2 n2 f2))] (fun w'=>RowKit.Below w1.heap.size w1 w') tab_ok hS ?_ (fun a w2 hS hw=>?_))
 ·refine zA ([Vi L1,Vi s1,vn1,ve1]) rfl rfl (pr_x4 h.r (i:=2) rfl) ?_
  refine zA ([Vi L2,Vi s2,vn2,ve2]) rfl rfl (pr_x4 h.r (i:=1) rfl) ?_
  refine zF rfl (en_two') (two_any L1 s1 L2 s2 vn1 ve1 vn2 ve2 n1 n2 f1 f2 w1 (hm.keep h.b) (hm2.keep h.b)) ?_
  rintro e w2 ⟨rfl,k1⟩
  refine ⟨_,rfl,?_⟩
  repeat first|refine zP rfl ?_|refine zK rfl ?_
  exact o_nil ⟨⟨rfl,rfl,rfl,rfl,rfl,trivial⟩,k1⟩
 replace h:=h.below hw
 clear hw
 refine wp_seq (wp_seq (seq_cut [(2,.bool both),(3,Vp b0),(4,Vp b1),(6,Vp R),(8,Vi (twoM L1 s1 n1 f1 L2 s2 n2 f2)),(17,.bool (decide (twoM L1 s1 n1 f1 L2 s2 n2 f2 ≠ 0)))] (· = w2) tab_ok hS ?_ (fun a w3 hS hw=>?_)))
 ·repeat first|refine zP rfl ?_|refine zK rfl ?_
  refine zC rfl (rfl) ?_
  exact o_nil ⟨⟨rfl,rfl,rfl,rfl,rfl,rfl,trivial⟩,rfl⟩
 subst hw
 have hnil : ∀ {u : World},Ma u 0 0 [] [] (.slice none 0 0) (.slice none 0 0):=⟨⟨none,0,0,0,rfl,by simp,by simp,by omega,by simp⟩,⟨none,0,0,0,rfl,by simp,by simp,by omega,by simp⟩,by unfold I64; omega,by unfold I64; omega,.inl (.inl rfl),.inl (.inl rfl)⟩
 have honil : ∀ {u : World},OwnM w.heap.size u [] [] (.slice none 0 0) (.slice none 0 0):=fun {u}=>⟨World.ownsRow_nil _ _ _ _,[],rfl,World.ownsRow_nil _ _ _ _,fun i hi=>by simp at hi⟩
 refine cond hS rfl (fun hT=>?_) (fun hF=>wp_skip ?_)
 ·refine wp_seq (seq_cut [(6,Vp R),(7,Vi (twoM L1 s1 n1 f1 L2 s2 n2 f2))] (fun w'=>Hold w.heap.size w w' [oX 25 R 4 [Vi 0,Vi 0,.slice none 0 0,.slice none 0 0],oX 25 b1 4 [Vi L2,Vi s2,vn2,ve2],oX 25 b0 4 [Vi L1,Vi s1,vn1,ve1]]) tab_ok hS ?_ (fun a w4 hS h=>?_))
  ·repeat first|refine zP rfl ?_|refine zK rfl ?_
   refine o_step0 rfl rfl (And.intro rfl (And.intro rfl (And.intro (x_cells4 h.r (i:=0) rfl) ?_)))
   repeat first|refine zP rfl ?_|refine zK rfl ?_
   exact o_nil ⟨⟨rfl,rfl,trivial⟩,h.xput4 (i:=0) rfl _ _ _ _⟩
  refine wp_ret ?_
  repeat (first | refine then_ret ?_ | refine block_ret ?_)
  refine retc2 tab_ok hS rfl rfl rfl rfl rfl (o:=0) (vs:=[Vi 0,Vi 0,.slice none 0 0,.slice none 0 0]) (pr_x4 h.r (i:=0) rfl) rfl ⟨0,0,_,_,_,[],[],rfl,hnil,honil,by unfold I64; omega,by unfold I64; omega,h.b,.inl ⟨of_decide_eq_true hT,rfl,rfl,rfl,rfl,rfl⟩⟩
 have htw:=Decidable.not_not.1 (of_decide_eq_false hF)
 obtain ⟨v1,v2,hLL⟩:=two_zero htw
 obtain ⟨hsh1,hL300,-⟩:=shape_of_valid v1
 obtain ⟨hsh2,-,-⟩:=shape_of_valid v2
 subst hLL
 obtain ⟨Ln,rfl⟩:=Int.eq_ofNat_of_zero_le hsh1.L0
 have hLI:=hm.L
 refine wp_seq (joined_r4 (P1:=fun t g d=>Canon Ln t g d ∧ Alike Ln g d t n1 f1 s1 ∧ g.length ≤ n1.length) (P2:=fun t g d=>Canon Ln t g d ∧ Alike Ln g d t n2 f2 s2 ∧ g.length ≤ n2.length) h
  (fun u hu=>(shrunk_any Ln s1 vn1 ve1 n1 f1 u (hm.keep hu) hsh1 (by omega) (by omega)).mono (fun e u' ⟨a1,a2,a3,a4,a5,a6,a7,a8,a9⟩=>⟨a1,a2,a3,a4,a5,a6,a7,a8,a9⟩))
  (fun u hu=>(shrunk_any Ln s2 vn2 ve2 n2 f2 u (hm2.keep hu) hsh2 (by omega) (by omega)).mono (fun e u' ⟨a1,a2,a3,a4,a5,a6,a7,a8,a9⟩=>⟨a1,a2,a3,a4,a5,a6,a7,a8,a9⟩)) (by rfl) (hS.sub ⟨rfl,rfl,rfl,rfl,trivial⟩) ?_)
 rintro ⟨bA,bB,⟨t1,va1,vb1,g1,d1⟩,⟨t2,va2,vb2,g2,d2⟩⟩ a w4 hS ⟨h,m1,m2,⟨cn1,al1,le1⟩,⟨cn2,al2,le2⟩⟩
 dsimp only at hS h m1 m2 cn1 al1 le1 cn2 al2 le2
 have ht1 : I64 t1:=by have:=cn1.shape.s1; have:=cn1.shape.s2; unfold I64; omega
 have ht2 : I64 t2:=by have:=cn2.shape.s1; have:=cn2.shape.s2; unfold I64; omega
 have mA:=m1.ma hLI ht1
 have mB:=m2.ma hLI ht2
 have hcap : (g1.length + 1) * (g2.length + 1) ≤ 2601:=Nat.mul_le_mul (by omega : g1.length + 1 ≤ 51) (by omega : g2.length + 1 ≤ 51)
 obtain ⟨WM,hWM⟩ : ∃ WM,WM = walkM (Ln : Int) t1 g1 t2 g2 both 20000:=⟨_,rfl⟩
 have hW:=walk_all (both:=both) cn1.shape cn2.shape (max:=20000) (by omega) (by omega)
 rw [← hWM,Int.toNat_natCast] at hW
 have hWf:=WInv.few (L:=(Ln : Int)) cn1.shape cn2.shape (by rw [Int.toNat_natCast]; exact hW)
 have hWr:=fun {p : Int × Int} (hp : p ∈ WM.ps)=>WInv.range (L:=(Ln : Int)) cn1.shape cn2.shape (by rw [Int.toNat_natCast]; exact hW) hp
 refine wp_seq (seq_cutx (α:=Nat × Value × Value × Value) (fun x=>[(2,.bool both),(6,Vp R),(9,Vp bA),(10,Vp bB),(11,Vp x.1)]) (fun x w'=>RowKit.Below w4.heap.size w4 w' ∧ OwnB w' x.1 85 [x.2.1,x.2.2.1,x.2.2.2] ∧ SlP w' x.2.1 WM.ps ∧ (∃ a n c,x.2.2.1 = .slice a n c) ∧ (∃ a n c,x.2.2.2 = .slice a n c)) tab_ok hS ?_ (fun x a w5 hS hw=>?_))
 ·refine zA ([Vi Ln,Vi t1,va1,vb1]) rfl rfl (pr_x4 h.r (i:=0) rfl) ?_
  refine zA ([Vi Ln,Vi t2,va2,vb2]) rfl rfl (pr_x4 h.r (i:=1) rfl) ?_
  repeat first|refine zP rfl ?_|refine zK rfl ?_
  refine zF rfl (en_walked) (walked_any Ln t1 Ln t2 va1 vb1 va2 vb2 g1 g2 d1 d2 both 20000 w4 mA mB cn1.shape cn2.shape rfl hL300 (by omega) (by omega)) ?_
  rintro e w5 ⟨Wb,vp,vl,vf,rfl,hWI,k1⟩
  refine ⟨_,rfl,?_⟩
  rw [← hWM] at hWI
  have hsl:=ownP_slp hWI.p rfl (fun x hx=>by
   have:=hWr hx
   unfold I64; omega)
  obtain ⟨ap,np,cp,hvp⟩:=own_form hWI.p
  obtain ⟨al,nl,cl,hvl⟩:=own_form hWI.l
  obtain ⟨af,nf,cf,hvf⟩:=own_form hWI.f
  subst hvp hvl hvf
  refine zB rfl ?_
  have hnew:=OwnB.new w5 [.slice none 0 0,.slice none 0 0,.slice none 0 0] 85
  refine o_step0 rfl rfl (And.intro rfl (And.intro rfl (And.intro (own_cells3 hnew) ?_)))
  have hg:=grown_sets w5.heap.size [.slice ap np cp,.slice al nl cl,.slice af nf cf] 0 (w5.alloc (.cells #[.slice none 0 0,.slice none 0 0,.slice none 0 0] 85))
  have hb2:=below_of_grown (below_alloc w5 (.cells #[.slice none 0 0,.slice none 0 0,.slice none 0 0] 85)) hg (fun q hq=>by cases hq; exact Nat.le_refl _)
  repeat first|refine zP rfl ?_|refine zK rfl ?_
  exact o_nil ⟨(w5.heap.size,.slice ap np cp,.slice al nl cl,.slice af nf cf),⟨rfl,rfl,rfl,rfl,rfl,trivial⟩,below_trans k1 hb2,hnew.sets rfl,hsl.keep hb2,⟨_,_,_,rfl⟩,⟨_,_,_,rfl⟩⟩
 obtain ⟨bW,vp,vl,vf⟩:=x
 obtain ⟨hw,oW,hsl,hvl,hvf⟩:=hw
 dsimp only at hS oW hsl hvl hvf
 replace h:=h.below hw
 replace mA:=mA.keep hw
 replace mB:=mB.keep hw
 clear hw m1 m2
 refine wp_seq (wp_seq (seq_cut [(2,.bool both),(6,Vp R),(9,Vp bA),(10,Vp bB),(11,Vp bW),(31,.bool false)] (· = w5) tab_ok hS ?_ (fun a w6 hS hw=>?_)))
 ·obtain ⟨gp,bp,op,cp,hvp,-⟩:=id hsl
  subst hvp
  repeat first|refine zP rfl ?_|refine zK rfl ?_
  refine zL rfl (oW.cell (i:=0) rfl) ?_
  repeat first|refine zP rfl ?_|refine zK rfl ?_
  refine zC rfl (decide_eq_false (by omega)) ?_
  exact o_nil ⟨⟨rfl,rfl,rfl,rfl,rfl,rfl,trivial⟩,rfl⟩
 subst hw
 refine cond hS rfl (fun hT=>by cases hT) (fun _=>wp_skip ?_)
 refine wp_seq (seq_cutx (α:=Nat × Int × Value × Value × List (List Int) × List Bool) (fun x=>[(6,Vp R),(12,Vp x.1)]) (fun x w'=>RowKit.Below w6.heap.size w6 w' ∧ OwnB w' x.1 25 [Vi Ln,Vi x.2.1,x.2.2.1,x.2.2.2.1] ∧ (OwnM w.heap.size w' x.2.2.2.2.1 x.2.2.2.2.2 x.2.2.1 x.2.2.2.1 ∧ I64 x.2.1) ∧ Canon Ln x.2.1 x.2.2.2.2.1 x.2.2.2.2.2 ∧ x.2.2.2.2.1.length ≤ 2601 ∧ ∀ u,Word Ln u → accM x.2.2.2.2.1 x.2.2.2.2.2 x.2.1 u = joinB both (accM n1 f1 s1 u) (accM n2 f2 s2 u)) tab_ok hS ?_ (fun x a w7 hS hw=>?_))
 ·refine zA ([Vi Ln,Vi t1,va1,vb1]) rfl rfl (pr_x4 h.r (i:=0) rfl) ?_
  refine zA ([Vi Ln,Vi t2,va2,vb2]) rfl rfl (pr_x4 h.r (i:=1) rfl) ?_
  refine zA ([vp,vl,vf]) rfl rfl (⟨oW.cell (i:=0) rfl,oW.cell (i:=1) rfl,oW.cell (i:=2) rfl,trivial⟩) ?_
  repeat first|refine zP rfl ?_|refine zK rfl ?_
  refine zF rfl (en_product) (product_any WM.ps both w6 mA mB cn1.shape cn2.shape (by omega) hsl (by omega) (fun x hx=>⟨(hWr hx).2.1,(hWr hx).2.2.2⟩) hvl hvf) ?_
  rintro e w7 ⟨vn',ve',rfl,hMp,k1⟩
  refine ⟨_,rfl,?_⟩
  repeat first|refine zP rfl ?_|refine zK rfl ?_
  refine zF rfl (en_Shrunk) (shrunk_any Ln _ vn' ve' _ _ w7 hMp (prod_shape WM.ps) (by simp [prodNext]; omega) (by omega)) ?_
  rintro e w8 ⟨s',vn3,ve3,n',f',rfl,hO,k2,hcan,hal,hle⟩
  refine ⟨_,rfl,?_⟩
  have hs' : I64 s':=by have:=hcan.shape.s1; have:=hcan.shape.s2; have : n'.length ≤ 2601:=by simp [prodNext] at hle; omega
                        unfold I64; omega
  obtain ⟨an,cn,hvn⟩:=own_sl hO
  obtain ⟨ae,ce,hve⟩:=own_se hO
  subst hvn hve
  refine zB rfl ?_
  have hnew:=OwnB.new w8 [Vi 0,Vi 0,.slice none 0 0,.slice none 0 0] 25
  refine o_step0 rfl rfl (And.intro rfl (And.intro rfl (And.intro (own_cells4 hnew) ?_)))
  have hp:=mb_put (hO.ma hLI hs')
  repeat first|refine zP rfl ?_|refine zK rfl ?_
  exact o_nil ⟨(w8.heap.size,s',.slice an n'.length cn,.slice ae f'.length ce,n',f'),⟨rfl,rfl,trivial⟩,below_trans k1 (below_trans k2 hp.1),hp.2.o,⟨(hO.below hp.1).mono (Nat.le_trans h.s k1.size),hs'⟩,hcan,(by simp [prodNext] at hle; show n'.length ≤ 2601; omega),(fun u hu=>by rw [hal u hu,prod_words hW u hu,al1 u hu,al2 u hu])⟩
 obtain ⟨b12,s',vn',ve',n',f'⟩:=x
 obtain ⟨hw,o12,⟨m12,hs'⟩,hcan,hfew,hacc⟩:=hw
 dsimp only at hS o12 m12 hs' hcan hfew hacc
 replace h:=h.below hw
 clear hw
 obtain ⟨an,cn,hvn⟩:=own_sl m12
 obtain ⟨ae,ce,hve⟩:=own_se m12
 subst hvn hve
 refine wp_seq (wp_seq (seq_cut [(6,Vp R),(12,Vp b12),(42,.bool false)] (· = w7) tab_ok hS ?_ (fun a w8 hS hw=>?_)))
 ·repeat first|refine zP rfl ?_|refine zK rfl ?_
  refine zL rfl (o12.cell (i:=2) rfl) ?_
  repeat first|refine zP rfl ?_|refine zK rfl ?_
  refine zC rfl (decide_eq_false (by omega)) ?_
  exact o_nil ⟨⟨rfl,rfl,rfl,trivial⟩,rfl⟩
 subst hw
 refine cond hS rfl (fun hT=>by cases hT) (fun _=>wp_skip ?_)
 refine wp_seq (seq_cut [(6,Vp R),(7,Vi 0)] (fun w'=>RowKit.Below w.heap.size w w' ∧ OwnB w' R 25 [Vi Ln,Vi s',.slice an n'.length cn,.slice ae f'.length ce] ∧ OwnM w.heap.size w' n' f' (.slice an n'.length cn) (.slice ae f'.length ce)) tab_ok hS ?_ (fun a w9 hS hw=>?_))
 ·have oR:=own_ownB (h.r.1 2 _ rfl)
  refine zA ([Vi Ln,Vi s',.slice an n'.length cn,.slice ae f'.length ce]) rfl rfl (⟨o12.cell (i:=0) rfl,o12.cell (i:=1) rfl,o12.cell (i:=2) rfl,o12.cell (i:=3) rfl,trivial⟩) ?_
  refine o_step0 rfl rfl (And.intro rfl (And.intro rfl (And.intro (own_cells4 oR) ?_)))
  repeat first|refine zP rfl ?_|refine zK rfl ?_
  exact o_nil ⟨⟨rfl,rfl,trivial⟩,(h.xput4 (i:=2) rfl _ _ _ _).b,oR.sets rfl,m12.put oR _⟩
 obtain ⟨hB,oR,mR⟩:=hw
 refine wp_ret ?_
 repeat (first | refine then_ret ?_ | refine block_ret ?_)
 refine retc2 tab_ok hS rfl rfl rfl rfl rfl (o:=0) (vs:=[Vi Ln,Vi s',.slice an n'.length cn,.slice ae f'.length ce]) ⟨oR.cell (i:=0) rfl,oR.cell (i:=1) rfl,oR.cell (i:=2) rfl,oR.cell (i:=3) rfl,trivial⟩ rfl ⟨Ln,s',0,_,_,n',f',rfl,mR.ma hLI hs',mR,hLI,hs',hB,.inr ⟨htw,rfl,rfl,hcan,hacc⟩⟩
theorem both_any (L1 s1 L2 s2 : Int) (vn1 ve1 vn2 ve2 : Value) (n1 n2 : List (List Int)) (f1 f2 : List Bool) (w : World) (hm : Ma w L1 s1 n1 f1 vn1 ve1) (hm2 : Ma w L2 s2 n2 f2 vn2 ve2) (hl1 : n1.length ≤ 50) (hl2 : n2.length ≤ 50) :
  Calls Tryz.prog 6 #[.agg #[Vi L1,Vi s1,vn1,ve1],.agg #[Vi L2,Vi s2,vn2,ve2]] w fun e w'=>∃ (L' s' r : Int) (vn' ve' : Value) (n' : List (List Int)) (f' : List Bool),e = .returned (.tuple #[.agg #[Vi L',Vi s',vn',ve'],Vi r]) ∧ Ma w' L' s' n' f' vn' ve' ∧ RowKit.Below w.heap.size w w' ∧ JoinE true L1 s1 n1 f1 L2 s2 n2 f2 L' s' n' f' r:=by
 refine Sym.enter (args:=[.agg #[Vi L1,Vi s1,vn1,ve1],.agg #[Vi L2,Vi s2,vn2,ve2]]) Tryz.func6 rfl rfl rfl (fun a0 hS0=>?_)
 refine wp_seq (seq_cutx (α:=Nat × Nat × Nat) (fun x=>[(2,Vp x.1),(3,Vp x.2.1),(4,Vp x.2.2)]) (fun x w'=>Hold w.heap.size w w' [oX 25 x.2.2 4 [Vi 0,Vi 0,.slice none 0 0,.slice none 0 0],oX 25 x.2.1 4 [Vi L2,Vi s2,vn2,ve2],oX 25 x.1 4 [Vi L1,Vi s1,vn1,ve1]]) tab_ok hS0 ?_ (fun x a w1 hS h=>?_))
 ·refine zB rfl ?_
  refine zB rfl ?_
  refine zB rfl ?_
  repeat first|refine zP rfl ?_|refine zK rfl ?_
  exact o_nil ⟨(_,_,_),⟨rfl,rfl,rfl,trivial⟩,(((Hold.start w).box (T:=25) (k:=4) #[Vi L1,Vi s1,vn1,ve1] rfl).box (T:=25) (k:=4) #[Vi L2,Vi s2,vn2,ve2] rfl).box (T:=25) (k:=4) #[Vi 0,Vi 0,.slice none 0 0,.slice none 0 0] rfl⟩
 obtain ⟨b0,b1,R⟩:=x
 dsimp only at hS h
 clear hS0
 refine wp_seq (seq_cutx (α:=(Int × Int × Int) × Value × Value × List (List Int) × List Bool) (fun x=>[(4,Vp R),(5,Vi x.1.2.2)]) (fun x w'=>RowKit.Below w.heap.size w w' ∧ OwnB w' R 25 [Vi x.1.1,Vi x.1.2.1,x.2.1,x.2.2.1] ∧ Ma w' x.1.1 x.1.2.1 x.2.2.2.1 x.2.2.2.2 x.2.1 x.2.2.1 ∧ JoinE true L1 s1 n1 f1 L2 s2 n2 f2 x.1.1 x.1.2.1 x.2.2.2.1 x.2.2.2.2 x.1.2.2) tab_ok hS ?_ (fun x a w2 hS hw=>?_))
 ·refine zA ([Vi L1,Vi s1,vn1,ve1]) rfl rfl (pr_x4 h.r (i:=2) rfl) ?_
  refine zA ([Vi L2,Vi s2,vn2,ve2]) rfl rfl (pr_x4 h.r (i:=1) rfl) ?_
  refine zF rfl (en_joined) (joined_any true L1 s1 L2 s2 vn1 ve1 vn2 ve2 n1 n2 f1 f2 w1 (hm.keep h.b) (hm2.keep h.b) hl1 hl2) ?_
  rintro e w2 ⟨L',s',r,vn',ve',n',f',rfl,hM,hO,hL',hs',k1,hJ⟩
  refine ⟨_,rfl,?_⟩
  have h2:=h.below k1
  have oR:=own_ownB (h2.r.1 0 _ rfl)
  obtain ⟨an,cn,hvn⟩:=own_sl hO
  obtain ⟨ae,ce,hve⟩:=own_se hO
  subst hvn hve
  repeat first|refine zP rfl ?_|refine zK rfl ?_
  refine o_step0 rfl rfl (And.intro rfl (And.intro rfl (And.intro (own_cells4 oR) ?_)))
  repeat first|refine zP rfl ?_|refine zK rfl ?_
  exact o_nil ⟨((L',s',r),.slice an n'.length cn,.slice ae f'.length ce,n',f'),⟨rfl,rfl,trivial⟩,(h2.xput4 (i:=0) rfl _ _ _ _).b,oR.sets rfl,(hO.put oR _).ma hL' hs',hJ⟩
 obtain ⟨⟨L',s',r⟩,vn',ve',n',f'⟩:=x
 obtain ⟨hB,oR,mR,hJ⟩:=hw
 dsimp only at hS oR mR hJ
 refine wp_ret ?_
 repeat (first | refine then_ret ?_ | refine block_ret ?_)
 refine retc2 tab_ok hS rfl rfl rfl rfl rfl (o:=0) (vs:=[Vi L',Vi s',vn',ve']) ⟨oR.cell (i:=0) rfl,oR.cell (i:=1) rfl,oR.cell (i:=2) rfl,oR.cell (i:=3) rfl,trivial⟩ rfl ⟨L',s',r,vn',ve',n',f',rfl,mR,hB,hJ⟩
theorem either_any (L1 s1 L2 s2 : Int) (vn1 ve1 vn2 ve2 : Value) (n1 n2 : List (List Int)) (f1 f2 : List Bool) (w : World) (hm : Ma w L1 s1 n1 f1 vn1 ve1) (hm2 : Ma w L2 s2 n2 f2 vn2 ve2) (hl1 : n1.length ≤ 50) (hl2 : n2.length ≤ 50) :
  Calls Tryz.prog 7 #[.agg #[Vi L1,Vi s1,vn1,ve1],.agg #[Vi L2,Vi s2,vn2,ve2]] w fun e w'=>∃ (L' s' r : Int) (vn' ve' : Value) (n' : List (List Int)) (f' : List Bool),e = .returned (.tuple #[.agg #[Vi L',Vi s',vn',ve'],Vi r]) ∧ Ma w' L' s' n' f' vn' ve' ∧ RowKit.Below w.heap.size w w' ∧ JoinE false L1 s1 n1 f1 L2 s2 n2 f2 L' s' n' f' r:=by
 refine Sym.enter (args:=[.agg #[Vi L1,Vi s1,vn1,ve1],.agg #[Vi L2,Vi s2,vn2,ve2]]) Tryz.func7 rfl rfl rfl (fun a0 hS0=>?_)
 refine wp_seq (seq_cutx (α:=Nat × Nat × Nat) (fun x=>[(2,Vp x.1),(3,Vp x.2.1),(4,Vp x.2.2)]) (fun x w'=>Hold w.heap.size w w' [oX 25 x.2.2 4 [Vi 0,Vi 0,.slice none 0 0,.slice none 0 0],oX 25 x.2.1 4 [Vi L2,Vi s2,vn2,ve2],oX 25 x.1 4 [Vi L1,Vi s1,vn1,ve1]]) tab_ok hS0 ?_ (fun x a w1 hS h=>?_))
 ·refine zB rfl ?_
  refine zB rfl ?_
  refine zB rfl ?_
  repeat first|refine zP rfl ?_|refine zK rfl ?_
  exact o_nil ⟨(_,_,_),⟨rfl,rfl,rfl,trivial⟩,(((Hold.start w).box (T:=25) (k:=4) #[Vi L1,Vi s1,vn1,ve1] rfl).box (T:=25) (k:=4) #[Vi L2,Vi s2,vn2,ve2] rfl).box (T:=25) (k:=4) #[Vi 0,Vi 0,.slice none 0 0,.slice none 0 0] rfl⟩
 obtain ⟨b0,b1,R⟩:=x
 dsimp only at hS h
 clear hS0
 refine wp_seq (seq_cutx (α:=(Int × Int × Int) × Value × Value × List (List Int) × List Bool) (fun x=>[(4,Vp R),(5,Vi x.1.2.2)]) (fun x w'=>RowKit.Below w.heap.size w w' ∧ OwnB w' R 25 [Vi x.1.1,Vi x.1.2.1,x.2.1,x.2.2.1] ∧ Ma w' x.1.1 x.1.2.1 x.2.2.2.1 x.2.2.2.2 x.2.1 x.2.2.1 ∧ JoinE false L1 s1 n1 f1 L2 s2 n2 f2 x.1.1 x.1.2.1 x.2.2.2.1 x.2.2.2.2 x.1.2.2) tab_ok hS ?_ (fun x a w2 hS hw=>?_))
 ·refine zA ([Vi L1,Vi s1,vn1,ve1]) rfl rfl (pr_x4 h.r (i:=2) rfl) ?_
  refine zA ([Vi L2,Vi s2,vn2,ve2]) rfl rfl (pr_x4 h.r (i:=1) rfl) ?_
  refine zF rfl (en_joined) (joined_any false L1 s1 L2 s2 vn1 ve1 vn2 ve2 n1 n2 f1 f2 w1 (hm.keep h.b) (hm2.keep h.b) hl1 hl2) ?_
  rintro e w2 ⟨L',s',r,vn',ve',n',f',rfl,hM,hO,hL',hs',k1,hJ⟩
  refine ⟨_,rfl,?_⟩
  have h2:=h.below k1
  have oR:=own_ownB (h2.r.1 0 _ rfl)
  obtain ⟨an,cn,hvn⟩:=own_sl hO
  obtain ⟨ae,ce,hve⟩:=own_se hO
  subst hvn hve
  repeat first|refine zP rfl ?_|refine zK rfl ?_
  refine o_step0 rfl rfl (And.intro rfl (And.intro rfl (And.intro (own_cells4 oR) ?_)))
  repeat first|refine zP rfl ?_|refine zK rfl ?_
  exact o_nil ⟨((L',s',r),.slice an n'.length cn,.slice ae f'.length ce,n',f'),⟨rfl,rfl,trivial⟩,(h2.xput4 (i:=0) rfl _ _ _ _).b,oR.sets rfl,(hO.put oR _).ma hL' hs',hJ⟩
 obtain ⟨⟨L',s',r⟩,vn',ve',n',f'⟩:=x
 obtain ⟨hB,oR,mR,hJ⟩:=hw
 dsimp only at hS oR mR hJ
 refine wp_ret ?_
 repeat (first | refine then_ret ?_ | refine block_ret ?_)
 refine retc2 tab_ok hS rfl rfl rfl rfl rfl (o:=0) (vs:=[Vi L',Vi s',vn',ve']) ⟨oR.cell (i:=0) rfl,oR.cell (i:=1) rfl,oR.cell (i:=2) rfl,oR.cell (i:=3) rfl,trivial⟩ rfl ⟨L',s',r,vn',ve',n',f',rfl,mR,hB,hJ⟩
end Go.Proofs.YthcoppfiahnpoaaGreat
namespace Go.Proofs.YthcoppfiahnpoaaGreat
open Go Sym
section
variable {M N b5 b7 b9 : Nat} {L1 s1 L2 s2 e5 e7 e9 : Int} {vn1 ve1 vn2 ve2 : Value} {n1 n2 : List (List Int)} {f1 f2 : List Bool}
set_option maxHeartbeats 4000000 in
theorem joins_r5 (JC : Jn.JoinC true 8) {w : World} (hx : MBx w M L1 s1 n1 f1 vn1 ve1) (hy : MBx w N L2 s2 n2 f2 vn2 ve2)
  (hc1 : ∀ u,RowKit.Below w.heap.size w u → Calls Tryz.prog 9 #[.agg #[Vi L1,Vi s1,vn1,ve1]] u fun e u'=>∃ vn' ve',e = .returned (.agg #[Vi L1,Vi s1,vn',ve']) ∧ OwnM u.heap.size u' n1 f1 vn' ve' ∧ RowKit.Below u.heap.size u u')
  (hc2 : ∀ u,RowKit.Below w.heap.size w u → Calls Tryz.prog 9 #[.agg #[Vi L2,Vi s2,vn2,ve2]] u fun e u'=>∃ vn' ve',e = .returned (.agg #[Vi L2,Vi s2,vn',ve']) ∧ OwnM u.heap.size u' n2 f2 vn' ve' ∧ RowKit.Below u.heap.size u u')
  (hl1 : n1.length ≤ 50) (hl2 : n2.length ≤ 50)
  {Q : Exit → Act → World → Prop} {a : Act} {ops : Array Oper} {id : Nat} (hops : Sym.regionOf Tryz.f3.body 5 = some (id,ops)) (hS : St Tryz.f3.ntmps a [(2,Vp M),(3,Vp N),(5,Vp b5),(6,Vi e5),(7,Vp b7),(8,Vi e7)])
  (hq : ∀ (x : Nat × (Int × Int × Int) × (Value × Value) × List (List Int) × List Bool) a' w',St Tryz.f3.ntmps a' [(2,Vp M),(3,Vp N),(5,Vp b5),(6,Vi e5),(7,Vp b7),(8,Vi e7),(9,Vp x.1),(10,Vi x.2.1.2.2)] → RowKit.Below w.heap.size w w' ∧ MBx w' x.1 x.2.1.1 x.2.1.2.1 x.2.2.2.1 x.2.2.2.2 x.2.2.1.1 x.2.2.1.2 ∧ JoinE true L1 s1 n1 f1 L2 s2 n2 f2 x.2.1.1 x.2.1.2.1 x.2.2.2.1 x.2.2.2.2 x.2.1.2.2 → Q .normal a' w') : (Code.region id ops true).wp Tryz.prog Q a w:=by
 cases hops
 refine any_cutx (α:=Nat × (Int × Int × Int) × (Value × Value) × List (List Int) × List Bool) 9 (fun x=>[(2,Vp M),(3,Vp N),(5,Vp b5),(6,Vi e5),(7,Vp b7),(8,Vi e7),(9,Vp x.1),(10,Vi x.2.1.2.2)]) (fun x w'=>RowKit.Below w.heap.size w w' ∧ MBx w' x.1 x.2.1.1 x.2.1.2.1 x.2.2.2.1 x.2.2.2.2 x.2.2.1.1 x.2.2.1.2 ∧ JoinE true L1 s1 n1 f1 L2 s2 n2 f2 x.2.1.1 x.2.1.2.1 x.2.2.2.1 x.2.2.2.2 x.2.1.2.2) mixed hS ?_ hq
 have hy0 : RowKit.Below w.drew.heap.size w.drew w.drew:=RowKit.Below.refl _ _
 have hd : RowKit.Below w.heap.size w w.drew:=(RowKit.Below.refl _ _).drew
 have hs0:=(Hold.start w).drew
 have hx0:=hx.keep hd
 have hz0:=hy.keep hd
 refine yT 0 tab_ok rfl (by kernel_rfl) hy0 rfl (Exists.intro ([Vi L1,Vi s1,vn1,ve1]) (And.intro rfl (And.intro (hx0.cells) rfl))) ?_
 refine yT 2 tab_ok rfl (by kernel_rfl) hy0 rfl (Exists.intro ([Vi L2,Vi s2,vn2,ve2]) (And.intro rfl (And.intro (hz0.cells) rfl))) ?_
 refine y_two 1 8 (by kernel_rfl) (y_op 1 tab_ok rfl rfl rfl rfl ?_) (y_op 8 tab_ok rfl rfl rfl rfl ?_)
 ·refine And.intro en_Copy ((hc1 _ hs0.b).mono ?_)
  rintro e u1 ⟨vm1,vf1,rfl,m1,k1⟩
  refine ⟨_,rfl,?_⟩
  have hy1:=below_trans hy0 k1
  refine And.intro (.inr hy1) ?_
  have hs1:=hs0.below k1
  refine y_two 3 8 (by kernel_rfl) (y_op 3 tab_ok rfl rfl rfl rfl ?_) (y_op 8 tab_ok rfl rfl rfl rfl ?_)
  ·refine And.intro en_Copy ((hc2 _ hs1.b).mono ?_)
   rintro e u2 ⟨vm2,vf2,rfl,m2,k2⟩
   refine ⟨_,rfl,?_⟩
   have hy2:=below_trans hy1 k2
   refine And.intro (.inr hy2) ?_
   have hs2:=hs1.below k2
   replace m1:=m1.below k2
   refine y_two 4 8 (by kernel_rfl) (y_op 4 tab_ok rfl rfl rfl rfl ?_) (y_op 8 tab_ok rfl rfl rfl rfl ?_)
   ·refine And.intro Jn.en_aBoth ((JC L1 s1 L2 s2 vm1 vf1 vm2 vf2 n1 n2 f1 f2 _ (m1.ma hx.m.L hx.m.s) (m2.ma hy.m.L hy.m.s) hl1 hl2).mono ?_)
    rintro e u3 ⟨L3,s3,r,vn3,ve3,vs3,n3,f3,rfl,hL3,hI4,hvs3,-,hI3,hH,hJ⟩
    refine ⟨_,rfl,?_⟩
    have hy3:=below_trans hy2 hH.b
    refine And.intro (.inr hy3) ?_
    have hs3:=hs2.below hH.b
    have hO:=hold_ownM hH hvs3 hI3
    refine yT 5 tab_ok rfl (by kernel_rfl) hy3 rfl (rfl) ?_
    refine yT 6 tab_ok rfl (by kernel_rfl) hy3 rfl (rfl) ?_
    refine yG 7 tab_ok rfl (by kernel_rfl) (.inr hy3) rfl rfl ?_
    refine y_one 8 (by kernel_rfl) (y_op 8 tab_ok rfl rfl rfl rfl ?_)
    have hy4:=hy3.alloc (hy3.size) (.cells #[Vi 0,Vi 0,.slice none 0 0,.slice none 0 0] 25)
    refine And.intro (.inr hy4) ?_
    have hs4:=hs3.box (T:=25) (k:=4) #[Vi 0,Vi 0,.slice none 0 0,.slice none 0 0] rfl
    replace hO:=hO.below (below_alloc _ (.cells #[Vi 0,Vi 0,.slice none 0 0,.slice none 0 0] 25))
    obtain ⟨an,cn,hv1⟩:=own_sl hO
    obtain ⟨ae,ce,hv2⟩:=own_se hO
    subst hv1 hv2
    have oA:=own_ownB (hs4.r.1 0 _ rfl)
    have hP:=hO.put oA [Vi L3,Vi s3,.slice an n3.length cn,.slice ae f3.length ce]
    have hz2:=hs4.xput4 (i:=0) rfl (Vi L3) (Vi s3) (.slice an n3.length cn) (.slice ae f3.length ce)
    refine y_one 9 (by kernel_rfl) (y_op0 9 tab_ok rfl rfl rfl ?_)
    refine And.intro rfl (And.intro rfl (And.intro (x_cells4 hs4.r (i:=0) rfl) (And.intro (.inl (by kernel_rfl)) ?_)))
    refine yG 10 tab_ok rfl (by kernel_rfl) (.inl (by kernel_rfl)) rfl rfl ?_
    exact y_endx (_,(L3,s3,r),(.slice an n3.length cn,.slice ae f3.length ce),n3,f3) (by kernel_rfl) ⟨rfl,rfl,rfl,rfl,rfl,rfl,rfl,rfl,trivial⟩ ⟨hz2.b,⟨own_ownB (hz2.r.1 0 _ rfl),hP.ma hL3 hI4⟩,hJ⟩
   ·have hy3:=hy2.alloc (hy2.size) (.cells #[Vi 0,Vi 0,.slice none 0 0,.slice none 0 0] 25)
    refine And.intro (.inr hy3) ?_
    have hs3:=hs2.box (T:=25) (k:=4) #[Vi 0,Vi 0,.slice none 0 0,.slice none 0 0] rfl
    replace m1:=m1.below (below_alloc _ (.cells #[Vi 0,Vi 0,.slice none 0 0,.slice none 0 0] 25))
    replace m2:=m2.below (below_alloc _ (.cells #[Vi 0,Vi 0,.slice none 0 0,.slice none 0 0] 25))
    refine y_one 4 (by kernel_rfl) (y_op 4 tab_ok rfl rfl rfl rfl ?_)
    refine And.intro Jn.en_aBoth ((JC L1 s1 L2 s2 vm1 vf1 vm2 vf2 n1 n2 f1 f2 _ (m1.ma hx.m.L hx.m.s) (m2.ma hy.m.L hy.m.s) hl1 hl2).mono ?_)
    rintro e u4 ⟨L3,s3,r,vn3,ve3,vs3,n3,f3,rfl,hL3,hI4,hvs3,-,hI3,hH,hJ⟩
    refine ⟨_,rfl,?_⟩
    have hy4:=below_trans hy3 hH.b
    refine And.intro (.inr hy4) ?_
    have hs4:=hs3.below hH.b
    have hO:=hold_ownM hH hvs3 hI3
    refine yT 5 tab_ok rfl (by kernel_rfl) hy4 rfl (rfl) ?_
    refine yT 6 tab_ok rfl (by kernel_rfl) hy4 rfl (rfl) ?_
    refine yG 7 tab_ok rfl (by kernel_rfl) (.inr hy4) rfl rfl ?_
    obtain ⟨an,cn,hv1⟩:=own_sl hO
    obtain ⟨ae,ce,hv2⟩:=own_se hO
    subst hv1 hv2
    have oA:=own_ownB (hs4.r.1 0 _ rfl)
    have hP:=hO.put oA [Vi L3,Vi s3,.slice an n3.length cn,.slice ae f3.length ce]
    have hz2:=hs4.xput4 (i:=0) rfl (Vi L3) (Vi s3) (.slice an n3.length cn) (.slice ae f3.length ce)
    refine y_one 9 (by kernel_rfl) (y_op0 9 tab_ok rfl rfl rfl ?_)
    refine And.intro rfl (And.intro rfl (And.intro (x_cells4 hs4.r (i:=0) rfl) (And.intro (.inl (by kernel_rfl)) ?_)))
    refine yG 10 tab_ok rfl (by kernel_rfl) (.inl (by kernel_rfl)) rfl rfl ?_
    exact y_endx (_,(L3,s3,r),(.slice an n3.length cn,.slice ae f3.length ce),n3,f3) (by kernel_rfl) ⟨rfl,rfl,rfl,rfl,rfl,rfl,rfl,rfl,trivial⟩ ⟨hz2.b,⟨own_ownB (hz2.r.1 0 _ rfl),hP.ma hL3 hI4⟩,hJ⟩
  ·have hy2:=hy1.alloc (hy1.size) (.cells #[Vi 0,Vi 0,.slice none 0 0,.slice none 0 0] 25)
   refine And.intro (.inr hy2) ?_
   have hs2:=hs1.box (T:=25) (k:=4) #[Vi 0,Vi 0,.slice none 0 0,.slice none 0 0] rfl
   replace m1:=m1.below (below_alloc _ (.cells #[Vi 0,Vi 0,.slice none 0 0,.slice none 0 0] 25))
   refine y_one 3 (by kernel_rfl) (y_op 3 tab_ok rfl rfl rfl rfl ?_)
   refine And.intro en_Copy ((hc2 _ hs2.b).mono ?_)
   rintro e u3 ⟨vm2,vf2,rfl,m2,k3⟩
   refine ⟨_,rfl,?_⟩
   have hy3:=below_trans hy2 k3
   refine And.intro (.inr hy3) ?_
   have hs3:=hs2.below k3
   replace m1:=m1.below k3
   refine y_one 4 (by kernel_rfl) (y_op 4 tab_ok rfl rfl rfl rfl ?_)
   refine And.intro Jn.en_aBoth ((JC L1 s1 L2 s2 vm1 vf1 vm2 vf2 n1 n2 f1 f2 _ (m1.ma hx.m.L hx.m.s) (m2.ma hy.m.L hy.m.s) hl1 hl2).mono ?_)
   rintro e u4 ⟨L3,s3,r,vn3,ve3,vs3,n3,f3,rfl,hL3,hI4,hvs3,-,hI3,hH,hJ⟩
   refine ⟨_,rfl,?_⟩
   have hy4:=below_trans hy3 hH.b
   refine And.intro (.inr hy4) ?_
   have hs4:=hs3.below hH.b
   have hO:=hold_ownM hH hvs3 hI3
   refine yT 5 tab_ok rfl (by kernel_rfl) hy4 rfl (rfl) ?_
   refine yT 6 tab_ok rfl (by kernel_rfl) hy4 rfl (rfl) ?_
   refine yG 7 tab_ok rfl (by kernel_rfl) (.inr hy4) rfl rfl ?_
   obtain ⟨an,cn,hv1⟩:=own_sl hO
   obtain ⟨ae,ce,hv2⟩:=own_se hO
   subst hv1 hv2
   have oA:=own_ownB (hs4.r.1 0 _ rfl)
   have hP:=hO.put oA [Vi L3,Vi s3,.slice an n3.length cn,.slice ae f3.length ce]
   have hz2:=hs4.xput4 (i:=0) rfl (Vi L3) (Vi s3) (.slice an n3.length cn) (.slice ae f3.length ce)
   refine y_one 9 (by kernel_rfl) (y_op0 9 tab_ok rfl rfl rfl ?_)
   refine And.intro rfl (And.intro rfl (And.intro (x_cells4 hs4.r (i:=0) rfl) (And.intro (.inl (by kernel_rfl)) ?_)))
   refine yG 10 tab_ok rfl (by kernel_rfl) (.inl (by kernel_rfl)) rfl rfl ?_
   exact y_endx (_,(L3,s3,r),(.slice an n3.length cn,.slice ae f3.length ce),n3,f3) (by kernel_rfl) ⟨rfl,rfl,rfl,rfl,rfl,rfl,rfl,rfl,trivial⟩ ⟨hz2.b,⟨own_ownB (hz2.r.1 0 _ rfl),hP.ma hL3 hI4⟩,hJ⟩
 ·have hy1:=hy0.alloc (Nat.le_refl _) (.cells #[Vi 0,Vi 0,.slice none 0 0,.slice none 0 0] 25)
  refine And.intro (.inr hy1) ?_
  have hs1:=hs0.box (T:=25) (k:=4) #[Vi 0,Vi 0,.slice none 0 0,.slice none 0 0] rfl
  refine y_one 1 (by kernel_rfl) (y_op 1 tab_ok rfl rfl rfl rfl ?_)
  refine And.intro en_Copy ((hc1 _ hs1.b).mono ?_)
  rintro e u2 ⟨vm1,vf1,rfl,m1,k2⟩
  refine ⟨_,rfl,?_⟩
  have hy2:=below_trans hy1 k2
  refine And.intro (.inr hy2) ?_
  have hs2:=hs1.below k2
  refine y_one 3 (by kernel_rfl) (y_op 3 tab_ok rfl rfl rfl rfl ?_)
  refine And.intro en_Copy ((hc2 _ hs2.b).mono ?_)
  rintro e u3 ⟨vm2,vf2,rfl,m2,k3⟩
  refine ⟨_,rfl,?_⟩
  have hy3:=below_trans hy2 k3
  refine And.intro (.inr hy3) ?_
  have hs3:=hs2.below k3
  replace m1:=m1.below k3
  refine y_one 4 (by kernel_rfl) (y_op 4 tab_ok rfl rfl rfl rfl ?_)
  refine And.intro Jn.en_aBoth ((JC L1 s1 L2 s2 vm1 vf1 vm2 vf2 n1 n2 f1 f2 _ (m1.ma hx.m.L hx.m.s) (m2.ma hy.m.L hy.m.s) hl1 hl2).mono ?_)
  rintro e u4 ⟨L3,s3,r,vn3,ve3,vs3,n3,f3,rfl,hL3,hI4,hvs3,-,hI3,hH,hJ⟩
  refine ⟨_,rfl,?_⟩
  have hy4:=below_trans hy3 hH.b
  refine And.intro (.inr hy4) ?_
  have hs4:=hs3.below hH.b
  have hO:=hold_ownM hH hvs3 hI3
  refine yT 5 tab_ok rfl (by kernel_rfl) hy4 rfl (rfl) ?_
  refine yT 6 tab_ok rfl (by kernel_rfl) hy4 rfl (rfl) ?_
  refine yG 7 tab_ok rfl (by kernel_rfl) (.inr hy4) rfl rfl ?_
  obtain ⟨an,cn,hv1⟩:=own_sl hO
  obtain ⟨ae,ce,hv2⟩:=own_se hO
  subst hv1 hv2
  have oA:=own_ownB (hs4.r.1 0 _ rfl)
  have hP:=hO.put oA [Vi L3,Vi s3,.slice an n3.length cn,.slice ae f3.length ce]
  have hz2:=hs4.xput4 (i:=0) rfl (Vi L3) (Vi s3) (.slice an n3.length cn) (.slice ae f3.length ce)
  refine y_one 9 (by kernel_rfl) (y_op0 9 tab_ok rfl rfl rfl ?_)
  refine And.intro rfl (And.intro rfl (And.intro (x_cells4 hs4.r (i:=0) rfl) (And.intro (.inl (by kernel_rfl)) ?_)))
  refine yG 10 tab_ok rfl (by kernel_rfl) (.inl (by kernel_rfl)) rfl rfl ?_
  exact y_endx (_,(L3,s3,r),(.slice an n3.length cn,.slice ae f3.length ce),n3,f3) (by kernel_rfl) ⟨rfl,rfl,rfl,rfl,rfl,rfl,rfl,rfl,trivial⟩ ⟨hz2.b,⟨own_ownB (hz2.r.1 0 _ rfl),hP.ma hL3 hI4⟩,hJ⟩
set_option maxHeartbeats 4000000 in
theorem joins_r6 (JC : Jn.JoinC false 10) {w : World} (hx : MBx w M L1 s1 n1 f1 vn1 ve1) (hy : MBx w N L2 s2 n2 f2 vn2 ve2)
  (hc1 : ∀ u,RowKit.Below w.heap.size w u → Calls Tryz.prog 9 #[.agg #[Vi L1,Vi s1,vn1,ve1]] u fun e u'=>∃ vn' ve',e = .returned (.agg #[Vi L1,Vi s1,vn',ve']) ∧ OwnM u.heap.size u' n1 f1 vn' ve' ∧ RowKit.Below u.heap.size u u')
  (hc2 : ∀ u,RowKit.Below w.heap.size w u → Calls Tryz.prog 9 #[.agg #[Vi L2,Vi s2,vn2,ve2]] u fun e u'=>∃ vn' ve',e = .returned (.agg #[Vi L2,Vi s2,vn',ve']) ∧ OwnM u.heap.size u' n2 f2 vn' ve' ∧ RowKit.Below u.heap.size u u')
  (hl1 : n1.length ≤ 50) (hl2 : n2.length ≤ 50)
  {Q : Exit → Act → World → Prop} {a : Act} {ops : Array Oper} {id : Nat} (hops : Sym.regionOf Tryz.f3.body 6 = some (id,ops)) (hS : St Tryz.f3.ntmps a [(2,Vp M),(3,Vp N),(5,Vp b5),(6,Vi e5),(7,Vp b7),(8,Vi e7),(9,Vp b9),(10,Vi e9)])
  (hq : ∀ (x : Nat × (Int × Int × Int) × (Value × Value) × List (List Int) × List Bool) a' w',St Tryz.f3.ntmps a' [(5,Vp b5),(6,Vi e5),(7,Vp b7),(8,Vi e7),(9,Vp b9),(10,Vi e9),(11,Vp x.1),(12,Vi x.2.1.2.2)] → RowKit.Below w.heap.size w w' ∧ MBx w' x.1 x.2.1.1 x.2.1.2.1 x.2.2.2.1 x.2.2.2.2 x.2.2.1.1 x.2.2.1.2 ∧ JoinE false L1 s1 n1 f1 L2 s2 n2 f2 x.2.1.1 x.2.1.2.1 x.2.2.2.1 x.2.2.2.2 x.2.1.2.2 → Q .normal a' w') : (Code.region id ops true).wp Tryz.prog Q a w:=by
 cases hops
 refine any_cutx (α:=Nat × (Int × Int × Int) × (Value × Value) × List (List Int) × List Bool) 9 (fun x=>[(5,Vp b5),(6,Vi e5),(7,Vp b7),(8,Vi e7),(9,Vp b9),(10,Vi e9),(11,Vp x.1),(12,Vi x.2.1.2.2)]) (fun x w'=>RowKit.Below w.heap.size w w' ∧ MBx w' x.1 x.2.1.1 x.2.1.2.1 x.2.2.2.1 x.2.2.2.2 x.2.2.1.1 x.2.2.1.2 ∧ JoinE false L1 s1 n1 f1 L2 s2 n2 f2 x.2.1.1 x.2.1.2.1 x.2.2.2.1 x.2.2.2.2 x.2.1.2.2) mixed hS ?_ hq
 have hy0 : RowKit.Below w.drew.heap.size w.drew w.drew:=RowKit.Below.refl _ _
 have hd : RowKit.Below w.heap.size w w.drew:=(RowKit.Below.refl _ _).drew
 have hs0:=(Hold.start w).drew
 have hx0:=hx.keep hd
 have hz0:=hy.keep hd
 refine yT 0 tab_ok rfl (by kernel_rfl) hy0 rfl (Exists.intro ([Vi L1,Vi s1,vn1,ve1]) (And.intro rfl (And.intro (hx0.cells) rfl))) ?_
 refine yT 2 tab_ok rfl (by kernel_rfl) hy0 rfl (Exists.intro ([Vi L2,Vi s2,vn2,ve2]) (And.intro rfl (And.intro (hz0.cells) rfl))) ?_
 refine y_two 1 8 (by kernel_rfl) (y_op 1 tab_ok rfl rfl rfl rfl ?_) (y_op 8 tab_ok rfl rfl rfl rfl ?_)
 ·refine And.intro en_Copy ((hc1 _ hs0.b).mono ?_)
  rintro e u1 ⟨vm1,vf1,rfl,m1,k1⟩
  refine ⟨_,rfl,?_⟩
  have hy1:=below_trans hy0 k1
  refine And.intro (.inr hy1) ?_
  have hs1:=hs0.below k1
  refine y_two 3 8 (by kernel_rfl) (y_op 3 tab_ok rfl rfl rfl rfl ?_) (y_op 8 tab_ok rfl rfl rfl rfl ?_)
  ·refine And.intro en_Copy ((hc2 _ hs1.b).mono ?_)
   rintro e u2 ⟨vm2,vf2,rfl,m2,k2⟩
   refine ⟨_,rfl,?_⟩
   have hy2:=below_trans hy1 k2
   refine And.intro (.inr hy2) ?_
   have hs2:=hs1.below k2
   replace m1:=m1.below k2
   refine y_two 4 8 (by kernel_rfl) (y_op 4 tab_ok rfl rfl rfl rfl ?_) (y_op 8 tab_ok rfl rfl rfl rfl ?_)
   ·refine And.intro Jn.en_aEither ((JC L1 s1 L2 s2 vm1 vf1 vm2 vf2 n1 n2 f1 f2 _ (m1.ma hx.m.L hx.m.s) (m2.ma hy.m.L hy.m.s) hl1 hl2).mono ?_)
    rintro e u3 ⟨L3,s3,r,vn3,ve3,vs3,n3,f3,rfl,hL3,hI4,hvs3,-,hI3,hH,hJ⟩
    refine ⟨_,rfl,?_⟩
    have hy3:=below_trans hy2 hH.b
    refine And.intro (.inr hy3) ?_
    have hs3:=hs2.below hH.b
    have hO:=hold_ownM hH hvs3 hI3
    refine yT 5 tab_ok rfl (by kernel_rfl) hy3 rfl (rfl) ?_
    refine yT 6 tab_ok rfl (by kernel_rfl) hy3 rfl (rfl) ?_
    refine yG 7 tab_ok rfl (by kernel_rfl) (.inr hy3) rfl rfl ?_
    refine y_one 8 (by kernel_rfl) (y_op 8 tab_ok rfl rfl rfl rfl ?_)
    have hy4:=hy3.alloc (hy3.size) (.cells #[Vi 0,Vi 0,.slice none 0 0,.slice none 0 0] 25)
    refine And.intro (.inr hy4) ?_
    have hs4:=hs3.box (T:=25) (k:=4) #[Vi 0,Vi 0,.slice none 0 0,.slice none 0 0] rfl
    replace hO:=hO.below (below_alloc _ (.cells #[Vi 0,Vi 0,.slice none 0 0,.slice none 0 0] 25))
    obtain ⟨an,cn,hv1⟩:=own_sl hO
    obtain ⟨ae,ce,hv2⟩:=own_se hO
    subst hv1 hv2
    have oA:=own_ownB (hs4.r.1 0 _ rfl)
    have hP:=hO.put oA [Vi L3,Vi s3,.slice an n3.length cn,.slice ae f3.length ce]
    have hz2:=hs4.xput4 (i:=0) rfl (Vi L3) (Vi s3) (.slice an n3.length cn) (.slice ae f3.length ce)
    refine y_one 9 (by kernel_rfl) (y_op0 9 tab_ok rfl rfl rfl ?_)
    refine And.intro rfl (And.intro rfl (And.intro (x_cells4 hs4.r (i:=0) rfl) (And.intro (.inl (by kernel_rfl)) ?_)))
    refine yG 10 tab_ok rfl (by kernel_rfl) (.inl (by kernel_rfl)) rfl rfl ?_
    exact y_endx (_,(L3,s3,r),(.slice an n3.length cn,.slice ae f3.length ce),n3,f3) (by kernel_rfl) ⟨rfl,rfl,rfl,rfl,rfl,rfl,rfl,rfl,trivial⟩ ⟨hz2.b,⟨own_ownB (hz2.r.1 0 _ rfl),hP.ma hL3 hI4⟩,hJ⟩
   ·have hy3:=hy2.alloc (hy2.size) (.cells #[Vi 0,Vi 0,.slice none 0 0,.slice none 0 0] 25)
    refine And.intro (.inr hy3) ?_
    have hs3:=hs2.box (T:=25) (k:=4) #[Vi 0,Vi 0,.slice none 0 0,.slice none 0 0] rfl
    replace m1:=m1.below (below_alloc _ (.cells #[Vi 0,Vi 0,.slice none 0 0,.slice none 0 0] 25))
    replace m2:=m2.below (below_alloc _ (.cells #[Vi 0,Vi 0,.slice none 0 0,.slice none 0 0] 25))
    refine y_one 4 (by kernel_rfl) (y_op 4 tab_ok rfl rfl rfl rfl ?_)
    refine And.intro Jn.en_aEither ((JC L1 s1 L2 s2 vm1 vf1 vm2 vf2 n1 n2 f1 f2 _ (m1.ma hx.m.L hx.m.s) (m2.ma hy.m.L hy.m.s) hl1 hl2).mono ?_)
    rintro e u4 ⟨L3,s3,r,vn3,ve3,vs3,n3,f3,rfl,hL3,hI4,hvs3,-,hI3,hH,hJ⟩
    refine ⟨_,rfl,?_⟩
    have hy4:=below_trans hy3 hH.b
    refine And.intro (.inr hy4) ?_
    have hs4:=hs3.below hH.b
    have hO:=hold_ownM hH hvs3 hI3
    refine yT 5 tab_ok rfl (by kernel_rfl) hy4 rfl (rfl) ?_
    refine yT 6 tab_ok rfl (by kernel_rfl) hy4 rfl (rfl) ?_
    refine yG 7 tab_ok rfl (by kernel_rfl) (.inr hy4) rfl rfl ?_
    obtain ⟨an,cn,hv1⟩:=own_sl hO
    obtain ⟨ae,ce,hv2⟩:=own_se hO
    subst hv1 hv2
    have oA:=own_ownB (hs4.r.1 0 _ rfl)
    have hP:=hO.put oA [Vi L3,Vi s3,.slice an n3.length cn,.slice ae f3.length ce]
    have hz2:=hs4.xput4 (i:=0) rfl (Vi L3) (Vi s3) (.slice an n3.length cn) (.slice ae f3.length ce)
    refine y_one 9 (by kernel_rfl) (y_op0 9 tab_ok rfl rfl rfl ?_)
    refine And.intro rfl (And.intro rfl (And.intro (x_cells4 hs4.r (i:=0) rfl) (And.intro (.inl (by kernel_rfl)) ?_)))
    refine yG 10 tab_ok rfl (by kernel_rfl) (.inl (by kernel_rfl)) rfl rfl ?_
    exact y_endx (_,(L3,s3,r),(.slice an n3.length cn,.slice ae f3.length ce),n3,f3) (by kernel_rfl) ⟨rfl,rfl,rfl,rfl,rfl,rfl,rfl,rfl,trivial⟩ ⟨hz2.b,⟨own_ownB (hz2.r.1 0 _ rfl),hP.ma hL3 hI4⟩,hJ⟩
  ·have hy2:=hy1.alloc (hy1.size) (.cells #[Vi 0,Vi 0,.slice none 0 0,.slice none 0 0] 25)
   refine And.intro (.inr hy2) ?_
   have hs2:=hs1.box (T:=25) (k:=4) #[Vi 0,Vi 0,.slice none 0 0,.slice none 0 0] rfl
   replace m1:=m1.below (below_alloc _ (.cells #[Vi 0,Vi 0,.slice none 0 0,.slice none 0 0] 25))
   refine y_one 3 (by kernel_rfl) (y_op 3 tab_ok rfl rfl rfl rfl ?_)
   refine And.intro en_Copy ((hc2 _ hs2.b).mono ?_)
   rintro e u3 ⟨vm2,vf2,rfl,m2,k3⟩
   refine ⟨_,rfl,?_⟩
   have hy3:=below_trans hy2 k3
   refine And.intro (.inr hy3) ?_
   have hs3:=hs2.below k3
   replace m1:=m1.below k3
   refine y_one 4 (by kernel_rfl) (y_op 4 tab_ok rfl rfl rfl rfl ?_)
   refine And.intro Jn.en_aEither ((JC L1 s1 L2 s2 vm1 vf1 vm2 vf2 n1 n2 f1 f2 _ (m1.ma hx.m.L hx.m.s) (m2.ma hy.m.L hy.m.s) hl1 hl2).mono ?_)
   rintro e u4 ⟨L3,s3,r,vn3,ve3,vs3,n3,f3,rfl,hL3,hI4,hvs3,-,hI3,hH,hJ⟩
   refine ⟨_,rfl,?_⟩
   have hy4:=below_trans hy3 hH.b
   refine And.intro (.inr hy4) ?_
   have hs4:=hs3.below hH.b
   have hO:=hold_ownM hH hvs3 hI3
   refine yT 5 tab_ok rfl (by kernel_rfl) hy4 rfl (rfl) ?_
   refine yT 6 tab_ok rfl (by kernel_rfl) hy4 rfl (rfl) ?_
   refine yG 7 tab_ok rfl (by kernel_rfl) (.inr hy4) rfl rfl ?_
   obtain ⟨an,cn,hv1⟩:=own_sl hO
   obtain ⟨ae,ce,hv2⟩:=own_se hO
   subst hv1 hv2
   have oA:=own_ownB (hs4.r.1 0 _ rfl)
   have hP:=hO.put oA [Vi L3,Vi s3,.slice an n3.length cn,.slice ae f3.length ce]
   have hz2:=hs4.xput4 (i:=0) rfl (Vi L3) (Vi s3) (.slice an n3.length cn) (.slice ae f3.length ce)
   refine y_one 9 (by kernel_rfl) (y_op0 9 tab_ok rfl rfl rfl ?_)
   refine And.intro rfl (And.intro rfl (And.intro (x_cells4 hs4.r (i:=0) rfl) (And.intro (.inl (by kernel_rfl)) ?_)))
   refine yG 10 tab_ok rfl (by kernel_rfl) (.inl (by kernel_rfl)) rfl rfl ?_
   exact y_endx (_,(L3,s3,r),(.slice an n3.length cn,.slice ae f3.length ce),n3,f3) (by kernel_rfl) ⟨rfl,rfl,rfl,rfl,rfl,rfl,rfl,rfl,trivial⟩ ⟨hz2.b,⟨own_ownB (hz2.r.1 0 _ rfl),hP.ma hL3 hI4⟩,hJ⟩
 ·have hy1:=hy0.alloc (Nat.le_refl _) (.cells #[Vi 0,Vi 0,.slice none 0 0,.slice none 0 0] 25)
  refine And.intro (.inr hy1) ?_
  have hs1:=hs0.box (T:=25) (k:=4) #[Vi 0,Vi 0,.slice none 0 0,.slice none 0 0] rfl
  refine y_one 1 (by kernel_rfl) (y_op 1 tab_ok rfl rfl rfl rfl ?_)
  refine And.intro en_Copy ((hc1 _ hs1.b).mono ?_)
  rintro e u2 ⟨vm1,vf1,rfl,m1,k2⟩
  refine ⟨_,rfl,?_⟩
  have hy2:=below_trans hy1 k2
  refine And.intro (.inr hy2) ?_
  have hs2:=hs1.below k2
  refine y_one 3 (by kernel_rfl) (y_op 3 tab_ok rfl rfl rfl rfl ?_)
  refine And.intro en_Copy ((hc2 _ hs2.b).mono ?_)
  rintro e u3 ⟨vm2,vf2,rfl,m2,k3⟩
  refine ⟨_,rfl,?_⟩
  have hy3:=below_trans hy2 k3
  refine And.intro (.inr hy3) ?_
  have hs3:=hs2.below k3
  replace m1:=m1.below k3
  refine y_one 4 (by kernel_rfl) (y_op 4 tab_ok rfl rfl rfl rfl ?_)
  refine And.intro Jn.en_aEither ((JC L1 s1 L2 s2 vm1 vf1 vm2 vf2 n1 n2 f1 f2 _ (m1.ma hx.m.L hx.m.s) (m2.ma hy.m.L hy.m.s) hl1 hl2).mono ?_)
  rintro e u4 ⟨L3,s3,r,vn3,ve3,vs3,n3,f3,rfl,hL3,hI4,hvs3,-,hI3,hH,hJ⟩
  refine ⟨_,rfl,?_⟩
  have hy4:=below_trans hy3 hH.b
  refine And.intro (.inr hy4) ?_
  have hs4:=hs3.below hH.b
  have hO:=hold_ownM hH hvs3 hI3
  refine yT 5 tab_ok rfl (by kernel_rfl) hy4 rfl (rfl) ?_
  refine yT 6 tab_ok rfl (by kernel_rfl) hy4 rfl (rfl) ?_
  refine yG 7 tab_ok rfl (by kernel_rfl) (.inr hy4) rfl rfl ?_
  obtain ⟨an,cn,hv1⟩:=own_sl hO
  obtain ⟨ae,ce,hv2⟩:=own_se hO
  subst hv1 hv2
  have oA:=own_ownB (hs4.r.1 0 _ rfl)
  have hP:=hO.put oA [Vi L3,Vi s3,.slice an n3.length cn,.slice ae f3.length ce]
  have hz2:=hs4.xput4 (i:=0) rfl (Vi L3) (Vi s3) (.slice an n3.length cn) (.slice ae f3.length ce)
  refine y_one 9 (by kernel_rfl) (y_op0 9 tab_ok rfl rfl rfl ?_)
  refine And.intro rfl (And.intro rfl (And.intro (x_cells4 hs4.r (i:=0) rfl) (And.intro (.inl (by kernel_rfl)) ?_)))
  refine yG 10 tab_ok rfl (by kernel_rfl) (.inl (by kernel_rfl)) rfl rfl ?_
  exact y_endx (_,(L3,s3,r),(.slice an n3.length cn,.slice ae f3.length ce),n3,f3) (by kernel_rfl) ⟨rfl,rfl,rfl,rfl,rfl,rfl,rfl,rfl,trivial⟩ ⟨hz2.b,⟨own_ownB (hz2.r.1 0 _ rfl),hP.ma hL3 hI4⟩,hJ⟩
end
set_option maxHeartbeats 4000000 in
theorem autoJoins_any (C : AwakeC) (JB : Jn.JoinC true 8) (JE : Jn.JoinC false 10) (L1 s1 L2 s2 : Int) (vn1 ve1 vn2 ve2 : Value) (n1 n2 : List (List Int)) (f1 f2 : List Bool) (w : World)
  (hi1 : MaIn w L1 s1 n1 f1 vn1 ve1) (hi2 : MaIn w L2 s2 n2 f2 vn2 ve2) :
  Calls Tryz.prog 3 #[.agg #[Vi L1,Vi s1,vn1,ve1],.agg #[Vi L2,Vi s2,vn2,ve2]] w fun e w'=>e = .returned (.bool true) ∧ RowKit.Below w.heap.size w w':=by
 refine Sym.enter (args:=[.agg #[Vi L1,Vi s1,vn1,ve1],.agg #[Vi L2,Vi s2,vn2,ve2]]) Tryz.func3 rfl rfl rfl (fun a0 hS0=>?_)
 obtain ⟨M,hM⟩ : ∃ M,M = w.heap.size:=⟨_,rfl⟩
 obtain ⟨N,hN⟩ : ∃ N,N = (w.alloc (.cells #[Vi L1,Vi s1,vn1,ve1] 25)).heap.size:=⟨_,rfl⟩
 refine wp_seq (seq_cut [(2,Vp M),(3,Vp N)] (· = (w.alloc (.cells #[Vi L1,Vi s1,vn1,ve1] 25)).alloc (.cells #[Vi L2,Vi s2,vn2,ve2] 25)) tab_ok hS0 ?_ (fun a wc hS hw=>?_))
 ·subst hN hM
  refine zB rfl ?_
  refine zB rfl ?_
  repeat first|refine zP rfl ?_|refine zK rfl ?_
  exact o_nil ⟨⟨rfl,rfl,trivial⟩,rfl⟩
 have hB1:=below_alloc w (.cells #[Vi L1,Vi s1,vn1,ve1] 25)
 have hB2:=below_alloc (w.alloc (.cells #[Vi L1,Vi s1,vn1,ve1] 25)) (.cells #[Vi L2,Vi s2,vn2,ve2] 25)
 rw [← hw] at hB2
 have hB:=below_trans hB1 hB2
 have hx : MBx wc M L1 s1 n1 f1 vn1 ve1:=⟨by rw [hM]; exact (OwnB.new w [Vi L1,Vi s1,vn1,ve1] 25).keep hB2 (by rw [alloc_size]; omega),hi1.ma.keep hB⟩
 have hy : MBx wc N L2 s2 n2 f2 vn2 ve2:=⟨by rw [hw,hN]; exact OwnB.new _ [Vi L2,Vi s2,vn2,ve2] _,hi2.ma.keep hB⟩
 clear hw hB1 hB2 hN hM hS0
 obtain ⟨b20,hb20⟩ : ∃ b,(!smallM L1 n1 f1 || !smallM L2 n2 f2) = b:=⟨_,rfl⟩
 refine wp_seq (wp_seq (seq_cut [(2,Vp M),(3,Vp N),(20,.bool b20)] (fun w'=>RowKit.Below wc.heap.size wc w') tab_ok hS ?_ (fun a w1 hS hw=>?_)))
 ·refine zA ([Vi L1,Vi s1,vn1,ve1]) rfl rfl (hx.cells) ?_
  refine zF rfl (en_small') (small_any L1 s1 vn1 ve1 n1 f1 _ hx.m) ?_
  rintro e w1 ⟨rfl,h1⟩
  refine ⟨_,rfl,?_⟩
  cases e1 : !smallM L1 n1 f1
  case true=>
   rw [e1,Bool.true_or] at hb20; subst hb20
   refine zP rfl ?_
   rw [e1]
   repeat first|refine zP rfl ?_|refine zK rfl ?_
   exact o_nil ⟨⟨rfl,rfl,rfl,trivial⟩,h1⟩
  rw [e1,Bool.false_or] at hb20
  refine zP rfl ?_
  rw [e1]
  repeat first|refine zP rfl ?_|refine zK rfl ?_
  refine zA ([Vi L2,Vi s2,vn2,ve2]) rfl rfl ((hy.keep h1).cells) ?_
  refine zF rfl (en_small') (small_any L2 s2 vn2 ve2 n2 f2 _ (hy.keep h1).m) ?_
  rintro e w2 ⟨rfl,h2⟩
  refine ⟨_,rfl,?_⟩
  refine zP rfl ?_
  rw [hb20]
  repeat first|refine zP rfl ?_|refine zK rfl ?_
  exact o_nil ⟨⟨rfl,rfl,rfl,trivial⟩,below_trans h1 h2⟩
 replace hB:=below_trans hB hw
 replace hx:=hx.keep hw
 replace hy:=hy.keep hw
 clear hw
 refine cond hS rfl (fun hT=>?_) (fun hF=>wp_skip ?_)
 ·refine wp_seq (seq_cut [(4,.bool true)] (fun w'=>RowKit.Below w1.heap.size w1 w') tab_ok hS ?_ (fun a w2 hS hw=>?_))
  ·refine zF rfl (en_awake) (awake_any C _) ?_
   rintro e w2 ⟨rfl,h2⟩
   refine ⟨_,rfl,?_⟩
   repeat first|refine zP rfl ?_|refine zK rfl ?_
   exact o_nil ⟨⟨rfl,trivial⟩,h2⟩
  refine wp_ret ?_
  repeat (first | refine then_ret ?_ | refine block_ret ?_)
  exact ret1 hS rfl rfl ⟨rfl,below_trans hB hw⟩
 rw [hF] at hb20
 simp only [Bool.or_eq_false_iff,Bool.not_eq_false'] at hb20
 obtain ⟨g1,g2⟩:=hb20
 obtain ⟨hs1,-,-⟩:=small_rows g1
 obtain ⟨hs2,-,-⟩:=small_rows g2
 refine wp_seq (seq_cutx (α:=Nat × (Int × Int × Int) × (Value × Value) × List (List Int) × List Bool) (fun x=>[(2,Vp M),(3,Vp N),(5,Vp x.1),(6,Vi x.2.1.2.2)]) (fun x w'=>RowKit.Below w1.heap.size w1 w' ∧ MBx w' x.1 x.2.1.1 x.2.1.2.1 x.2.2.2.1 x.2.2.2.2 x.2.2.1.1 x.2.2.1.2 ∧ JoinE true L1 s1 n1 f1 L2 s2 n2 f2 x.2.1.1 x.2.1.2.1 x.2.2.2.1 x.2.2.2.2 x.2.1.2.2) tab_ok hS ?_ (fun x a w2 hS h6=>?_))
 ·refine zA ([Vi L1,Vi s1,vn1,ve1]) rfl rfl (hx.cells) ?_
  refine zA ([Vi L2,Vi s2,vn2,ve2]) rfl rfl (hy.cells) ?_
  refine zF rfl (en_Both) (both_any L1 s1 L2 s2 vn1 ve1 vn2 ve2 n1 n2 f1 f2 _ hx.m hy.m (by omega) (by omega)) ?_
  rintro e w6 ⟨L',s',r,vn',ve',n',f',rfl,hMa,hk,hJ⟩
  refine ⟨_,rfl,?_⟩
  obtain ⟨an,cn,hvn⟩:=hMa.n.len
  obtain ⟨ae,ce,hve⟩:=hMa.e.len
  have hp:=mb_put hMa
  subst hvn hve
  repeat first|refine zP rfl ?_|refine zK rfl ?_
  refine zB rfl ?_
  refine o_step0 rfl rfl (And.intro rfl (And.intro rfl (And.intro (own_cells4 (OwnB.new w6 [Vi 0,Vi 0,.slice none 0 0,.slice none 0 0] 25)) ?_)))
  repeat first|refine zP rfl ?_|refine zK rfl ?_
  exact o_nil ⟨(w6.heap.size,(L',s',r),(.slice an n'.length cn,.slice ae f'.length ce),n',f'),⟨rfl,rfl,rfl,rfl,trivial⟩,below_trans hk hp.1,hp.2,hJ⟩
 obtain ⟨b5,⟨L5,s5,r5⟩,⟨vn5,ve5⟩,n5,f5⟩:=x
 obtain ⟨hw,h5,hj5⟩:=h6
 dsimp only at hS h5 hj5
 replace hB:=below_trans hB hw
 replace hx:=hx.keep hw
 replace hy:=hy.keep hw
 clear hw
 refine wp_seq (seq_cutx (α:=Nat × (Int × Int × Int) × (Value × Value) × List (List Int) × List Bool) (fun x=>[(2,Vp M),(3,Vp N),(5,Vp b5),(6,Vi r5),(7,Vp x.1),(8,Vi x.2.1.2.2)]) (fun x w'=>RowKit.Below w2.heap.size w2 w' ∧ MBx w' x.1 x.2.1.1 x.2.1.2.1 x.2.2.2.1 x.2.2.2.2 x.2.2.1.1 x.2.2.1.2 ∧ JoinE false L1 s1 n1 f1 L2 s2 n2 f2 x.2.1.1 x.2.1.2.1 x.2.2.2.1 x.2.2.2.2 x.2.1.2.2) tab_ok hS ?_ (fun x a w3 hS h6=>?_))
 ·refine zA ([Vi L1,Vi s1,vn1,ve1]) rfl rfl (hx.cells) ?_
  refine zA ([Vi L2,Vi s2,vn2,ve2]) rfl rfl (hy.cells) ?_
  refine zF rfl (en_Either) (either_any L1 s1 L2 s2 vn1 ve1 vn2 ve2 n1 n2 f1 f2 _ hx.m hy.m (by omega) (by omega)) ?_
  rintro e w6 ⟨L',s',r,vn',ve',n',f',rfl,hMa,hk,hJ⟩
  refine ⟨_,rfl,?_⟩
  obtain ⟨an,cn,hvn⟩:=hMa.n.len
  obtain ⟨ae,ce,hve⟩:=hMa.e.len
  have hp:=mb_put hMa
  subst hvn hve
  repeat first|refine zP rfl ?_|refine zK rfl ?_
  refine zB rfl ?_
  refine o_step0 rfl rfl (And.intro rfl (And.intro rfl (And.intro (own_cells4 (OwnB.new w6 [Vi 0,Vi 0,.slice none 0 0,.slice none 0 0] 25)) ?_)))
  repeat first|refine zP rfl ?_|refine zK rfl ?_
  exact o_nil ⟨(w6.heap.size,(L',s',r),(.slice an n'.length cn,.slice ae f'.length ce),n',f'),⟨rfl,rfl,rfl,rfl,rfl,rfl,trivial⟩,below_trans hk hp.1,hp.2,hJ⟩
 obtain ⟨b7,⟨L7,s7,r7⟩,⟨vn7,ve7⟩,n7,f7⟩:=x
 obtain ⟨hw,h7,hj7⟩:=h6
 dsimp only at hS h7 hj7
 replace hB:=below_trans hB hw
 replace hx:=hx.keep hw
 replace hy:=hy.keep hw
 replace h5:=h5.keep hw
 clear hw
 refine wp_seq (joins_r5 JB hx hy (fun u hu=>hi1.copy (below_trans hB hu)) (fun u hu=>hi2.copy (below_trans hB hu)) (by omega) (by omega) (by rfl) hS ?_)
 rintro ⟨b9,⟨L9,s9,r9⟩,⟨vn9,ve9⟩,n9,f9⟩ a w4 hS ⟨hw,h9,hj9⟩
 dsimp only at hS h9 hj9
 obtain ⟨rfl,rfl,rfl,rfl,rfl⟩:=hj5.one hj9
 replace hB:=below_trans hB hw
 replace hx:=hx.keep hw
 replace hy:=hy.keep hw
 replace h5:=h5.keep hw
 replace h7:=h7.keep hw
 clear hw hj9
 refine wp_seq (joins_r6 JE hx hy (fun u hu=>hi1.copy (below_trans hB hu)) (fun u hu=>hi2.copy (below_trans hB hu)) (by omega) (by omega) (by rfl) hS ?_)
 rintro ⟨b11,⟨L11,s11,r11⟩,⟨vn11,ve11⟩,n11,f11⟩ a w5 hS ⟨hw,h11,hj11⟩
 dsimp only at hS h11 hj11
 obtain ⟨rfl,rfl,rfl,rfl,rfl⟩:=hj7.one hj11
 replace hB:=below_trans hB hw
 replace h5:=h5.keep hw
 replace h7:=h7.keep hw
 replace h9:=h9.keep hw
 clear hw hj11 hx hy
 refine wp_seq (wp_seq (seq_cut [(5,Vp b5),(6,Vi r5),(7,Vp b7),(8,Vi r7),(9,Vp b9),(11,Vp b11),(57,.bool false)] (· = w5) tab_ok hS ?_ (fun a w6 hS hw=>?_)))
 ·repeat first|refine zP rfl ?_|refine zK rfl ?_
  refine zC rfl (decide_eq_false (fun h=>h rfl)) ?_
  repeat first|refine zP rfl ?_|refine zK rfl ?_
  refine zC rfl (decide_eq_false (fun h=>h rfl)) ?_
  repeat first|refine zP rfl ?_|refine zK rfl ?_
  exact o_nil ⟨⟨rfl,rfl,rfl,rfl,rfl,rfl,rfl,trivial⟩,rfl⟩
 subst hw
 refine cond hS rfl (fun hT=>by cases hT) (fun _=>wp_skip ?_)
 refine wp_seq (seq_cut [(4,.bool true)] (fun w'=>RowKit.Below w6.heap.size w6 w') tab_ok hS ?_ (fun a w7 hS hw=>?_))
 ·rcases hj5 with ⟨h0,rfl,rfl,rfl,rfl,rfl⟩ | ⟨h0,rfl,-⟩
  ·obtain ⟨-,rfl,rfl,rfl,rfl,rfl⟩ : _ ∧ r7 = twoM L1 s1 n1 f1 L2 s2 n2 f2 ∧ L7 = 0 ∧ s7 = 0 ∧ n7 = [] ∧ f7 = []:=hj7.resolve_right (fun h=>h0 h.1)
   obtain ⟨a9,c9,k9⟩:=h9.m.n.len
   obtain ⟨a11,c11,k11⟩:=h11.m.n.len
   subst k9 k11
   repeat first|refine zP rfl ?_|refine zK rfl ?_
   refine zC rfl (decide_eq_false h0) ?_
   repeat first|refine zP rfl ?_|refine zK rfl ?_
   refine zC rfl (decide_eq_true h0) ?_
   repeat first|refine zP rfl ?_|refine zK rfl ?_
   refine zL rfl (h9.o.cell (i:=2) rfl) ?_
   repeat first|refine zP rfl ?_|refine zK rfl ?_
   refine zC rfl (decide_eq_true rfl) ?_
   repeat first|refine zP rfl ?_|refine zK rfl ?_
   refine zC rfl (decide_eq_false h0) ?_
   repeat first|refine zP rfl ?_|refine zK rfl ?_
   refine zC rfl (decide_eq_true h0) ?_
   repeat first|refine zP rfl ?_|refine zK rfl ?_
   refine zL rfl (h11.o.cell (i:=2) rfl) ?_
   repeat first|refine zP rfl ?_|refine zK rfl ?_
   refine zC rfl (decide_eq_true rfl) ?_
   repeat first|refine zP rfl ?_|refine zK rfl ?_
   refine zF rfl (en_awake) (awake_any C _) ?_
   rintro e w2 ⟨rfl,h2⟩
   refine ⟨_,rfl,?_⟩
   repeat first|refine zP rfl ?_|refine zK rfl ?_
   exact o_nil ⟨⟨rfl,trivial⟩,h2⟩
  ·obtain ⟨-,rfl,-⟩:=hj7.resolve_left (fun h=>h.1 h0)
   repeat first|refine zP rfl ?_|refine zK rfl ?_
   refine zC rfl (decide_eq_true rfl) ?_
   repeat first|refine zP rfl ?_|refine zK rfl ?_
   refine zA ([Vi L5,Vi s5,vn9,ve9]) rfl rfl (h9.cells) ?_
   refine zA ([Vi L5,Vi s5,vn5,ve5]) rfl rfl (h5.cells) ?_
   refine zF rfl (en_Same) (same_any L5 s5 L5 s5 vn9 ve9 vn5 ve5 n5 n5 f5 f5 _ h9.m h5.m) ?_
   rintro e w7 ⟨rfl,k1⟩
   refine ⟨_,rfl,?_⟩
   rw [show sameM L5 s5 n5 f5 L5 s5 n5 f5 = true from decide_eq_true ⟨rfl,rfl,rfl,rfl⟩]
   repeat first|refine zP rfl ?_|refine zK rfl ?_
   refine zC rfl (decide_eq_true rfl) ?_
   repeat first|refine zP rfl ?_|refine zK rfl ?_
   refine zA ([Vi L7,Vi s7,vn11,ve11]) rfl rfl ((h11.keep k1).cells) ?_
   refine zA ([Vi L7,Vi s7,vn7,ve7]) rfl rfl ((h7.keep k1).cells) ?_
   refine zF rfl (en_Same) (same_any L7 s7 L7 s7 vn11 ve11 vn7 ve7 n7 n7 f7 f7 _ (h11.keep k1).m (h7.keep k1).m) ?_
   rintro e w8 ⟨rfl,k2⟩
   refine ⟨_,rfl,?_⟩
   rw [show sameM L7 s7 n7 f7 L7 s7 n7 f7 = true from decide_eq_true ⟨rfl,rfl,rfl,rfl⟩]
   repeat first|refine zP rfl ?_|refine zK rfl ?_
   refine zF rfl (en_awake) (awake_any C _) ?_
   rintro e w9 ⟨rfl,k3⟩
   refine ⟨_,rfl,?_⟩
   repeat first|refine zP rfl ?_|refine zK rfl ?_
   exact o_nil ⟨⟨rfl,trivial⟩,below_trans k1 (below_trans k2 k3)⟩
 refine wp_ret ?_
 repeat (first | refine then_ret ?_ | refine block_ret ?_)
 exact ret1 hS rfl rfl ⟨rfl,below_trans hB hw⟩
end Go.Proofs.YthcoppfiahnpoaaGreat
