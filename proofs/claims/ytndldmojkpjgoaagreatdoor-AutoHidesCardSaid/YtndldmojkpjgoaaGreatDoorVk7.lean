/- AutoHides holds of the program: the walks of its reference, its law and the program's Hide, and the card. -/
import Derived.Test.YtndldmojkpjgoaaGreatDoorRows
import Derived.LaidMore
import Derived.OpenShut
import Derived.LaidLaws
import Derived.MakeChecks
import Derived.Test.YtndldmojkpjgoaaGreatDoorCards
import Derived.Test.YtndldmojkpjgoaaGreatDoorTie
import Derived.SevenTiedAt
import Derived.Test.YtndldmojkpjgoaaGreatDoorVk6
set_option maxRecDepth 100000
namespace Go.Proofs.YtndldmojkpjgoaaGreatDoor
section
open Go Sym
open Go.ChangeShapes Go.WideShapes Go.ChangeAt
theorem air : ownKnob Tryz.prog.godebug = none:=by kernel_rfl
theorem ai3 : laidOutB Tryz.prog = true:=by kernel_rfl
theorem yi : Tryz.prog.readableRec 25 = true:=by kernel_rfl
theorem ye : (25 : TypeId) < Tryz.prog.types.size:=of_decide_eq_true (by kernel_rfl)
theorem wz {H : Type} {P : Program} {ts : List TypeId} {ds : List (DataW H)} (h : (DataW.weightsEach P ts ds).all (· ≤ reachBytes) = true) {j : Nat} {t : TypeId} {d : DataW H} (ht : ts[j]? = some t) (hd : ds[j]? = some d) : xy P t d:=fun n hn=>by
 have:=List.all_eq_true.1 h _ (DataW.weights_mem_each ht hd n hn)
 exact (of_decide_eq_true this : n ≤ reachBytes)
theorem rq {P : Program} {w : World} {r : Reach} {b : Nat} {t e : TypeId} {v : Value} (ht : P.underlying t = some (.slice e)) (h : Value.okWide P w r b t v) : v.cells.toList = [v]:=by
 unfold Value.okWide at h;rw [ht] at h;simp only [Cell.okWide,ht,Cell.ok] at h
 cases v <;> first | rfl | exact h.elim
end
section
open Go Sym
open Go.ChangeShapes Go.WideShapes Go.ChangeAt
theorem afl : Tryz.prog.readableRec 22 = true:=by kernel_rfl
theorem afe : (22 : TypeId) < Tryz.prog.types.size:=of_decide_eq_true (by kernel_rfl)
end
section
open Go Sym
open Go.ChangeShapes Go.WideShapes Go.ChangeAt
end
section
open Go Sym
open Go.ChangeShapes Go.WideShapes Go.ChangeAt
theorem ac8 : Tryz.prog.readableRec 23 = true:=by kernel_rfl
theorem ac7 : (23 : TypeId) < Tryz.prog.types.size:=of_decide_eq_true (by kernel_rfl)
end
section
open Go Sym
open Go.ChangeShapes Go.WideShapes Go.ChangeAt
theorem acy : Tryz.prog.globalNamed "math/bits.deBruijn64tab" = some 0 := by kernel_rfl
theorem aib : (Tryz.prog.globals[0]?).map (·.type) = some 138:=by kernel_rfl
theorem ad5 : Tryz.prog.cellsOf 138 = 64:=by kernel_rfl
theorem ahj : Tryz.prog.cellsOf 5 = 1:=by kernel_rfl
def gy : DataW Unit → Nat → Option (DataW Unit)
 | .agg l,i=>l[i]?
 | _,_=>none
theorem aeu {j : Nat} (hj : j < 14) : gy Rows.laid_math_bits_deBruijn64tab (idxB j) = some (.lit (.int .u8 (j : Int))):=by
 match j,hj with
 | 0,_=>
   have h : gy Rows.laid_math_bits_deBruijn64tab (idxB 0) = some (.lit (.int .u8 ((0 : Nat) : Int))):=by kernel_rfl
   exact h
 | 1,_=>
   have h : gy Rows.laid_math_bits_deBruijn64tab (idxB 1) = some (.lit (.int .u8 ((1 : Nat) : Int))):=by kernel_rfl
   exact h
 | 2,_=>
   have h : gy Rows.laid_math_bits_deBruijn64tab (idxB 2) = some (.lit (.int .u8 ((2 : Nat) : Int))):=by kernel_rfl
   exact h
 | 3,_=>
   have h : gy Rows.laid_math_bits_deBruijn64tab (idxB 3) = some (.lit (.int .u8 ((3 : Nat) : Int))):=by kernel_rfl
   exact h
 | 4,_=>
   have h : gy Rows.laid_math_bits_deBruijn64tab (idxB 4) = some (.lit (.int .u8 ((4 : Nat) : Int))):=by kernel_rfl
   exact h
 | 5,_=>
   have h : gy Rows.laid_math_bits_deBruijn64tab (idxB 5) = some (.lit (.int .u8 ((5 : Nat) : Int))):=by kernel_rfl
   exact h
 | 6,_=>
   have h : gy Rows.laid_math_bits_deBruijn64tab (idxB 6) = some (.lit (.int .u8 ((6 : Nat) : Int))):=by kernel_rfl
   exact h
 | 7,_=>
   have h : gy Rows.laid_math_bits_deBruijn64tab (idxB 7) = some (.lit (.int .u8 ((7 : Nat) : Int))):=by kernel_rfl
   exact h
 | 8,_=>
   have h : gy Rows.laid_math_bits_deBruijn64tab (idxB 8) = some (.lit (.int .u8 ((8 : Nat) : Int))):=by kernel_rfl
   exact h
 | 9,_=>
   have h : gy Rows.laid_math_bits_deBruijn64tab (idxB 9) = some (.lit (.int .u8 ((9 : Nat) : Int))):=by kernel_rfl
   exact h
 | 10,_=>
   have h : gy Rows.laid_math_bits_deBruijn64tab (idxB 10) = some (.lit (.int .u8 ((10 : Nat) : Int))):=by kernel_rfl
   exact h
 | 11,_=>
   have h : gy Rows.laid_math_bits_deBruijn64tab (idxB 11) = some (.lit (.int .u8 ((11 : Nat) : Int))):=by kernel_rfl
   exact h
 | 12,_=>
   have h : gy Rows.laid_math_bits_deBruijn64tab (idxB 12) = some (.lit (.int .u8 ((12 : Nat) : Int))):=by kernel_rfl
   exact h
 | 13,_=>
   have h : gy Rows.laid_math_bits_deBruijn64tab (idxB 13) = some (.lit (.int .u8 ((13 : Nat) : Int))):=by kernel_rfl
   exact h
 | j + 14,h=>omega
theorem idx_in {j : Nat} (hj : j < 14) : idxB j < 64:=by
 match j,hj with
 | 0,_=>exact of_decide_eq_true (by kernel_rfl)
 | 1,_=>exact of_decide_eq_true (by kernel_rfl)
 | 2,_=>exact of_decide_eq_true (by kernel_rfl)
 | 3,_=>exact of_decide_eq_true (by kernel_rfl)
 | 4,_=>exact of_decide_eq_true (by kernel_rfl)
 | 5,_=>exact of_decide_eq_true (by kernel_rfl)
 | 6,_=>exact of_decide_eq_true (by kernel_rfl)
 | 7,_=>exact of_decide_eq_true (by kernel_rfl)
 | 8,_=>exact of_decide_eq_true (by kernel_rfl)
 | 9,_=>exact of_decide_eq_true (by kernel_rfl)
 | 10,_=>exact of_decide_eq_true (by kernel_rfl)
 | 11,_=>exact of_decide_eq_true (by kernel_rfl)
 | 12,_=>exact of_decide_eq_true (by kernel_rfl)
 | 13,_=>exact of_decide_eq_true (by kernel_rfl)
 | j + 14,h=>omega
theorem zt {W : World} (h : laidMetH Tryz.prog [("math/bits.deBruijn64tab", Rows.laid_math_bits_deBruijn64tab)] W) : pt W := by
 rw [MakeChecks.laidMetH_plain _ _ _ (by kernel_rfl)] at h;obtain ⟨ps,⟨g,t,cs,fuel,p,q,hg,ht,hv,hd,_,_⟩,_⟩:=h;obtain rfl:=Option.some.inj (acy.symm.trans hg);obtain rfl:=Option.some.inj (aib.symm.trans ht);obtain ⟨xs,m,rfl,hx,hlen,hn,hel⟩:=DataW.trod_array Tryz.underlying138 hd;rw [ad5] at hlen;intro j hj;have hi:=idx_in hj;have hp:=aeu hj;have he:=hel _ hi;have hxl : idxB j < xs.length:=by rw [hn]; exact hi
 rw [ahj,Nat.mul_one,List.getElem?_eq_getElem hxl] at he;have e1 : Rows.laid_math_bits_deBruijn64tab = .agg (xs.map (·.1)):=congrArg Prod.fst hx;rw [e1] at hp
 have e2 : xs[idxB j].1 = .lit (.int .u8 (j : Int)):=by
  simp only [gy,List.getElem?_map,List.getElem?_eq_getElem hxl,Option.map_some,Option.some.injEq] at hp;exact hp
 generalize idxB j = i at *
 have hsz : cs.size = 64:=by simpa using hlen
 have hic : i < cs.size:=by omega
 obtain ⟨c,hc⟩ : ∃ c,cs[i]? = some c:=⟨_,Array.getElem?_eq_getElem hic⟩
 have e3 : (cs.toList.drop i).take 1 = [c]:=by
  rw [List.take_one,List.head?_drop];have : cs.toList[i]? = some c:=by simpa using hc
  rw [this];rfl
 rw [e3] at he;obtain ⟨k,f1,f2,_⟩:=DataW.trod_int Tryz.underlying5 he;rw [f2] at e2;simp only [DataW.lit.injEq,Lit.int.injEq,true_and] at e2;subst e2;have hcell:=World.var?_cell hg hv i;rw [hcell,hc];simp only [List.cons.injEq,and_true] at f1;rw [f1]
theorem ajs (os : Os) (args : Array Value) : laidMetH Tryz.prog [("math/bits.deBruijn64tab", Rows.laid_math_bits_deBruijn64tab)] ((World.doorLaid Tryz.prog 400 os).forCall (fun _ _ => 0) ⟨#[], args, []⟩).memory :=
 laidMetH_of_parts3 (fuel:=8) (laidMet_of_run' 8 (by kernel_rfl) (by kernel_rfl)) (by kernel_rfl) (by kernel_rfl)
theorem q8 (C : AwakeC) (HR : aj7 6) (HA : acv 7) (os : Os) (started : os.Started) (H : Type) (enc : TypeId × Value → H) :
  ReturnsInHanded {} Tryz.checked os 3 .any (fun w args => (Rows.autoHidesSpec.pre enc Tryz.prog Tryz.f3 [] false w args ∧ laidMetH Tryz.prog [("math/bits.deBruijn64tab", Rows.laid_math_bits_deBruijn64tab)] w) ∧ sizedMet enc Tryz.prog Tryz.f3 (OpenSpec.ofChange Rows.autoHidesSpec) false w args)
   (Rows.autoHidesSpec.post enc Tryz.prog Tryz.f3 false true false false):=by
 refine returnsInHanded_of_change_and (C := Tryz.checked) (X := fun w _ => laidMetH Tryz.prog [("math/bits.deBruijn64tab", Rows.laid_math_bits_deBruijn64tab)] w) (fun _ _ _ hh h => h.of_heap hh) air started (by kernel_rfl) Tryz.func3
  (ChangeSpec.witness_shaped (enc := enc) (C := Tryz.checked) (os := os) (X := fun w _ => laidMetH Tryz.prog [("math/bits.deBruijn64tab", Rows.laid_math_bits_deBruijn64tab)] w) false (World.doorLaid Tryz.prog 400 os) #[.agg #[Vi 0, Vi 0, .slice none 0 0, .slice none 0 0], .slice none 0 0, .slice none 0 0] 8 rfl (World.shaped_of_RefB (by kernel_rfl) (by kernel_rfl)) (by kernel_rfl) (by kernel_rfl) (by kernel_rfl) (ajs os _)) ?_
 intro W base args ds gs before hval0 hW hcnd hsz0 hL _;have hsz : (DataW.weightsEach Tryz.prog (Tryz.f3.params.toList ++ Rows.autoHidesSpec.plain.varTypes Tryz.prog) (ds ++ gs)).all (· ≤ reachBytes) = true:=hsz0;have hW1 : DataW.Whole enc Tryz.prog Tryz.f3.params.toList Rows.autoHidesSpec.vars false W args.toList ds gs before:=hW;have hval : ∀ (j : Nat) t v,Tryz.f3.params[j]? = some t → args[j]? = some v → Value.okWide Tryz.prog W .any base t v:=hval0;clear hsz0 hval0 hcnd;have hTab:=zt hL;obtain ⟨p,q,hA0,hV,rfl,hfz,hnd⟩:=hW;have hA : DataW.TrodAll enc Tryz.prog W 0 (fun _=>true) true Tryz.f3.params.toList args.toList ds p:=hA0;rw [Tryz.params3] at hA hsz hval;obtain ⟨v0,vs0,d0,ds0,p0,q0,hargs,rfl,rfl,h0,r0⟩:=trodAll_cons hA;obtain ⟨v1,vs1,d1,ds1,p1,q1,rfl,rfl,rfl,h1,r1⟩:=trodAll_cons r0;obtain ⟨v2,vs2,d2,ds2,p2,q2,rfl,rfl,rfl,h2,r2⟩:=trodAll_cons r1;obtain ⟨rfl,rfl,rfl⟩:=trodAll_nil r2;obtain rfl : args = #[v0,v1,v2]:=by cases args; simp_all
 obtain ⟨rfl,rfl⟩:=trodVars_none hV;obtain ⟨L,s,next,fin,vn,ve,rfl,hm⟩:=ym h0 (wz hsz (j:=0) rfl rfl);obtain ⟨fu1,h1'⟩:=h1;rw [rq Tryz.underlying23 (hval 1 23 v1 rfl rfl)] at h1';obtain ⟨hid,hh,hok,hhl⟩:=sc h1' (wz hsz (j:=1) rfl rfl);obtain ⟨fu2,h2'⟩:=h2;rw [rq Tryz.underlying22 (hval 2 22 v2 rfl rfl)] at h2';obtain ⟨words,hw0,hwo,hwn,hwb⟩:=uy h2' (wz hsz (j:=2) rfl rfl);refine (xw C HR HA L s vn ve v1 v2 next fin hid words W hTab hm hh hok (by omega) hw0 (fun r hr=>by have:=hwb r hr; omega)).mono fun e W' ⟨he,hb⟩=>⟨_,he,?_⟩
 exact ai2 hW1 rfl rfl (by kernel_rfl) Tryz.underlying4 ai3 (fun t ht=>by
  rw [Tryz.params3] at ht;simp only [List.mem_cons,List.not_mem_nil,or_false] at ht
  rcases ht with rfl | rfl | rfl
  ·exact ⟨yi,ye⟩
  ·exact ⟨ac8,ac7⟩
  ·exact ⟨afl,afe⟩) hb
theorem tk (C : AwakeC) (HR : aj7 6) (HA : acv 7) : Rows.AutoHidesSaid:=
 OpenClaim.holds_of_wide 3 Tryz.f3 rfl rfl rfl rfl rfl rfl rfl ⟨rfl,rfl,rfl,rfl,rfl⟩ rfl rfl rfl rfl rfl (by kernel_rfl) Tryz.func3 (by kernel_rfl)
  (of_decide_eq_true (by kernel_rfl)) (by unfold Func.isWrapper; first | (rw [if_pos (by decide +kernel)]; kernel_rfl) | (rw [if_neg (by decide +kernel)]; exact ⟨rfl,rfl⟩))
  (fun os started H enc _=>q8 C HR HA os started H enc)
end
section
open Go
theorem xv : Rows.AutoHidesSaid:=tk awakeC agk aHide_c
theorem autoHides : Rows.AutoHidesCardSaid:=
 Claim7.holds_tied_plain_at .later [] [.data] true (true, "f1c05b83f21d364ee8bd0b48f41895fcf4eb9dc17b0a2a50621b87a006d42284") false
  xv (fun _ h=>by cases h) (by kernel_rfl) (fun _ h=>by cases h) autoHides_row_tie rfl ⟨rfl,rfl⟩ (by kernel_rfl) rfl
  (fun f fn hf hfn=>by
   obtain rfl : f = 3 := Option.some.inj ((show Tryz.prog.funcNamed "doppelganger/doppelgangerlaw03.AutoHides" = some 3 by kernel_rfl).symm.trans hf) |>.symm
   obtain rfl : fn = Tryz.f3:=(Option.some.inj (Tryz.func3.symm.trans hfn)).symm
   exact ⟨by kernel_rfl,fun j t ht=>by
    rw [Tryz.params3] at ht;have hm : t ∈ [25,23,22]:=by simpa using Array.mem_of_getElem? ht
    have hall : ([25,23,22].all fun u=>!Tryz.prog.wantsStandIn u) = true:=by kernel_rfl
    exact (show Tryz.prog.wantsStandIn t = false by simpa using List.all_eq_true.1 hall t hm)⟩)
  (by kernel_rfl)
end
end Go.Proofs.YtndldmojkpjgoaaGreatDoor
