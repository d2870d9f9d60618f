import Derived.Test.YtfpjpngjikdaoaaGreatAg04
import Derived.Deep.Cut
import Derived.Deep.RegionHeld3
import Derived.Deep.RegionHeldLaw
set_option maxHeartbeats 40000000
set_option maxRecDepth 1000000
set_option linter.defProp false
open List Go.World
open Array renaming size->J
open Go.World renaming alloc->S,cell?->eQ
open Option renaming some->Q,none->wH
open Go renaming World->oX,Value->oV,wpList_next_ranges->tH,wpList_mapUpdate_in->tI,wpList_range_own->tJ
open List renaming length->E,getD->U
open Go.Value renaming agg->aQ,slice->Z
open Go.Obj renaming cells->eZ
open Go.Ending renaming returned->rE
open Bool renaming false->nF
open Decidable renaming decide->oD
open Go.Proofs.Tryz renaming prog->wD
namespace Go.Proofs.YtfpjpngjikdaoaaGreat
open Go.Proofs.Tryz Go.RowKit Go.Maps
def Z2(v:oV):Option (DataW Unit×List MemPlace):=match v with
 | .int .i64 x=>Q (.lit (.int .i64 x),[])
 |_=>wH
def da{v:oV}{z:DataW Unit×List MemPlace}(h:Z2 v=Q z):∃x,v=ai x:=by
 unfold Z2 at h;split at h;exact⟨_,rfl⟩;cases h
def di{x y:Int}{ps:List MemPlace}(h:Z2 (ai x)=Q (.lit (.int .i64 y),ps)):x=y:=by
 unfold Z2 at h;simp only[oI,rD,DataW.lit.injEq,Lit.int.injEq,true_and]at h;exact h.1
def X3(M:LI->Option Int)(a:LI)(x:Int):LI->Option Int:=λc=>if c=a then Q x else M c
section
variable {W W':oX} {b:Nat} {ks:LL} {D:DataW Unit} {M:LI->Option Int}
structure mQ(W:oX)(b:Nat)(ks:LL)(D:DataW Unit)(M:LI->Option Int):Prop where
 map:Wm Z2 W b ks D
 key:∀a,a∈ks↔∃x,M a=Q x
 val:∀a x,M a=Q x->∀zd,D.atKey (kla a) zd=.lit (.int .i64 x)
def mQ.zv(w:oX):mQ (S w (.map #[] 0)) (J w.1) [] (.map []) λ_=>none:=
 ⟨Wm.zv w,λa=>⟨λh=>(by cases h),λ⟨x,h⟩=>(by cases h)⟩,λa x h=>by cases h⟩
def mQ.A(h:mQ W b ks D M)(hb:W'.1[b]?=W.1[b]?):mQ W' b ks D M:=⟨h.map.A hb,h.key,h.val⟩
def mQ.lt(h:mQ W b ks D M):b<J W.1:=h.map.lt
def mQ.O(h:mQ W b ks D M)(hb:Bl W W'):mQ W' b ks D M:=⟨h.map.O hb,h.key,h.val⟩
def mQ.ok(h:mQ W b ks D M){a:LI}{x:Int}(ha:M a=Q x):Ok6 a:=h.map.ok a ((h.key a).2 ⟨x,ha⟩)
def mQ.put{a:LI}{n:Nat}{x:Int}(h:mQ W b ks D M)(ha:Ok6 a)(ho:W'.ownsMap wD 140 Z2 b n (D.put (kla a) (.lit (.int .i64 x)))):mQ W' b (xa a ks) (D.put (kla a) (.lit (.int .i64 x))) (X3 M a x):=by
 refine⟨h.map.put ha ho,λc=>?_,λc y hc zd=>?_⟩
 ·rw[um];unfold X3;by_cases e:c=a;rw[fE e];exact⟨λ_=>⟨x,rfl⟩,λ_=>.inl e⟩;rw[fF e,<-h.key c];exact⟨λh1=>h1.resolve_left e,.inr⟩
 unfold X3 at hc;by_cases e:c=a
 ·rw[fE e]at hc;cases hc
  rw[e];exact atKey_put_same (h.map.z.tidy Tryz.lawA).isMap (V0 ha) _ _
 rw[fF e]at hc;rw[atKey_put_other λe2=>e (XR (h.ok hc) ha e2)];exact h.val c y hc _
def mQ.at{a:LI}{v:oV}{ps:List MemPlace}{x:Int}(h:mQ W b ks D M)(ha:M a=Q x){zd:DataW Unit}(hv:Z2 v=Q (D.atKey (kla a) zd,ps)):v=ai x:=by
 rw[h.val a x ha zd]at hv;obtain⟨y,rfl⟩:=da hv;rw[di hv]
end
def rgT(r:Nat):TypeId:=if r=1 then 91 else if r=2 then 89 else 92
def rgV(r:Nat):oV:=.iface (rgT r) (aQ #[])
def qG0(r:Nat):oV:=.func (.method "loop.example/s01205/impl.plus") #[rgV r] #[]
def onr(r:Nat):Int:=if r=3 then 0 else 1
def wor(r:Nat)(x:Int):Int:=if r=1 then 1 else x
def tim(r:Nat)(x y:Int):Int:=wrap64 (if r=3 then x+y else x*y)
def plu(r:Nat)(x y:Int):Int:=if r=3 then min x y else wrap64 (x+y)
def onN(r:Nat):Nat:=if r=3 then 278 else 273
def woN(r:Nat):Nat:=if r=1 then 277 else if r=2 then 276 else 281
def tiN(r:Nat):Nat:=if r=3 then 280 else 275
def puN(r:Nat):Nat:=if r=3 then 279 else 274
def X4(r:Nat):Prop:=r=1∨r=2∨r=3
section
def gq(w:oX)(x y:Int):Cl 274 #[aQ #[],ai x,ai y] w λe w'=>e=rE (ai (wrap64 (x+y)))/\Bl w w':=by
 go_enter func274,ntmps274;go_wp2;go_ret;exact⟨rfl,aK⟩
def gu(w:oX)(x y:Int):Cl 279 #[aQ #[],ai x,ai y] w λe w'=>e=rE (ai (min x y))/\Bl w w':=by
 go_enter func279,ntmps279;go_wp2;go_ret;exact⟨rfl,aK⟩
def gA{r:Nat}(w:oX)(x y:Int):Cl (puN r) #[aQ #[],ai x,ai y] w λe w'=>e=rE (ai (plu r x y))/\Bl w w':=by
 unfold puN plu;split;exact gu w x y;exact gq w x y
def gv(w:oX)(x y:Int):Cl 275 #[aQ #[],ai x,ai y] w λe w'=>e=rE (ai (wrap64 (x*y)))/\Bl w w':=by
 go_enter func275,ntmps275;go_wp2;go_ret;exact⟨rfl,aK⟩
def gw(w:oX)(x y:Int):Cl 280 #[aQ #[],ai x,ai y] w λe w'=>e=rE (ai (wrap64 (x+y)))/\Bl w w':=by
 go_enter func280,ntmps280;go_wp2;go_ret;exact⟨rfl,aK⟩
def fM{r:Nat}(w:oX)(x y:Int):Cl (tiN r) #[aQ #[],ai x,ai y] w λe w'=>e=rE (ai (tim r x y))/\Bl w w':=by
 unfold tiN tim;split;exact gw w x y;exact gv w x y
def gy(w:oX):Cl 273 #[aQ #[]] w λe w'=>e=rE (ai 1)/\Bl w w':=by
 go_enter func273,ntmps273;go_wp2;go_ret;exact⟨rfl,aK⟩
def gz(w:oX):Cl 278 #[aQ #[]] w λe w'=>e=rE (ai 0)/\Bl w w':=by
 go_enter func278,ntmps278;go_wp2;go_ret;exact⟨rfl,aK⟩
def gQ{r:Nat}(w:oX):Cl (onN r) #[aQ #[]] w λe w'=>e=rE (ai (onr r))/\Bl w w':=by
 unfold onN onr;split;exact gz w;exact gy w
def lC(w:oX)(x:Int):Cl 277 #[aQ #[],ai x] w λe w'=>e=rE (ai 1)/\Bl w w':=by
 go_enter func277,ntmps277;go_wp2;go_ret;exact⟨rfl,aK⟩
def lD(w:oX)(x:Int):Cl 276 #[aQ #[],ai x] w λe w'=>e=rE (ai x)/\Bl w w':=by
 go_enter func276,ntmps276;go_wp2;go_ret;exact⟨rfl,aK⟩
def lE(w:oX)(x:Int):Cl 281 #[aQ #[],ai x] w λe w'=>e=rE (ai x)/\Bl w w':=by
 go_enter func281,ntmps281;go_wp2;go_ret;exact⟨rfl,aK⟩
def fs{r:Nat}(w:oX)(x:Int):Cl (woN r) #[aQ #[],ai x] w λe w'=>e=rE (ai (wor r x))/\Bl w w':=by
 unfold woN wor;split;exact lC w x;split;exact lD w x;exact lE w x
end
def Kb.turned{b:Nat}{w w1 w2:oX}(h:Kb b w w1)(ht:w1.mapTurned w2 b):Kb b w w2:=by
 have g:=ht.grown;exact h.trans ⟨g.os,g.tape,g.output,g.size,λk hk a3=>g.block k hk (by simpa using a3)⟩
def Tryz.plusM{r:Nat}(hr:X4 r)(w:oX):(method (Tryz.prog.types.size+Made.depth) (rgT r) (aQ #[]) "loop.example/s01205/impl.plus").run wD w=.ok (puN r,aQ #[]) w:=by rcases hr with rfl|rfl|rfl <;> kernel_rfl
def Tryz.timesM{r:Nat}(hr:X4 r)(w:oX):(method (Tryz.prog.types.size+Made.depth) (rgT r) (aQ #[]) "loop.example/s01205/impl.times").run wD w=.ok (tiN r,aQ #[]) w:=by rcases hr with rfl|rfl|rfl <;> kernel_rfl
def Tryz.oneM{r:Nat}(hr:X4 r)(w:oX):(method (Tryz.prog.types.size+Made.depth) (rgT r) (aQ #[]) "loop.example/s01205/impl.one").run wD w=.ok (onN r,aQ #[]) w:=by rcases hr with rfl|rfl|rfl <;> kernel_rfl
def Tryz.worthM{r:Nat}(hr:X4 r)(w:oX):(method (Tryz.prog.types.size+Made.depth) (rgT r) (aQ #[]) "loop.example/s01205/impl.worth").run wD w=.ok (woN r,aQ #[]) w:=by rcases hr with rfl|rfl|rfl <;> kernel_rfl
def bu(r:Nat)(M:LI->Option Int)(a:LI)(x:Int):Int:=match M a with
 |some y=>plu r y x
 |none=>x
def qDa{r:Nat}(hr:X4 r)(w:oX)(b:Nat)(ks:LL)(D:DataW Unit)(M:LI->Option Int)(a:LI)(x:Int)(h:mQ w b ks D M)(ha:Ok6 a)(hn:E ks<=1000000000):
 Cl 169 #[.map (Q b),asL a,ai x,qG0 r] w λe w'=>e=rE (.tuple #[])/\(∃D',mQ w' b (xa a ks) D' (X3 M a (bu r M a x)))/\Kb b w w':=by
 have hk:=yP ha;unfold asL at hk ⊢;obtain⟨f,hf⟩:=Ex (λi=>U a i 0);rw[<-hf]at hk ⊢;clear hf;obtain⟨W1,a9⟩:=Ex (S w (eZ #[ai (f 0),ai (f 1),ai (f 2),ai (f 3),ai (f 4),ai (f 5)] 140));have hA:ArrAt W1 (J w.1) 6 λi=>ai (f i):=by rw[a9];exact six f _
 have hB:Bl w W1:=by rw[a9];exact(bJ _ _).alloc (nR _) _
 have HW:=ay (h.O hB);have b7:=(h.O hB).map.z;have HA:=ay hA;change Hh _ at hB ha;have HH:Hh (Maps.has D (kla a)↔∃y,M a=Q y):=ay (by rw[h.map.has a ha,dE];exact h.key a);have a0:=hA.cell 0 Oo;have a1:=hA.cell 1 Oo;have a2:=hA.cell 2 Oo;have a3:=hA.cell 3 Oo;have a4:=hA.cell 4 Oo;have a5:=hA.cell 5 Oo;clear hA h;unfold asV at hk ⊢;unfold qG0 rgV;go_enter func169,ntmps169;go_upto_region 1 with fail;rw[<-a9];clear a9;go_upto_region 2 with (first|(at_lookup;refine wpList_lookup_own_ok _ rfl _ _ 115 rfl _ 3 Tryz.lawA Tryz.underWo _ (Tryz.zeroA _) _ _ rfl b _ D rfl b7 _ _ rfl hk ?_;intro v ps hv;obtain⟨c,rfl⟩:=da hv)|fail);change Hh _ at hv;generalize hkn:Maps.has D (kla a)=known at *;cases known
 ·have hM:bu r M a x=x:=by
   unfold bu;cases e:M a with
   |none=>rfl
   |some y=>cases HH.o.2 ⟨y,e⟩
  go_wp2_with (first|(at_mapUpdate;refine tI _ rfl _ _ _ 115 rfl _ 3 Tryz.lawA Tryz.underWo _ b _ D rfl b7 Um _ _ _ rfl rfl hk _ _ rfl ?_;intro w1 a7 a6)|fail);refine bodyPost_end (nK rfl _ _ _) rfl ⟨rfl,⟨_,HW.o.put ha a7⟩,(Kb.zu hB).turned a6⟩
 obtain⟨y,hy⟩:=HH.1 rfl;have hM:bu r M a x=plu r y x:=by unfold bu;rw[hy]
 have hc:=HW.o.at hy hv;cases hc
 have hm:=Tryz.plusM hr;have KP:Hh (∀W,Cl (puN r) #[aQ #[],ai c,ai x] W λe w'=>e=rE (ai (plu r c x))/\Bl W w'):=ay λW=>gA W c x;rcases hr with rfl|rfl|rfl;all_goals
  simp only[rgT,puN,Nat.reduceEqDiff,reduceIte]at hm KP ⊢
  go_wp2_with (first
   |((first|go_at_call 274|go_at_call 279);apply (KP.o _).mono;rintro e w2 ⟨rfl,hb⟩;have a8:=HA.o.zz Oo hb;have b0:=a8.cell 0 Oo;have b1:=a8.cell 1 Oo;have b2:=a8.cell 2 Oo;have b3:=a8.cell 3 Oo;have b4:=a8.cell 4 Oo;have b5:=a8.cell 5 Oo;have b8:=(HW.o.O hb).map.z)
   |(at_mapUpdate;refine tI _ rfl _ _ _ 115 rfl _ 3 Tryz.lawA Tryz.underWo _ b _ D rfl b8 Um _ _ _ rfl rfl hk _ _ rfl ?_;intro w1 a7 a6)
   |fail)
  refine bodyPost_end (nK rfl _ _ _) rfl ⟨rfl,⟨_,by (try rw[hM]);exact(HW.o.O hb).put ha a7⟩,(Kb.zu (bt hB.o hb)).turned a6⟩
def xc{w w':oX}{k:TypeId}{R:oV->Option (DataW Unit×List MemPlace)}{b r n a3:Nat}{D:DataW Unit}{left:Lit->Bool}(h:w.ranges wD k R b r n D left a3)(h1:w'.1[b]?=w.1[b]?)(h2:w'.1[r]?=w.1[r]?):w'.ranges wD k R b r n D left a3:=by
 unfold ranges at h ⊢;rw[h1,h2];exact h
section
variable {R:oV->Option (DataW Unit×List MemPlace)} {W:oX} {b:Nat} {ks ss:LL} {D:DataW Unit} {left:Lit->Bool}
structure Cg(ks:LL)(left:Lit->Bool)(ss:LL):Prop where
 nd:ss.Nodup
 sub:∀a∈ss,a∈ks
 some:∀l,left l->∃a∈ks,Ok6 a/\kla a=l/\a∉ss
 rest:∀a∈ks,left (kla a)=nF->a∈ss
def Cg.zv(h:Wm R W b ks D):Cg ks (Maps.has D) []:=⟨nodup_nil,λa h=>(by cases h),λl hl=>by
 have⟨a,ha,e⟩:=h.all l hl;have:=h.has a ha;rw[e,hl]at this;exact⟨a,aN this.symm,ha,e,not_mem_nil⟩,λa ha h1=>by rw[h.has a (h.ok a ha),fD ha]at h1;cases h1⟩
def Xr{a c:LI}(ha:Ok6 a)(hc:Ok6 c):(kla a).sameKey (kla c)=oD (a=c):=by
 by_cases h:a=c;subst h;simp[kla,Lit.sameKey];rw[fC h];exact sameKey_ne λe=>h (XR ha hc e)
def Cg.P(h:Cg ks left ss)(hk:∀x∈ks,Ok6 x){a:LI}(ha:a∈ks)(hs:a∉ss):Cg ks (λz=>left z&&!z.sameKey (kla a)) (ss++[a]):=by
 refine⟨nodup_append.2 ⟨h.nd,Ss,λx hx y hy=>by rw[cI]at hy;subst hy;exact λe=>hs (e ▸ hx)⟩,λx hx=>?_,λl hl=>?_,λx hx h1=>?_⟩
 ·rcases cF.1 hx with h1|h1;exact h.sub x h1;rw[cI.1 h1];exact ha
 ·rw[bV]at hl;obtain⟨x,h1,h2,rfl,h3⟩:=h.some l hl.1;refine⟨x,h1,h2,rfl,λh4=>?_⟩;rcases cF.1 h4 with h5|h5;exact h3 h5;rw[cI.1 h5,Xr (hk a ha) (hk a ha),fD rfl]at hl;cases hl.2
 rw[pD,nU,Xr (hk x hx) (hk a ha),dE]at h1;rcases h1 with h1|rfl;exact dW _ (h.rest x hx h1);exact dX _ (cI.2 rfl)
end
def mQ.V{W:oX}{b:Nat}{ks:LL}{D:DataW Unit}{M M':LI->Option Int}(h:mQ W b ks D M)(e:∀a,M' a=M a):mQ W b ks D M':=by
 rw[show M'=M from funext e];exact h
def dj(r:Nat)(M1 M2:LI->Option Int)(a:LI):Option Int:=match M2 a with
 |none=>M1 a
 |some x=>Q (bu r M1 a x)
def qAP{r:Nat}(hr:X4 r)(w:oX)(pm bo bf:Nat)(a7 a6:LL)(D1 D2:DataW Unit)(M1 M2:LI->Option Int)(hm:eQ w (az pm 0)=Q (rgV r))(h1:mQ w bo a7 D1 M1)(h2:mQ w bf a6 D2 M2)(d2:bo≠bf)(g9:pm≠bo)(hn:E a7+E a6<=1000000):
 Cl 140 #[pZ pm 0,.map (Q bo),.map (Q bf)] w λe w'=>e=rE (.map (Q bo))/\(∃ks D,mQ w' bo ks D (dj r M1 M2)/\E ks<=E a7+E a6)/\Kb bo w w':=by
 have b1:=h2.map.z;have H1:=ay h1;have H2:=ay h2;have h3:=h1.lt;have j1:=h2.lt;have h4:pm<J w.1:=bL w _ hm;have HM:=ay hm;go_enter func140,ntmps140;go_wp2_with (first
  |(at_range;refine tJ _ rfl _ 115 rfl _ 3 Tryz.lawA Tryz.underWo _ _ _ _ rfl b1 ?_;intro w5 c7 a9 h7)
  |go_in)
 go_frame;have d7:Hh (Cg a6 (Maps.has D2) []/\mQ w5 bo a7 D1 M1/\(∀a,M1 a=if a∈([]:LL) then dj r M1 M2 a else M1 a)/\E a7<=E a7+E ([]:LL)/\E ([]:LL)+Maps.size D2<=E a6/\Kb bo w w5/\J w.1<J w5.1):=(by
  refine⟨Cg.zv H2.o.map,H1.o.A (a9.block _ h3 Ss),λa=>Ss,Ss,by rw[H2.o.map.size];simp,⟨a9.os,a9.tape,a9.output,Oo,λk hk _=>a9.block k hk Ss⟩,Oo⟩)
 go_loopw [8] (λ_ wr=>∃(left:Lit->Bool) (b9:Nat) (ss ks:LL) (D:DataW Unit) (M:LI->Option Int),wr.ranges wD 140 Z2 bf (J w.1) (E a6) D2 left b9/\Hh (Cg a6 left ss/\mQ wr bo ks D M/\(∀a,M a=if a∈ss then dj r M1 M2 a else M1 a)/\E ks<=E a7+E ss/\E ss+b9<=E a6/\Kb bo w wr/\J w.1<J wr.1)) (λ_ wr=>wr.rangeLeft bf (J w.1));exact⟨_,_,[],a7,D1,M1,c7,d7⟩;have⟨left,b9,ss,ks,D,M,d3,HH⟩:=hrel;go_wp2_with (first
  |(at_next;refine tH _ rfl _ rfl _ Tryz.lawA _ id _ (λkey kl hk=>⟨key,rfl⟩) (λv y hv=>da hv) _ _ _ _ _ _ rfl d3 ?_ ?_)
  |go_in)
 ·intro j2 i0;go_wp2;go_ret;have⟨g1,g2,g3,g4,g5,g6,g7⟩:=HH.o;refine⟨rfl,⟨ks,D,g2.V λa=>?_,Oo⟩,g6⟩;rw[g3 a];split;rfl;rename_i e;cases e2:M2 a with
  |none=>unfold dj;rw[e2]
  |some x=>exact absurd (g1.rest a ((H2.o.key a).2 ⟨x,e2⟩) (i0 _)) e
 intro key c kl ya yb w6 c8 c9 d8 hv d0 d1 d9 b7 i3 d4;obtain⟨a,ha,e0,rfl,hs⟩:=HH.1.some _ d8;obtain rfl:key=asL a:=Tryz.lawA.inj c9 (yP e0);have⟨g1,g2,g3,g4,g5,g6,g7⟩:=HH.o;have i4:=ay (g1.P H2.o.map.ok ha hs);have⟨x2,e3⟩:=(H2.o.key a).1 ha;have i5:c=x2:=by
  have h5:=H2.o.val a _ e3 .nil;rw[d0 .nil]at h5
  exact di (h5▸hv)
 subst i5;have i6:=ay e3;have i7:=ay hs;have i8:=ay d3;have e4:=ay d9;have d5:=ay d1;have e5:Kb bo w w6:=⟨b7.os.trans g6.os,b7.tape.trans g6.tape,b7.output.trans g6.output,Oo,λk hk d2=>(b7.block k Oo Sy).trans (g6.block k hk d2)⟩;unfold asL at d4 ⊢;generalize hf:(λi=>U a i 0)=f at *;unfold asV at d4 ⊢;go_upto_region 4 with fail;have b8:Bl w6 (S w6 (eZ #[ai (f 0),ai (f 1),ai (f 2),ai (f 3),ai (f 4),ai (f 5)] 140)):=aK;have a8:=six (w:=w6) f 140;have d6:Kb bo w (S w6 (eZ #[ai (f 0),ai (f 1),ai (f 2),ai (f 3),ai (f 4),ai (f 5)] 140)):=e5.trans (Kb.zu b8);have j3:J w6.1<J (S w6 (eZ #[ai (f 0),ai (f 1),ai (f 2),ai (f 3),ai (f 4),ai (f 5)] 140)).1:=Ss;rw[i3]at a8;generalize S w6 (eZ #[ai (f 0),ai (f 1),ai (f 2),ai (f 3),ai (f 4),ai (f 5)] 140)=W7 at *;have KP:Hh (Cl 169 #[.map (Q bo),aQ #[ai (f 0),ai (f 1),ai (f 2),ai (f 3),ai (f 4),ai (f 5)],ai c,.func (.method "loop.example/s01205/impl.plus") #[.iface (rgT r) (aQ #[])] #[]] W7.drew λe w'=>e=rE (.tuple #[])/\(∃D',mQ w' bo (xa a ks) D' (X3 M a (bu r M a c)))/\Kb bo W7.drew w'):=(by
  have:=qDa hr W7.drew _ _ D M a c (((g2.A (b7.block _ g2.lt Sy)).O b8).A rfl) e0 Oo;unfold asL at this;rwa[hf]at this)
 have cm:eQ W7 (az pm 0)=Q (.iface (rgT r) (aQ #[])):=(bF (d6.block pm h4 g9)).trans HM;have a0:=a8.cell 0 Oo;have a1:=a8.cell 1 Oo;have a2:=a8.cell 2 Oo;have a3:=a8.cell 3 Oo;have a4:=a8.cell 4 Oo;have a5:=a8.cell 5 Oo;have e8:=ay (xc d5 (b8.block _ d5.o.owns.lt) (b8.block _ Oo));have i9:=ay d6;have e9:=ay g3;go_region_law (first|(go_simp;go_at_call 169;apply KP.o.mono;rintro e w8 ⟨rfl,⟨D8,h8⟩,k8⟩)|fail)
 all_goals
  have j4:=YG (a:=a) (ks:=ks)
  have H8:Hh (Cg a6 (λz=>left z&&!z.sameKey (kla a)) (ss++[a])/\mQ w8 bo (xa a ks) D8 (X3 M a (bu r M a c))/\(∀x,X3 M a (bu r M a c) x=if x∈ss++[a] then dj r M1 M2 x else M1 x)/\E (xa a ks)<=E a7+E (ss++[a])/\E (ss++[a])+c8<=E a6/\Kb bo w w8/\J w.1<J w8.1):=⟨i4,h8,λx=>by
   unfold X3;by_cases e:x=a
   ·have e1:M a=M1 a:=by rw[e9.o a,fF i7.o]
    rw[fE e,e,fE (dX _ (cI.2 rfl))];unfold dj bu;rw[i6.o,e1]
   rw[fF e,e9.o x];by_cases e1:x∈ss;rw[fE e1,fE (dW _ e1)];rw[fF e1,fF λh=>(cF.1 h).elim e1 λh=>e (cI.1 h)],by rw[lA,lS];omega,by rw[lA,lS];have:=e4.o;omega,(Kb.drew i9).trans k8,by have:=k8.size;have h9:W7.drew.1.size=J W7.1:=rfl;omega⟩
  have g8:=ay (xc e8 (k8.block bf e8.o.owns.lt (Ne.symm d2)) (k8.block (J w.1) (by show J w.1<J W7.1;omega) Oo))
  go_wp2
  go_roundw;exact⟨_,c8,ss++[a],xa a _,D8,_,g8,H8⟩;rw[g8.o.left_eq,i8.o.left_eq];exact e4
def qk{W W':oX}{b:Nat}{p:Addr}{v:oV}(h:W.mapTurned W' b)(a3:p.block≠b)(hc:W.cell? p=Q v):W'.cell? p=Q v:=(bF (h.grown.block _ (bL W _ hc) (by simpa using a3))).trans hc
def xu(l x y:LI):LI:=(range 6).map (xR l (λi=>U x i 0) λi=>U y i 0)
def qHT(l x y:LI):asL (xu l x y)=asV (xR l (λi=>U x i 0) λi=>U y i 0):=rfl
def qCm{l x y:LI}(hx:Ok6 x)(hy:Ok6 y):Ok6 (xu l x y):=by
 refine⟨by unfold xu;simp,λz hz=>?_⟩;obtain⟨i,-,rfl⟩:=cC.1 hz;unfold xR;split;exact hy.at i;exact hx.at i
def JoM(r:Nat)(l:LI)(M1 M2:LI->Option Int)(sS:LI->LI->Prop)(M:LI->Option Int):Prop:=
 (∀q z,M q=Q z->∃x y a b,sS x y/\M1 x=Q a/\M2 y=Q b/\q=xu l x y/\z=tim r a b)/\∀x y a b,sS x y->M1 x=Q a->M2 y=Q b->∃z,M (xu l x y)=Q z
section
variable {r:Nat} {l:LI} {M1 M2 M:LI->Option Int} {sS S':LI->LI->Prop}
def JoM.V(h:JoM r l M1 M2 sS M)(e:∀x y a b,M1 x=Q a->M2 y=Q b->(S' x y↔sS x y)):JoM r l M1 M2 S' M:=
 ⟨λq z hq=>by
  have⟨x,y,a,b,h1,h2,h3,h4⟩:=h.1 q z hq;exact⟨x,y,a,b,(e x y a b h2 h3).2 h1,h2,h3,h4⟩,λx y a b h1 h2 h3=>h.2 x y a b ((e x y a b h2 h3).1 h1) h2 h3⟩
def JoM.zv(h:∀x y,¬sS x y):JoM r l M1 M2 sS λ_=>none:=⟨λq z hq=>(by cases hq),λx y a b h1=>absurd h1 (h x y)⟩
def JoM.P(h:JoM r l M1 M2 sS M){x y:LI}{a b:Int}(ha:M1 x=Q a)(hb:M2 y=Q b):JoM r l M1 M2 (λx' y'=>sS x' y'∨(x'=x/\y'=y)) (X3 M (xu l x y) (tim r a b)):=by
 refine⟨λq z hq=>?_,λx' y' a' b' h1 h2 h3=>?_⟩
 ·unfold X3 at hq;split at hq
  ·cases hq
   exact⟨x,y,a,b,.inr ⟨rfl,rfl⟩,ha,hb,‹_›,rfl⟩
  have⟨x',y',a',b',h1,h2⟩:=h.1 q z hq;exact⟨x',y',a',b',.inl h1,h2⟩
 unfold X3;split;exact⟨_,rfl⟩;rename_i e;rcases h1 with h1|⟨rfl,rfl⟩;exact h.2 _ _ _ _ h1 h2 h3;exact absurd rfl e
end
def qAH{r:Nat}(hr:X4 r)(w:oX)(pm bf bb:Nat)(vl:oV)(l:LI)(a4 a3:LL)(D1 D2:DataW Unit)(M1 M2:LI->Option Int)(hm:eQ w (az pm 0)=Q (rgV r))(h1:mQ w bf a4 D1 M1)(h2:mQ w bb a3 D2 M2)(hl:IS w vl l)(m4:E l<=1000)(j5:∀y∈l,0<=y/\y<6)(o6:E a4<=1000000)(o7:E a3<=1000000):
 Cl 138 #[pZ pm 0,.map (Q bf),.map (Q bb),vl] w λe w'=>∃bo ks D M,e=rE (.map (Q bo))/\J w.1<=bo/\mQ w' bo ks D M/\JoM r l M1 M2 (λ_ _=>True) M/\Bl w w':=by
 have o4:Tryz.prog.follows .mixedOrders:=Kl;have o8:=@run_makeMap wD;have HL:=ay hl;obtain⟨al,cl,rfl,-⟩:=hl;have H1:=ay h1;have H2:=ay h2;have o9:=h1.lt;have p1:=h2.lt;have p2:pm<J w.1:=bL w _ hm;have HM:Hh (eQ w (az pm 0)=Q (.iface (rgT r) (aQ #[]))):=hm;have HI:=ay j5;have KT:Hh (∀W x y,Cl (tiN r) #[aQ #[],ai x,ai y] W λe w'=>e=rE (ai (tim r x y))/\Bl W w'):=fM;generalize hT:rgT r=T at *;generalize hN:tiN r=N at *;have d9:(S w (.map #[] 0)).ownsMap wD 140 Z2 bf (E a4) D1:=(h1.O (aK)).map.z;clear h1 h2 hm j5;go_enter func138,ntmps138;go_wp2_with (first
  |(at_range;refine tJ _ rfl _ 115 rfl _ 3 Tryz.lawA Tryz.underWo _ _ _ _ rfl d9 ?_;intro w5 e0 i7 j6)
  |go_in)
 try go_frame
 rw[aM]at e0 j6 ⊢;have k0:Hh (Cg a4 (Maps.has D1) []/\mQ w5 (J w.1) [] (.map []) (λ_=>wH)/\JoM r l M1 M2 (λx _=>x∈([]:LL)) (λ_=>wH)/\E ([]:LL)<=E ([]:LL)*E a3/\E ([]:LL)+Maps.size D1<=E a4/\Bl w w5/\J w.1+1<J w5.1):=(by
  refine⟨Cg.zv H1.o.map,(mQ.zv w).A (i7.block _ Ss Ss),JoM.zv (λx y h=>(by cases h)),Ss,by rw[H1.o.map.size];simp,(aK).grown i7 Ss (λj hj=>by cases hj),Oo⟩)
 clear i7 j6 d9;go_loopw [11] (λ_ wr=>∃(left:Lit->Bool) (f7:Nat) (ss ks:LL) (D:DataW Unit) (M:LI->Option Int),wr.ranges wD 140 Z2 bf (J w.1+1) (E a4) D1 left f7/\Hh (Cg a4 left ss/\mQ wr (J w.1) ks D M/\JoM r l M1 M2 (λx _=>x∈ss) M/\E ks<=E ss*E a3/\E ss+f7<=E a4/\Bl w wr/\J w.1+1<J wr.1)) (λ_ wr=>wr.rangeLeft bf (J w.1+1));exact⟨_,_,[],[],_,_,e0,k0⟩;clear k0 e0;have⟨left,f7,ss,ks,D,M,i8,HH⟩:=hrel;go_wp2_with (first
  |(at_next;refine tH _ rfl _ rfl _ Tryz.lawA _ id _ (λkey kl hk=>⟨key,rfl⟩) (λv y hv=>da hv) _ _ _ _ _ _ rfl i8 ?_ ?_)
  |go_in)
 ·intro m5 f8;go_wp2;go_ret;have⟨g1,g2,g3,g4,g5,g6,g7⟩:=HH.o;refine⟨_,ks,D,M,rfl,eA,g2,g3.V λx y a b hx hy=>⟨λ_=>g1.rest x ((H1.o.key x).2 ⟨a,hx⟩) (f8 _),λ_=>trivial⟩,g6⟩
 intro key c kl ya yb w6 c7 a5 e1 hv g9 d1 k3 i9 k4 d0;obtain⟨a,ha,j0,rfl,hs⟩:=HH.1.some _ e1;obtain rfl:key=asL a:=Tryz.lawA.inj a5 (yP j0);have⟨g1,g2,g3,g4,g5,g6,g7⟩:=HH.o;have m6:=ay (g1.P H1.o.map.ok ha hs);have⟨x1,k5⟩:=(H1.o.key a).1 ha;have m7:c=x1:=by
  have h5:=H1.o.val a _ k5 .nil;rw[g9 .nil]at h5;have h6:Z2 (ai c)=Q (.lit (.int .i64 x1),yb):=h5▸hv
  exact di h6
 subst m7;have m8:=ay k5;have m9:=ay i8;have k6:=ay k3;have k7:Bl w w6:=g6.grown i9 Oo (λj hj=>by cases hj;omega);have k8:=g2.A (i9.block _ g2.lt Ss);clear i8 k3 a5 e1 hv g9 hs HH g2 g6 g1;unfold asL at d0 ⊢;generalize hf:(λi=>U a i 0)=f at *;unfold asV at d0 ⊢;go_upto_region 5 with fail;have e2:Bl w6 (S w6 (eZ #[ai (f 0),ai (f 1),ai (f 2),ai (f 3),ai (f 4),ai (f 5)] 140)):=aK;have j1:=six (w:=w6) f 140;have j2:=k8.O e2;have f9:=xc d1 (e2.block _ d1.owns.lt) (e2.block _ d1.lt);have j3:=bt k7 e2;have k9:J (S w6 (eZ #[ai (f 0),ai (f 1),ai (f 2),ai (f 3),ai (f 4),ai (f 5)] 140)).1=J wr.1+1:=by rw[aM,k4]
 rw[k4]at j1;generalize S w6 (eZ #[ai (f 0),ai (f 1),ai (f 2),ai (f 3),ai (f 4),ai (f 5)] 140)=W7 at *;have e3:W7.ownsMap wD 140 Z2 bb (E a3) D2:=(H2.o.O j3).map.z;clear e2 k7 k8 d1 i9 d0;go_wp2_with (first
  |(at_range;refine tJ _ rfl _ 115 rfl _ 3 Tryz.lawA Tryz.underWo _ _ _ _ rfl e3 ?_;intro w8 e4 d7 l0)
  |go_in)
 try go_frame
 rw[k9]at e4 l0 ⊢;have l1:Hh (w8.ranges wD 140 Z2 bf (J w.1+1) (E a4) D1 (λz=>left z&&!z.sameKey (kla a)) c7/\Cg a3 (Maps.has D2) []/\mQ w8 (J w.1) ks D M/\JoM r l M1 M2 (λx y=>x∈ss∨(x=a/\y∈([]:LL))) M/\E ks<=E ks+E ([]:LL)/\E ([]:LL)+Maps.size D2<=E a3/\Bl w w8/\J wr.1+1<J w8.1/\ArrAt w8 (J wr.1) 6 λi=>ai (f i)):=⟨xc f9 (d7.block _ f9.owns.lt Ss) (d7.block _ f9.lt Ss),Cg.zv H2.o.map,j2.A (d7.block _ j2.lt Ss),g3.V (λx y _ _ _ _=>Ss),Ss,by rw[H2.o.map.size];simp,j3.grown d7 Oo (λj hj=>by cases hj),Oo,j1.A (d7.block _ Oo Ss)⟩;have p3:=ay g3;have p4:J w.1+1<J wr.1:=g7;clear j1 f9 j2 j3 d7 l0 e3 k9 g3 g7;generalize J wr.1=z1 at *;go_loopw [13] (λ_ wq=>∃(b7:Lit->Bool) (d2:Nat) (tt b8:LL) (D':DataW Unit) (M':LI->Option Int),wq.ranges wD 140 Z2 bb (z1+1) (E a3) D2 b7 d2/\Hh (wq.ranges wD 140 Z2 bf (J w.1+1) (E a4) D1 (λz=>left z&&!z.sameKey (kla a)) c7/\Cg a3 b7 tt/\mQ wq (J w.1) b8 D' M'/\JoM r l M1 M2 (λx y=>x∈ss∨(x=a/\y∈tt)) M'/\E b8<=E ks+E tt/\E tt+d2<=E a3/\Bl w wq/\z1+1<J wq.1/\ArrAt wq z1 6 λi=>ai (f i))) (λ_ wq=>wq.rangeLeft bb (z1+1));exact⟨_,_,[],ks,D,M,e4,l1⟩;clear l1 e4;have⟨b7,d2,tt,b8,D',M',d3,HQ⟩:=hrel;go_wp2_with (first
  |(at_next;refine tH _ rfl _ rfl _ Tryz.lawA _ id _ (λkey kl hk=>⟨key,rfl⟩) (λv y hv=>da hv) _ _ _ _ _ _ rfl d3 ?_ ?_)
  |go_in)
 ·intro m5 f8;have⟨q1,q2,q3,q4,q5,q6,q7,q8,q9⟩:=HQ.o;have HF:Hh (Cg a4 (λz=>left z&&!z.sameKey (kla a)) (ss++[a])/\mQ wr (J w.1) b8 D' M'/\JoM r l M1 M2 (λx _=>x∈ss++[a]) M'/\E b8<=E (ss++[a])*E a3/\E (ss++[a])+c7<=E a4/\Bl w wr/\J w.1+1<J wr.1):=⟨m6,q3,q4.V λx y _ b _ hy=>by
   rw[cF,cI];exact⟨λh=>h.imp id λh=>⟨h,q2.rest y ((H2.o.key y).2 ⟨b,hy⟩) (f8 _)⟩,λh=>h.imp id And.left⟩,by rw[lA,lS,Nat.add_mul,Nat.one_mul];omega,by rw[lA,lS];have:=k6.o;omega,q7,Oo⟩
  have HR:=ay q1;clear HQ q1 q2 q3 q4 q5 q6 q7 q8 q9 d3 f8;go_wp2;go_roundw;exact⟨_,c7,ss++[a],b8,D',M',HR,HF⟩;rw[HR.o.left_eq,m9.o.left_eq];exact k6
 intro key c2 kl ya yb w9 h4 a5 e1 hv h7 d4 h8 d8 j4 d0;have⟨q1,q2,q3,q4,q5,q6,q7,q8,q9⟩:=HQ.o;obtain⟨y,hy,e5,rfl,l2⟩:=q2.some _ e1;obtain rfl:key=asL y:=Tryz.lawA.inj a5 (yP e5);have n3:=ay (q2.P H2.o.map.ok hy l2);have⟨x2,l3⟩:=(H2.o.key y).1 hy;have n4:c2=x2:=by
  have h5:=H2.o.val y _ l3 .nil;rw[h7 .nil]at h5;have h6:Z2 (ai c2)=Q (.lit (.int .i64 x2),yb):=h5▸hv
  exact di h6
 subst n4;have n5:=ay l3;have l4:=ay d3;have h9:=ay h8;have l5:Bl w w9:=q7.grown d8 Oo (λj hj=>by cases hj;omega);have l6:=q3.A (d8.block _ q3.lt Sy);have g8:=xc q1 (d8.block _ q1.owns.lt Sy) (d8.block _ q1.lt Sy);have l7:=q9.A (d8.block _ Oo Ss);have n6:=ay q4;clear HQ d3 h8 a5 e1 hv h7 l2 q1 q2 q3 q4 q7 q9;unfold asL at d0 ⊢;generalize hgf:(λi=>U y i 0)=g at *;unfold asV at d0 ⊢;go_upto_region 8 with fail;have a7:Bl w9 (S w9 (eZ #[ai (g 0),ai (g 1),ai (g 2),ai (g 3),ai (g 4),ai (g 5)] 140)):=aK;have a8:=six (w:=w9) g 140;have a9:=l7.A (a7.block _ Oo);have i0:=l6.O a7;have i3:=xc g8 (a7.block _ g8.owns.lt) (a7.block _ g8.lt);have i4:=xc d4 (a7.block _ d4.owns.lt) (a7.block _ d4.lt);have c8:=bt l5 a7;have o5:J (S w9 (eZ #[ai (g 0),ai (g 1),ai (g 2),ai (g 3),ai (g 4),ai (g 5)] 140)).1=J wr.1+1:=by rw[aM,j4]
 rw[j4]at a8;generalize (S w9 (eZ #[ai (g 0),ai (g 1),ai (g 2),ai (g 3),ai (g 4),ai (g 5)] 140))=W10 at *;generalize hz2:J wr.1=z2 at *;have a5:keyOf wD 140 (asV (xR l f g))=Q (kla (xu l a y)):=by
  have:=yP (qCm (l:=l) j0 e5);rwa[qHT,hf,hgf]at this
 have KW:Hh (∀W,Bl W10 W->Cl 168 #[aQ #[ai (f 0),ai (f 1),ai (f 2),ai (f 3),ai (f 4),ai (f 5)],aQ #[ai (g 0),ai (g 1),ai (g 2),ai (g 3),ai (g 4),ai (g 5)],Z al (E l) cl] W λe w'=>e=rE (asV (xR l f g))/\Bl W w'):=λW hW=>Zl W f g l (HL.o.zz (bt c8 hW)) m4 HI;have HS:Hh (∀W,Bl W10 W->eQ W (az pm 0)=Q (.iface T (aQ #[]))/\eQ W (az z1 0)=Q (ai (f 0))/\eQ W (az z1 1)=Q (ai (f 1))/\eQ W (az z1 2)=Q (ai (f 2))/\eQ W (az z1 3)=Q (ai (f 3))/\eQ W (az z1 4)=Q (ai (f 4))/\eQ W (az z1 5)=Q (ai (f 5))/\eQ W (az z2 0)=Q (ai (g 0))/\eQ W (az z2 1)=Q (ai (g 1))/\eQ W (az z2 2)=Q (ai (g 2))/\eQ W (az z2 3)=Q (ai (g 3))/\eQ W (az z2 4)=Q (ai (g 4))/\eQ W (az z2 5)=Q (ai (g 5))):=λW hW=>⟨(hW.cell (p:=(az pm 0)) (by show pm<_;have:=c8.size;omega)).trans (qF c8 HM.o),(a9.zz Oo hW).cell 0 Oo,(a9.zz Oo hW).cell 1 Oo,(a9.zz Oo hW).cell 2 Oo,(a9.zz Oo hW).cell 3 Oo,(a9.zz Oo hW).cell 4 Oo,(a9.zz Oo hW).cell 5 Oo,(a8.zz Oo hW).cell 0 Oo,(a8.zz Oo hW).cell 1 Oo,(a8.zz Oo hW).cell 2 Oo,(a8.zz Oo hW).cell 3 Oo,(a8.zz Oo hW).cell 4 Oo,(a8.zz Oo hW).cell 5 Oo⟩;have HT:Hh (∀W W',Bl W10 W->W.mapTurned W' (J w.1)->eQ W' (az pm 0)=Q (.iface T (aQ #[]))/\eQ W' (az z1 0)=Q (ai (f 0))/\eQ W' (az z1 1)=Q (ai (f 1))/\eQ W' (az z1 2)=Q (ai (f 2))/\eQ W' (az z1 3)=Q (ai (f 3))/\eQ W' (az z1 4)=Q (ai (f 4))/\eQ W' (az z1 5)=Q (ai (f 5))/\eQ W' (az z2 0)=Q (ai (g 0))/\eQ W' (az z2 1)=Q (ai (g 1))/\eQ W' (az z2 2)=Q (ai (g 2))/\eQ W' (az z2 3)=Q (ai (g 3))/\eQ W' (az z2 4)=Q (ai (g 4))/\eQ W' (az z2 5)=Q (ai (g 5))):=λW W' hW ht=>by
  have⟨s0,s1,s2,s3,s4,s5,s6,s7,s8,s9,n7,n8,n9⟩:=HS W hW;have n0:pm≠J w.1:=Oo;have n1:z1≠J w.1:=Oo;have n2:z2≠J w.1:=Oo;exact⟨qk ht n0 s0,qk ht n1 s1,qk ht n1 s2,qk ht n1 s3,qk ht n1 s4,qk ht n1 s5,qk ht n1 s6,qk ht n2 s7,qk ht n2 s8,qk ht n2 s9,qk ht n2 n7,qk ht n2 n8,qk ht n2 n9⟩
 have d5:=ay i0;have d6:=ay i3;have e6:=ay i4;have e7:=ay a9;have e8:=ay c8;have p5:E b8<=2000000000000:=by
  have h3:E ss*E a3<=1000000*1000000:=mU Oo Oo;omega
 have l8:E b8<maxLen:=Um;have b0:Bl W10 W10.drew:=eB.drew;clear l7 a8 a9 l6 i0 g8 i3 d4 i4 l5 c8 a7 d0 d8 j4 hf hgf;have⟨z,hz⟩:=Ex (tim r c c2);have l9:Hh (∀W,Cl N #[aQ #[],ai c,ai c2] W λe w'=>e=rE (ai z)/\Bl W w'):=λW=>hz▸KT W c _
 have HZ:=ay hz;clear KT hz;rcases hr with hr|hr|hr;all_goals
  rw[hr]at hT hN
  have hT:=hT.symm
  have hN:=hN.symm
  simp only[rgT,tiN,Nat.reduceEqDiff,reduceIte]at hT hN
  rw[hN]at l9
  clear hr hN
  go_region_held_law (λW=>eQ W (az pm 0)=Q (.iface T (aQ #[]))/\eQ W (az z1 0)=Q (ai (f 0))/\eQ W (az z1 1)=Q (ai (f 1))/\eQ W (az z1 2)=Q (ai (f 2))/\eQ W (az z1 3)=Q (ai (f 3))/\eQ W (az z1 4)=Q (ai (f 4))/\eQ W (az z1 5)=Q (ai (f 5))/\eQ W (az z2 0)=Q (ai (g 0))/\eQ W (az z2 1)=Q (ai (g 1))/\eQ W (az z2 2)=Q (ai (g 2))/\eQ W (az z2 3)=Q (ai (g 3))/\eQ W (az z2 4)=Q (ai (g 4))/\eQ W (az z2 5)=Q (ai (g 5)))
   (first
    |exact HS.o _ b0
    |exact HS.o _ bW
    |exact HS.o _ bT
    |exact HS.o _ bA
    |exact HT.o _ _ bA a6
    |fail)
   (first
    |(go_simp;go_at_call 168;(first
       |(with_reducible apply (KW.o _ bT).mono;rintro e o3 ⟨rfl,e9⟩;have bA:=bt bT e9;have⟨c9,m0,b9,a6⟩:=(d5.o.O bA).map.z.store Tryz.lawA Tryz.underWo l8 a5 (val:=ai z) (d:=.lit (.int .i64 z)) (ps:=[]) rfl)
       |(with_reducible apply (KW.o _ b0).mono;rintro e o3 ⟨rfl,e9⟩;have bW:=bt b0 e9)))
    |(go_simp;(first|go_at_call 275|go_at_call 280);apply (l9.o _).mono;rintro e p6 ⟨rfl,i5⟩;(first|(have bA:=bt bW i5;have⟨c9,m0,b9,a6⟩:=(d5.o.O bA).map.z.store Tryz.lawA Tryz.underWo l8 a5 (val:=ai z) (d:=.lit (.int .i64 z)) (ps:=[]) rfl)|have bT:=bt b0 i5))
    |fail)
  all_goals
   have b1:Kb (J w.1) W10 c9:=(Kb.zu bA).turned a6
   have m1:=e8.o.size
   have i6:=ay (xc (w':=c9) e6.o (b1.block bb e6.o.owns.lt Oo) (b1.block (z1+1) e6.o.lt Oo))
   have m3:=YG (a:=xu l a y) (ks:=b8)
   have HJ:JoM r l M1 M2 (λx y'=>x∈ss∨(x=a/\y'∈tt++[y])) (X3 M' (xu l a y) z):=by
    rw[HZ.o];refine(n6.o.P m8.o n5.o).V λx y' _ _ _ _=>?_;rw[cF,cI];exact⟨λh=>h.elim (λh=>.inl (.inl h)) λh=>h.2.elim (λh2=>.inl (.inr ⟨h.1,h2⟩)) λh2=>.inr ⟨h.1,h2⟩,λh=>h.elim (λh=>h.imp id λh=>⟨h.1,.inl h.2⟩) λh=>.inr ⟨h.1,.inr h.2⟩⟩
   have HE:Hh (c9.ranges wD 140 Z2 bf (J w.1+1) (E a4) D1 (λz=>left z&&!z.sameKey (kla a)) c7/\Cg a3 (λz=>b7 z&&!z.sameKey (kla y)) (tt++[y])/\mQ c9 (J w.1) (xa (xu l a y) b8) (D'.put (kla (xu l a y)) (.lit (.int .i64 z))) (X3 M' (xu l a y) z)/\JoM r l M1 M2 (λx y'=>x∈ss∨(x=a/\y'∈tt++[y])) (X3 M' (xu l a y) z)/\E (xa (xu l a y) b8)<=E ks+E (tt++[y])/\E (tt++[y])+h4<=E a3/\Bl w c9/\z1+1<c9.1.size/\ArrAt c9 z1 6 λi=>ai (f i)):=⟨xc d6.o (b1.block bf d6.o.owns.lt Oo) (b1.block _ d6.o.lt Oo),n3.o,(d5.o.O bA).put (qCm j0 e5) b9,HJ,by rw[lA,lS];omega,by rw[lA,lS];have:=h9.o;omega,e8.o.trans (b1.zz m1 eA),O1 b1.size,e7.o.A (b1.block z1 (e7.o.lt Oo) Oo)⟩
   clear b1 m1 b9 a6 m0 bA m3 HJ HS HT KW a5 d5 d6 e7 e8
   go_wp2
   go_roundw;exact⟨_,h4,tt++[y],_,_,_,i6.o,HE⟩;rw[i6.o.left_eq,l4.o.left_eq];exact h9.o
def TT(r:Nat)(x y:Int):Int:=if r=3 then x+y else x*y
def PP(r:Nat)(x y:Int):Int:=if r=3 then min x y else x+y
def ju(r:Nat):Option Int->Option Int->Option Int
 |none,b=>b
 |some a,wH=>Q a
 |some a,Q b=>Q (PP r a b)
def dt(r:Nat):Option Int->Option Int->Option Int
 |some a,Q b=>Q (TT r a b)
 |_,_=>wH
def smR(r:Nat)(l:LI):Option Int:=l.foldr (λx z=>ju r (Q x) z) wH
def prZ(r:Nat)(l:LI):Int:=l.foldr (TT r) (onr r)
section
variable {r:Nat}
def mB(x y:Int):PP r x y=PP r y x:=by unfold PP;split <;> omega
def lQ(x y z:Int):PP r (PP r x y) z=PP r x (PP r y z):=by unfold PP;split <;> omega
def dv(x y:Int):TT r x y=TT r y x:=by unfold TT;split;omega;exact Int.mul_comm x y
def fG(x y z:Int):TT r (TT r x y) z=TT r x (TT r y z):=by unfold TT;split;omega;exact Int.mul_assoc x y z
def fw(x:Int):TT r (onr r) x=x:=by unfold TT onr;split;omega;exact Int.one_mul x
def lf(x y z:Int):TT r x (PP r y z)=PP r (TT r x y) (TT r x z):=by
 unfold TT PP;split;omega;exact Int.mul_add x y z
def lF(a b:Option Int):ju r a b=ju r b a:=by cases a <;> cases b <;> simp[ju,mB]
def fI(a b c:Option Int):ju r (ju r a b) c=ju r a (ju r b c):=by cases a <;> cases b <;> cases c <;> simp[ju,lQ]
def fh(a:Option Int):ju r a wH=a:=by cases a <;> rfl
def lU(a b c:Option Int):dt r (ju r a b) c=ju r (dt r a c) (dt r b c):=by
 cases a <;> cases b <;> cases c <;> simp[ju,dt]
 rename_i x y z;rw[dv,lf,dv z x,dv z y]
def fJ(l m:LI):smR r (l++m)=ju r (smR r l) (smR r m):=by
 induction l with
 |nil=>rfl
 |cons x l ih=>show ju r (Q x) (smR r (l++m))=ju r (ju r (Q x) (smR r l)) (smR r m);rw[ih,fI]
def lV{l m:LI}(h:l.Perm m):smR r l=smR r m:=by
 induction h with
 |nil=>rfl
 |cons x _ ih=>exact congrArg (ju r _) ih
 |swap x y l=>
  show ju r (Q y) (ju r (Q x) (smR r l))=ju r (Q x) (ju r (Q y) (smR r l));rw[<-fI,lF (Q y),fI]
 |trans _ _ h1 h2=>rw[h1,h2]
def lX{l:LI}:smR r l=wH↔l=[]:=by
 cases l with
 |nil=>exact⟨λ_=>rfl,λ_=>rfl⟩
 |cons x l=>
  refine⟨λh=>?_,λh=>by cases h⟩;have h:ju r (Q x) (smR r l)=none:=h;cases e:smR r l <;> (rw[e]at h;cases h)
def lG(x:Int)(m:LI):smR r (m.map (TT r x))=dt r (Q x) (smR r m):=by
 induction m with
 |nil=>rfl
 |cons y m ih=>
  show ju r (Q (TT r x y)) (smR r (m.map (TT r x)))=dt r (Q x) (ju r (Q y) (smR r m));rw[ih];cases smR r m with
  |none=>rfl
  |some z=>simp[ju,dt,lf]
def mD(l m:LI):smR r (l.flatMap λx=>m.map (TT r x))=dt r (smR r l) (smR r m):=by
 induction l with
 |nil=>rfl
 |cons x l ih=>
  rw[dS,fJ,ih,lG];show _=dt r (ju r (Q x) (smR r l)) (smR r m);rw[lU]
def fY(h:r=3):∀{l:LI} {x:Int},smR r l=Q x->x∈l
 |y::l,x,e=>by
  have e:ju r (Q y) (smR r l)=Q x:=e;cases h1:smR r l with
  |none=>rw[h1]at e;cases e;exact cY ..
  |some z=>
   rw[h1]at e;have e:PP r y z=x:=eU e;unfold PP at e;rw[fE h]at e;have:=fY h h1;rcases Int.le_total y z with h2|h2;rw[Int.min_eq_left h2]at e;rw[e];exact cY ..;rw[Int.min_eq_right h2]at e;rw[<-e];exact mC _ this
def gT(l m:LI):prZ r (l++m)=TT r (prZ r l) (prZ r m):=by
 induction l with
 |nil=>exact(fw _).symm
 |cons x l ih=>show TT r x (prZ r (l++m))=TT r (TT r x (prZ r l)) (prZ r m);rw[ih,fG]
def lY{l m:LI}(h:l.Perm m):prZ r l=prZ r m:=by
 induction h with
 |nil=>rfl
 |cons x _ ih=>exact congrArg (TT r x) ih
 |swap x y l=>
  show TT r y (TT r x (prZ r l))=TT r x (TT r y (prZ r l));rw[<-fG,dv y,fG]
 |trans _ _ h1 h2=>rw[h1,h2]
def fO(h:r=3):∀{l:LI},(∀x∈l,-1000000<=x/\x<=1000000)->-(1000000*(E l:Int))<=prZ r l/\prZ r l<=1000000*(E l:Int)
 |[],_=>by unfold prZ onr;simp[h]
 |x::l,hx=>by
  have h1:=fO h (l:=l) λy hy=>hx y (mC _ hy);have h2:=hx x (cY ..);have e0:∀y,TT r x y=x+y:=λy=>by unfold TT;rw[fE h]
  have e:prZ r (x::l)=x+prZ r l:=e0 _;rw[e,cQ];omega
def SmP{α:Type}(r:Nat)(p:α->Prop)(g:α->Int)(z:Option Int):Prop:=∃l:List α,l.Nodup/\(∀a,a∈l↔p a)/\z=smR r (l.map g)
section
variable {α β γ:Type} {p q:α->Prop} {g g':α->Int} {z z1 z2:Option Int}
def gG{l m:List α}(h1:l.Nodup)(h2:m.Nodup)(h:∀a,a∈l↔a∈m):l.Perm m:=by
 induction l generalizing m with
 |nil=>
  cases m with
  |nil=>exact List.Perm.refl _
  |cons a m=>exact absurd ((h a).2 (cY ..)) Ss
 |cons a l ih=>
  obtain⟨u,v,rfl⟩:=append_of_mem ((h a).1 (cY ..));have hp:(u++a::v).Perm (a::(u++v)):=perm_middle;have h3:=nodup_cons.1 (hp.nodup_iff.1 h2);have h4:=nodup_cons.1 h1;refine((ih h4.2 h3.2 λx=>?_).cons a).trans hp.symm;have hx:=h x;rw[hp.mem_iff,cH,cH]at hx;constructor;intro hl;exact(hx.1 (.inr hl)).resolve_left λe=>h4.1 (e ▸ hl);intro hl;exact(hx.2 (.inr hl)).resolve_left λe=>h3.1 (e ▸ hl)
def SmP.uniq(h1:SmP r p g z1)(h2:SmP r p g z2):z1=z2:=by
 obtain⟨l,a1,a2,rfl⟩:=h1;obtain⟨m,b1,b2,rfl⟩:=h2;exact lV ((gG a1 b1 λa=>(a2 a).trans (b2 a).symm).map g)
def SmP.V(h:SmP r p g z)(hp:∀a,q a↔p a)(hg:∀a,p a->g' a=g a):SmP r q g' z:=by
 obtain⟨l,a1,a2,rfl⟩:=h;exact⟨l,a1,λa=>(a2 a).trans (hp a).symm,by rw[cV λa ha=>hg a ((a2 a).1 ha)]⟩
def SmP.none_iff(h:SmP r p g z):z=wH↔∀a,¬p a:=by
 obtain⟨l,a1,a2,rfl⟩:=h;rw[lX,map_eq_nil_iff,eq_nil_iff_forall_not_mem];exact⟨λh a ha=>h a ((a2 a).2 ha),λh a ha=>h a ((a2 a).1 ha)⟩
def SmP.some_of(h:SmP r p g z){a:α}(ha:p a):∃x,z=Q x:=by
 cases e:z with
 |none=>exact absurd ha (h.none_iff.1 e a)
 |some x=>exact⟨x,rfl⟩
def SmP.ex(h:SmP r p g z){x:Int}(e:z=Q x):∃a,p a:=eV λhn=>by
 have:=h.none_iff.2 λa ha=>hn ⟨a,ha⟩;rw[e]at this;cases this
def SmP.min(h:SmP r p g z)(h3:r=3){x:Int}(e:z=Q x):∃a,p a/\x=g a:=by
 obtain⟨l,a1,a2,rfl⟩:=h;have⟨a,ha,e1⟩:=cC.1 (fY h3 e);exact⟨a,(a2 a).1 ha,e1.symm⟩
def SmP.union(h1:SmP r p g z1)(h2:SmP r q g z2)(hd:∀a,p a->¬q a):SmP r (λa=>p a∨q a) g (ju r z1 z2):=by
 obtain⟨l,a1,a2,rfl⟩:=h1;obtain⟨m,b1,b2,rfl⟩:=h2;refine⟨l++m,nodup_append.2 ⟨a1,b1,λx hx y hy e=>hd x ((a2 x).1 hx) ((b2 x).1 (e ▸ hy))⟩,λa=>?_,by rw[mA,fJ]⟩;rw[cF,a2,b2]
def SmP.one{a:α}:SmP r (λx=>x=a) g (Q (g a)):=⟨[a],Ss,λx=>Ss,rfl⟩
def dw{f f':α->List β}:∀{l:List α},(∀x∈l,f x=f' x)->l.flatMap f=l.flatMap f'
 |[],_=>rfl
 |a::l,h=>by rw[dS,dS,h a (cY ..),dw λx hx=>h x (mC _ hx)]
def fU{f:α->β->γ}{m:List β}(hm:m.Nodup):∀{l:List α},l.Nodup->(∀a∈l,∀a'∈l,∀b∈m,∀b'∈m,f a b=f a' b'->a=a'/\b=b')->(l.flatMap λa=>m.map (f a)).Nodup
 |[],_,_=>nodup_nil
 |a::l,h1,h2=>by
  rw[dS];have h3:=nodup_cons.1 h1;refine nodup_append.2 ⟨pairwise_map.2 (hm.imp_of_mem λ{b b'} hb a3 hne e=>hne (h2 a (cY ..) a (cY ..) b hb _ a3 e).2),fU hm h3.2 λx hx y hy=>h2 x (mC _ hx) y (mC _ hy),λx hx y hy e=>?_⟩;obtain⟨b,hb,rfl⟩:=cC.1 hx;have⟨a',a4,hy⟩:=mem_flatMap.1 hy;obtain⟨b',a3,rfl⟩:=cC.1 hy;exact h3.1 ((h2 a (cY ..) _ (mC _ a4) b hb _ a3 e).1 ▸ a4)
def SmP.prod{q:β->Prop}{h:β->Int}(h1:SmP r p g z1)(h2:SmP r q h z2)(f:α->β->γ)(k:γ->Int)(hi:∀a a' b b',p a->p a'->q b->q b'->f a b=f a' b'->a=a'/\b=b')(hk:∀a b,p a->q b->k (f a b)=TT r (g a) (h b)):SmP r (λc=>∃a b,p a/\q b/\c=f a b) k (dt r z1 z2):=by
 obtain⟨l,a1,a2,rfl⟩:=h1;obtain⟨m,b1,b2,rfl⟩:=h2;refine⟨l.flatMap λa=>m.map (f a),fU b1 a1 λa ha a' a3 b hb b' a4=>hi a _ b _ ((a2 a).1 ha) ((a2 a').1 a3) ((b2 b).1 hb) ((b2 b').1 a4),λc=>?_,?_⟩
 ·rw[mem_flatMap];constructor;rintro⟨a,ha,hc⟩;obtain⟨b,hb,rfl⟩:=cC.1 hc;exact⟨a,b,(a2 a).1 ha,(b2 b).1 hb,rfl⟩;rintro⟨a,b,ha,hb,rfl⟩;exact⟨a,(a2 a).2 ha,dF ((b2 b).2 hb)⟩
 rw[<-mD,map_flatMap,flatMap_map];congr 1;refine dw λa ha=>?_;rw[map_map,map_map];exact cV λb hb=>(hk a b ((a2 a).1 ha) ((b2 b).1 hb)).symm
end
end
def fZ{x y:Int}(h:∃c,y=x+c*18446744073709551616):wrap64 y=wrap64 x:=by
 obtain⟨c,rfl⟩:=h;unfold wrap64;omega
def dx(x:Int):∃c,wrap64 x=x+c*18446744073709551616:=⟨-((x+9223372036854775808) / 18446744073709551616),by unfold wrap64;omega⟩
def lZ(r:Nat)(x y:Int):tim r (wrap64 x) (wrap64 y)=wrap64 (TT r x y):=by
 unfold tim;have⟨c,hc⟩:=dx x;have⟨d,hd⟩:=dx y;refine fZ ?_;rw[hc,hd];unfold TT;split;exact⟨c+d,Oo⟩;refine⟨x*d+c*y+c*d*18446744073709551616,?_⟩;grind
def df{n:Int}(h:-9223372036854775808<=n/\n<=9223372036854775807):wrap64 n=n:=by unfold wrap64;omega
def Sml(r:Nat)(z:Option Int):Prop:=r=3->∀x,z=Q x->-9223372036854775808<=x/\x<=9223372036854775807
def fx{r:Nat}{x y:Int}(hx:Sml r (Q x))(hy:Sml r (Q y)):plu r (wrap64 x) (wrap64 y)=wrap64 (PP r x y):=by
 unfold plu PP;by_cases e:r=3;rw[fE e,fE e,df (hx e x rfl),df (hy e y rfl)];have h1:=hx e x rfl;have h2:=hy e y rfl;rw[df Oo];rw[fF e,fF e];have⟨c,hc⟩:=dx x;have⟨d,hd⟩:=dx y;exact fZ ⟨c+d,by rw[hc,hd];omega⟩
