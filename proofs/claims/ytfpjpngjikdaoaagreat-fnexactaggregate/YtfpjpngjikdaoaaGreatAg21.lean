import Derived.Laws.IdiomRangeMap
import Derived.Test.YtfpjpngjikdaoaaGreatAg14
import Derived.Test.YtfpjpngjikdaoaaGreatAg15
import Derived.Test.YtfpjpngjikdaoaaGreatAg18
import Derived.Test.YtfpjpngjikdaoaaGreatAg08
import Derived.Test.YtfpjpngjikdaoaaGreatAg20
import Derived.Laws.MakeOwn
import Derived.Test.YtfpjpngjikdaoaaGreatAg19
import Derived.Test.YtfpjpngjikdaoaaGreatAg13
set_option maxHeartbeats 40000000
set_option maxRecDepth 1000000
set_option linter.defProp false
open List Go.World
open List renaming length->E,getD->U,replicate->wJ
open Array renaming size->J
open Go.World renaming alloc->S,ownsRow->oW,setCell->sW,cell?->eQ
open Go.Value renaming slice->Z,agg->aQ,bool->oB
open Go.Obj renaming cells->eZ
open Go.Ending renaming returned->rE
open Option renaming some->Q,none->wH
open Bool renaming false->nF
open Go renaming World->oX,Value->oV
open Decidable renaming decide->oD
open Prod renaming fst->wM
namespace Go.Proofs.YtfpjpngjikdaoaaGreat
open Go.Proofs.Tryz Go.RowKit Go.Maps
def prM(hd:LI)(M:LI->Option Int)(a:LI):LI×Int:=(qM hd a,(M a).getD 0)
def TdE(w:oX)(hd:LI)(M:LI->Option Int)(e:Ending)(w':oX):Prop:=∃vR vW,e=rE (.tuple #[vR,vW])/\∃(us:List oV) (es:List (LI×Int)) (ss:LL),RQ w' (J w.1) vR us (es.map wM)/\oW w' (J w.1) 3 1 vW (E es) ((es.map Prod.snd).map ai)/\(∀i,i<E es->ApW (U us i undef) vW)/\(es.Pairwise λa b=>¬cmpL b.1 a.1<0)/\es.Perm (ss.map (prM hd M))/\ss.Nodup/\(∀a:LI,a∈ss↔∃x,M a=Q x)/\Bl w w'
def U3(w W:oX)(v:oV)(hd:LI)(M:LI->Option Int)(ss:LL)(l:List (LI×Int))(hb:Bl w W)(h:WF W (J w.1) v l)(hl:l=ss.map (prM hd M))(hs:ss.Nodup)(hk:∀a:LI,a∈ss↔∃x,M a=Q x)(hn:E ss<=20000)(hh:E hd<=1000):Cl 95 #[v] W λe w'=>∃vR vW,e=rE (.tuple #[vR,vW])/\TdE w hd M (rE (.tuple #[vR,vW])) w':=by
 have⟨es,hq,he⟩:=h;have a4:es.map (λe=>e.2)=ss.map (prM hd M):=he.trans hl;have a7:E es=E ss:=by simpa using congrArg List.length a4
 refine(Yf W v hq (λe hm=>?_) Oo hb.size).mono ?_;have:e.2∈es.map (λe=>e.2):=dF hm;rw[a4]at this;obtain⟨a,-,e1⟩:=cC.1 this;rw[<-e1];show E (qM hd a)<=_;unfold qM;rw[lM];omega;rintro e w' ⟨a3,vR,vW,rfl,hp,a5,hr,ho,ha,a6⟩;have e1:wls a3=(a3.map λe=>e.2).map Prod.fst:=by rw[map_map];rfl
 have e2:wws a3=(a3.map λe=>e.2).map Prod.snd:=by rw[map_map];rfl
 rw[e1]at hr;rw[e2,lM]at ho;refine⟨vR,vW,rfl,vR,vW,rfl,wus a3,a3.map λe=>e.2,ss,hr,ho,λi hi=>ha i (by rw[lM]at hi;exact hi),pairwise_map.2 a5,?_,hs,hk,hb.trans a6⟩;rw[<-a4];exact hp.map _
def WF.keep{W W':oX}{B:Nat}{v:oV}{l:List (LI×Int)}(h:WF W B v l)(hk:∀(k:Nat) (c:Array oV) (t:TypeId),W.1[k]?=Q (Obj.cells c t (0,0))->W'.1[k]?=W.1[k]?):WF W' B v l:=by
 have⟨es,hq,e⟩:=h;have mv:∀{x:oV} {t:TypeId} {s n:Nat} {xs:List oV},oW W B t s x n xs->oW W' B t s x n xs:=λ{x t s n xs} hx=>qD hx λg hg=>by
  have⟨cur,h1⟩:=qK hx hg;exact hk g _ _ h1
 exact⟨es,⟨mv hq.z,λx hx=>mv (hq.l x hx),hq.ap⟩,e⟩
def qI6{W:oX}{B s n b r m a3:Nat}{t:TypeId}{v:oV}{xs:List oV}{R:oV->Option (DataW Unit×List MemPlace)}{D:DataW Unit}{left:Lit->Bool}(h:W.ranges Tryz.prog 140 R b r m D left a3)(ho:oW W B t s v n xs):Q b≠v.ownBlock/\Q r≠v.ownBlock:=by
 obtain⟨es,clock,since,seen,c0,h1,-,-,-,h2,-⟩:=h;constructor;intro e;have⟨cur,h3⟩:=qK ho e.symm;rw[h1]at h3;cases h3
 intro e;have⟨cur,h3⟩:=qK ho e.symm;rw[h2]at h3;cases h3
def qFq{W W':oX}{b r m a3:Nat}{R:oV->Option (DataW Unit×List MemPlace)}{D:DataW Unit}{left:Lit->Bool}(h:W.ranges Tryz.prog 140 R b r m D left a3)(hg:W.grownBy W' (Q r)):∀(k:Nat) (c:Array oV) (t:TypeId),W.1[k]?=Q (Obj.cells c t (0,0))->W'.1[k]?=W.1[k]?:=λk c t hk=>hg.block k (dK.1 hk).1 λe=>by
 obtain⟨es,clock,since,seen,c0,h1,-,-,-,h2,-⟩:=h;obtain rfl:=eU e;rw[h2]at hk;cases hk
def qFr(w:oX)(vh:oV)(hd:LI)(hh:IS w vh hd)(a6:E hd<=1000):
 Cl 72 #[.map wH,vh] w (TdE w hd λ_=>wH):=by
 have⟨iM,hi,a7,a8,b8⟩:=aX Tryz.infoWt;obtain⟨a4,k4,rfl,-⟩:=hh;have b9:=λW:oX=>run_range_nilMap W _ _ _ Tryz.underWo;have c7:∀(W:oX) ty,(Instr.next (pZ (J W.1) 0) nF ty).run Tryz.prog (S W (.mapIter wH 0 #[] 0))=_:=λW ty=>run_next_nilMap _ _ 0 0 _;go_enter func72,ntmps72;go_upto_region 2 with (first|(at_make;refine nJ _ rfl _ _ 138 rfl _ 143 _ _ 2 underlying138 hi a7 a8 _ _ _ 0 rfl rfl rfl ?b2 ?b3 eA ?_)|fail)
 case b2=>omega
 case b3=>unfold maxLen;omega
 intro w0 a5 a3;have b1:Hh (Bl w w0):=eB.grown a3 eA (λj hj=>by cases hj);have b7:Hh (WF w0 (J w.1) (sZ (J w.1) 0 0 0) []):=⟨[],⟨a5,λe he=>(by cases he),iO⟩,rfl⟩;have KS:Hh (∀W,Bl w0 W->Cl 95 #[sZ (J w.1) 0 0 0] W λe w'=>∃vR vW,e=rE (.tuple #[vR,vW])/\TdE w hd (λ_=>wH) (rE (.tuple #[vR,vW])) w'):=λW hW=>U3 w W _ _ _ _ _ (bt b1 hW) (b7.o.zz hW) rfl nodup_nil (λ_=>⟨λh=>by(cases h),λ⟨x,h⟩=>by cases h⟩) Ss a6;go_wp2_with fail;refine sA 1 ?_;rw[rounds_succ];go_wp2_with (first|(go_at_call 95;apply (KS.o _ aK).mono;rintro e w' ⟨vR,vW,rfl,hE⟩)|fail);go_ret2;exact hE
def qEl(w:oX)(c:Nat)(D:DataW Unit)(vh:oV)(hd:LI)(ks:LL)(M:LI->Option Int)(hW:mQ w c ks D M)(hh:IS w vh hd)(i9:E hd<=1000)(e8:∀y∈hd,0<=y/\y<6)(hn:E ks<=20000):
 Cl 72 #[.map (Q c),vh] w (TdE w hd M):=by
 have⟨iM,hi,e9,f7,f8⟩:=aX Tryz.infoWt;have j0:=ay hh;obtain⟨a4,k4,rfl,-⟩:=hh;have f9:=ay i9;have j1:=ay e8;have HW:=ay hW;have g6:=hW.map.size;go_enter func72,ntmps72;go_upto_region 2 with (first|(at_len;refine wpList_len_own _ rfl _ 115 rfl _ 3 Tryz.underWo _ c _ D rfl hW.map.z ?_;rw[g6])|(at_make;refine nJ _ rfl _ _ 138 rfl _ 143 _ _ 2 underlying138 hi e9 f7 _ _ _ _ rfl rfl rfl ?b2 ?b3 eA ?_)|fail)
 case b2=>rw[f8];omega
 case b3=>unfold maxLen;omega
 intro w0 b1 a6;have b7:Hh (Bl w w0):=eB.grown a6 eA (λj hj=>by cases hj);have g7:Hh (WF w0 (J w.1) (sZ (J w.1) 0 0 (E ks)) []):=⟨[],⟨b1,λe he=>(by cases he),iO⟩,rfl⟩;have b8:=(hW.O b7).map.z;go_wp2_with (first
  |(at_range;refine wpList_range_own _ rfl _ 115 rfl _ 3 Tryz.lawA Tryz.underWo _ c _ D rfl b8 ?_;intro w5 d3 d7 j2)
  |go_in)
 try go_frame
 have g8:Hh (Cg ks (Maps.has D) []/\WF w5 (J w.1) (sZ (J w.1) 0 0 (E ks)) []/\([]:List (LI×Int))=([]:LL).map (prM hd M)/\Bl w w5/\J w0.1<J w5.1):=⟨Cg.zv HW.o.map,g7.o.zz (eB.grown d7 eA (λj hj=>by cases hj)),rfl,b7.o.grown d7 b7.o.size (λj hj=>by cases hj),Oo⟩;have j3:=ay b7.o.size;go_loopw [6] (λu wr=>∃(left:Lit->Bool) (d8:Nat) (ss:LL) (l:List (LI×Int)) (vs:oV),vs=u/\wr.ranges Tryz.prog 140 Z2 c (J w0.1) (E ks) D left d8/\Hh (Cg ks left ss/\WF wr (J w.1) vs l/\l=ss.map (prM hd M)/\Bl w wr/\J w0.1<J wr.1)) (λ_ wr=>wr.rangeLeft c (J w0.1));exact⟨_,_,[],[],_,rfl,d3,g8⟩;obtain⟨left,d8,ss,l,vs,rfl,c7,HH⟩:=hrel;have k6:E ss<=E ks:=kq (f:=id) HH.1.nd λa ha=>⟨a,HH.1.sub a ha,rfl⟩;have k8:E l<=20000:=by
  have:E l=E ss:=by rw[HH.o.2.2.1,lM]
  omega
 go_wp2_with (first
  |(at_next;refine wpList_next_ranges _ rfl _ rfl _ Tryz.lawA _ id _ (λkey kl hk=>⟨key,rfl⟩) (λv y hv=>da hv) c _ _ D _ _ rfl c7 ?_ ?_)
  |go_in)
 ·intro l0 g9;have KS:Hh (Cl 95 #[vs] wr λe w'=>∃vR vW,e=rE (.tuple #[vR,vW])/\TdE w hd M (rE (.tuple #[vR,vW])) w'):=U3 w _ _ _ M _ l HH.2.2.2.1 HH.2.1 HH.2.2.1 HH.1.nd (λa=>⟨λh=>(HW.o.key a).1 (HH.1.sub a h),λh=>HH.1.rest a ((HW.o.key a).2 h) (g9 _)⟩) Oo f9;clear HH c7 g9;go_wp2_with (first|(go_at_call 95;apply KS.o.mono;rintro e w' ⟨vR,vW,rfl,hE⟩)|fail);go_ret2;exact hE
 intro key cc kl ya yb w6 k7 d4 h2 hv d5 a7 h3 d9 h4 e0;obtain⟨a,ha,h7,rfl,hs⟩:=HH.1.some _ h2;obtain rfl:key=asL a:=Tryz.lawA.inj d4 (yP h7);have⟨g1,g2,g3,g4,g5⟩:=HH.o;have G3:=ay g3;clear g3;have j4:=ay (g1.P HW.o.map.ok ha hs);have⟨x2,e1⟩:=(HW.o.key a).1 ha;have h8:cc=x2:=by
  have h5:=HW.o.val a _ e1 .nil;rw[d5 .nil]at h5
  exact di (by rw[<-h5];exact hv)
 have j5:Hh (prM hd M a=(qM hd a,cc)):=(by unfold prM;rw[e1,h8];rfl);clear e1 h8;have j6:=ay c7;have k0:=ay h3;have h9:Bl w w6:=g4.grown d9 g4.size (λj hj=>by cases hj;exact j3);have i0:=g2.keep (qFq c7 d9);have e2:=ay h7.1;unfold asL at e0 ⊢;generalize hf:(λi=>U a i 0)=f at *;unfold asV at e0 ⊢;go_upto_region 5 with fail;have c8:Bl w6 (S w6 (eZ #[ai (f 0),ai (f 1),ai (f 2),ai (f 3),ai (f 4),ai (f 5)] 140)):=aK;have e3:=six (w:=w6) f 140;have c9:=bt h9 c8;have l1:J w0.1<J (S w6 (eZ #[ai (f 0),ai (f 1),ai (f 2),ai (f 3),ai (f 4),ai (f 5)] 140)).1:=by rw[aM,h4];omega
 rw[h4]at e3;generalize S w6 (eZ #[ai (f 0),ai (f 1),ai (f 2),ai (f 3),ai (f 4),ai (f 5)] 140)=W7 at *;have i5:IS W7 (sZ (J wr.1) 0 6 6) a:=⟨_,6,by rw[e2.o],.inr ⟨_,0,rfl,λj hj=>by
  rw[cU,e3.cell j (O1 e2.o),<-hf]⟩⟩
 have KV:Hh (Cl 94 #[sZ (J wr.1) 0 6 6,Z a4 (E hd) k4] W7 λe w'=>∃b9 k9,e=rE (Z b9 (E hd) k9)/\oW w' (J W7.1) 3 1 (Z b9 (E hd) k9) (E (qM hd a)) ((qM hd a).map ai)/\Bl W7 w'):=(xZ _ _ _ a _ i5 (j0.o.zz c9) f9 (λy hy=>by have:=j1 y hy;rw[e2.o];omega)).mono (by
  rintro e w' ⟨v,rfl,ho,hb⟩;obtain⟨b9,k9,rfl⟩:=qG ho;rw[UN]at ho ⊢;exact⟨b9,k9,rfl,by rw[show E (qM hd a)=E hd by unfold qM;simp];exact ho,hb⟩)
 have⟨xs,a8,d0⟩:=(i0.zz c8).M c9.size;have i6:=ay d0;have HR:=ay (xc a7 (c8.block _ a7.owns.lt) (c8.block _ a7.lt));have i7:=ay c9;have l2:=c9.size;go_wp2_with (first
  |(at_builtin;refine wpList_append_lies _ rfl _ _ 138 rfl _ 143 _ _ 2 _ underlying138 hi e9 f7 f8 rfl Dd vs _ _ rfl ((qB a8 a5).alloc _) (az _ 0) 1 1 _ rfl rfl (qEE) (λu hu=>by simp at hu;rcases hu with rfl|rfl <;> rfl) Dd Um Oo (by simp;have:=a5.size;omega) _ rfl ?_;intro g10 k5 d1 a9 a3 e4 e5)
  |(go_at_call 94;apply KV.o.mono;rintro e w8 ⟨b9,k9,rfl,i8,a5⟩)
  |fail)
 have HE:Hh (WF d1 (J w.1) (sZ g10 0 (E l+1) k5) (l++[(qM hd a,cc)])/\Bl w d1/\J w0.1<d1.1.size):=⟨i6 _ _ _ _ _ _ _ a5 i8 a3 a9,((bt i7 a5).alloc (O1 a5.size) _).grown a3 (by simp;have:=a5.size;omega) (λk hk=>(a8.lt k hk).1),by have h1:=a3.size;have:=a5.size;rw[aM]at h1;omega⟩;have e6:=xc HR (a5.block _ HR.o.owns.lt) (a5.block _ HR.o.lt);have e7:=qI6 e6 (qB a8 a5);have d6:=(e6.alloc _).kept a3 e7.1 e7.2;go_roundw;exact⟨_,_,ss++[a],_,_,rfl,d6,ay ⟨j4,HE.1,(by rw[mA,<-G3.o,map_singleton,j5.o]),HE.2.1,HE.2.2⟩⟩;rw[j6.o.left_eq,d6.left_eq];exact k0
abbrev pO(bs:LL)(ps:LI):Nat->Nat:=xO ps (E bs)
abbrev J0(bs:LL)(i:Nat):LI:=U bs i []
abbrev oO(bs:LL)(hd:LI)(i:Nat):LI:=shr (U bs i []) hd
def zcT(r k:Nat)(tl:List TbV)(bs:LL)(ps hd hl:LI)(i:Nat)(s x:LI):Option Int:=smA r (qO tl (upR k)) (λq=>oD (s=ky (shr (J0 bs i) (J0 bs (pO bs ps i))) (fr q)/\x=ky (hdT (oO bs hd) (pO bs ps) i) (fr q))) (hdT (J0 bs) (pO bs ps) i) (wpr r tl (hdT (zE hl (E tl)) (pO bs ps) i))
def chT(r k:Nat)(tl:List TbV)(bs:LL)(ps hd hl:LI)(i:Nat):Ch:=⟨shr (J0 bs i) (J0 bs (pO bs ps i)),hdT (oO bs hd) (pO bs ps) i,λs x=>(zcT r k tl bs ps hd hl i s x).map wrap64⟩
abbrev lN(bs:LL)(ps:LI)(i j:Nat):LI:=hdT (J0 bs) (pO bs ps) (U (kids (pO bs ps) i) j 0)
abbrev gK(r:Nat)(tl:List TbV)(bs:LL)(ps hl:LI)(i j:Nat):(Int->Int)->Int:=wpr r tl (hdT (zE hl (E tl)) (pO bs ps) (U (kids (pO bs ps) i) j 0))
def zfT(r k:Nat)(tl:List TbV)(bs:LL)(ps hd hl:LI)(i q:Nat)(ka x:LI):Option Int:=smA r (qO tl (upR k)) (λz=>oD (ka=ky (J0 bs i) (fr z)/\x=ky (oO bs hd i++hds ((kids (pO bs ps) i).map (chT r k tl bs ps hd hl)) q) (fr z))) (usF (J0 bs i) (lN bs ps i) q) (gwF r (wpr r tl (zE hl (E tl) i)) (gK r tl bs ps hl i) q)
def fdT(r k:Nat)(tl:List TbV)(bs:LL)(ps hd hl:LI)(i q:Nat)(ka x:LI):Option Int:=(zfT r k tl bs ps hd hl i q ka x).map wrap64
def wtT(ka:LI)(t:TbV):Int:=wtZ t (fr ka)
def map_some{z:Option Int}{x:Int}(h:z.map wrap64=Q x):∃y,z=Q y:=by
 cases z with
 |none=>cases h
 |some y=>exact⟨y,rfl⟩
def mN{t:TbV}(a5:qW t){F:Int->Int}(hF:t.e.map F∈t.x){M:LI->Option Int}(hM:RwM t.e t.x t.k (E t.x) M):M (ky t.e F)=Q (wtZ t F):=by
 obtain⟨a3,-,a7⟩:=qL a5;have a4:=xK a3;obtain⟨i0,a6,e0⟩:∃i0,∃h:i0<E t.x,t.x[i0]=t.e.map F/\t.x.idxOf (t.e.map F)=i0:=⟨_,idxOf_lt_length_of_mem hF,getElem_idxOf _,rfl⟩;have e1:xx t.e (U t.x i0 [])=ky t.e F:=by rw[gdR a6,e0.1,QY a4]
 have⟨z,hz⟩:=hM.2 _ a6;have⟨i,hi,e2,e3⟩:=hM.1 _ z hz;have e4:U t.x i []=t.e.map (vlF t.e (U t.x i [])):=(jy a4 (a7 _ (qz hi))).symm;rw[e1,e4,QY a4]at e2;have e5:U t.x i []=t.e.map F:=by
  rw[e4];exact cV λv hv=>(qIw e2 hv (((V7 a3).1) v hv)).symm
 have e6:i=i0:=by
  rw[gdR hi,<-e0.1]at e5;exact(getElem_inj ((qFB a5).nodup)).1 e5
 rw[<-e1,hz,e3,e6];unfold wtZ;rw[e0.2]
section
variable {tl:List TbV} {k:Nat} {bs:LL} {ps:LI} {T:List TbV} {r:Nat} {hd hl:LI}
def fp(hm:HmO hl tl bs){i:Nat}{j:Int}(hj:j∈zE hl (E tl) i):∀v∈(U tl j.toNat qA).e,v∈J0 bs i:=by
 obtain⟨q,rfl,h1,h2⟩:=ck.1 hj;obtain⟨q',h3,-,h4⟩:=hm q h1;rw[h2]at h3;have:q'=i:=Oo;subst this;exact h4
def fX(hm:HmO hl tl bs)(p:Nat->Nat)(i:Nat):∀j∈hdT (zE hl (E tl)) p i,∀v∈(U tl j.toNat qA).e,v∈hdT (J0 bs) p i:=by
 induction i using Nat.strongRecOn with
 |_ i ih=>
  intro j hj v hv;rw[kM i]at hj ⊢;rcases cF.1 hj with h|h;exact dW _ (fp hm h v hv);have⟨c,hc,h⟩:=mem_flatMap.1 h;exact dX _ (mem_flatMap.2 ⟨c,hc,ih c (ui.1 hc).1 j h v hv⟩)
def Trr.bk(h:Trr tl k bs ps T)(p:Nat->Nat)(i:Nat):∀v∈hdT (J0 bs) p i,0<=v/\v<(k:Int):=qEg h.inb i
def Trr.ok'(h:Trr tl k bs ps T)(p:Nat->Nat)(i:Nat):∀v∈hdT (oO bs hd) p i,0<=v/\v<(k:Int):=qEg (λc v hv=>h.inb c v (zu hv)) i
def Trr.cM(h:Trr tl k bs ps T){i:Nat}(hi:i<=E bs):ChM (AnJ tl) (J0 bs i) ((kids (pO bs ps) i).map (chT r k tl bs ps hd hl)) (lN bs ps i):=by
 have⟨R,hR,hA⟩:=h.go;have h6:=h.six;refine qIx (b:=J0 bs) (vC h.par) h.rip hA (λc hc=>⟨rfl,λv hv=>?_⟩) (λc v hv=>O1 (h.inb c v hv)) hi;exact(dh (vC h.par) hc).2 (qIy (λc v hv=>zu hv) c hc v hv)
def mK(hm:HmO hl tl bs)(i n:Nat):Dep (J0 bs i) n (lN bs ps i) (wpr r tl (zE hl (E tl) i)) (gK r tl bs ps hl i):=
 ⟨λ_ _ he=>du λ_ hj v hv=>he v (fp hm hj v hv),λ_ _ _ _ he=>du λq hq v hv=>he v (fX hm _ _ q hq v hv)⟩
def dc(h:Trr tl k bs ps T)(i:Nat)(s x:LI):Tel r (AnJ tl) (λF=>s=ky (shr (J0 bs i) (J0 bs (pO bs ps i))) F/\x=ky (hdT (oO bs hd) (pO bs ps) i) F) (hdT (J0 bs) (pO bs ps) i) (wpr r tl (hdT (zE hl (E tl)) (pO bs ps) i)) (zcT r k tl bs ps hd hl i s x):=
 gF h (λ_=>decide_eq_true_iff) (λ_ _ he hp=>⟨hp.1.trans (kL λv hv=>he v (h.inb i v (zu hv))),hp.2.trans (kL λv hv=>he v (h.ok' _ _ v hv))⟩) (h.bk _ _)
def fq(i:Nat){q:Nat}(hq:q<E ((kids (pO bs ps) i).map (chT r k tl bs ps hd hl))):U ((kids (pO bs ps) i).map (chT r k tl bs ps hd hl)) q zF=chT r k tl bs ps hd hl (U (kids (pO bs ps) i) q 0):=by
 rw[gdR hq,fB,gdR (by rw[lM]at hq;exact hq)]
def Trr.hx(h:Trr tl k bs ps T)(i:Nat){q:Nat}(hq:q<=E ((kids (pO bs ps) i).map (chT r k tl bs ps hd hl))):∀v∈oO bs hd i++hds ((kids (pO bs ps) i).map (chT r k tl bs ps hd hl)) q,0<=v/\v<(k:Int):=λv hv=>by
 rcases cF.1 hv with hv|hv;exact h.inb i v (zu hv);have⟨j,h1,h2⟩:=(qCo hq).1 hv;rw[fq i Oo]at h2;exact h.ok' _ _ v h2
def fL(h:Trr tl k bs ps T)(i:Nat){q:Nat}(hq:q<=E ((kids (pO bs ps) i).map (chT r k tl bs ps hd hl)))(F0:Int->Int)(x:LI):Fnd r (AnJ tl) (J0 bs i) (oO bs hd i) ((kids (pO bs ps) i).map (chT r k tl bs ps hd hl)) (lN bs ps i) (wpr r tl (zE hl (E tl) i)) (gK r tl bs ps hl i) F0 q x (zfT r k tl bs ps hd hl i q (ky (J0 bs i) F0) x):=by
 have h6:=h.six;have t:=gF (r:=r) (g:=gwF r (wpr r tl (zE hl (E tl) i)) (gK r tl bs ps hl i) q) (iU:=usF (J0 bs i) (lN bs ps i) q) (PF:=λF=>ky (J0 bs i) F0=ky (J0 _ i) F/\x=ky _ F) h (λq=>decide_eq_true_iff) (λF G he hp=>⟨hp.1.trans (kL λv hv=>he v (h.inb i v hv)),hp.2.trans (kL λv hv=>he v (h.hx i hq v hv))⟩) λv hv=>?_
 ·refine t.V (λa=>⟨?_,?_⟩) λ_ _=>rfl;rintro⟨F,h1,⟨h2,h3⟩,h4⟩;exact⟨F,h1,⟨kL λv hv=>(h2 v hv).symm,h3⟩,h4⟩;rintro⟨F,h1,⟨h2,h3⟩,h4⟩;exact⟨F,h1,⟨λv hv=>(qIw h2 hv (O1 (h.inb i v hv))).symm,h3⟩,h4⟩
 rcases dg.1 hv with hv|⟨j,-,hv⟩;exact h.inb i v hv;exact h.bk _ _ v hv
def mO(i:Nat):usF (J0 bs i) (lN bs ps i) (E ((kids (pO bs ps) i).map (chT r k tl bs ps hd hl)))=hdT (J0 bs) (pO bs ps) i:=by
 rw[lM,fm (f:=hdT (J0 bs) (pO bs ps)) (l:=kids (pO bs ps) i) _ (λj hj=>rfl) eA,tL,kM i]
def mP(i:Nat):gwF r (wpr r tl (zE hl (E tl) i)) (gK r tl bs ps hl i) (E ((kids (pO bs ps) i).map (chT r k tl bs ps hd hl)))=wpr r tl (hdT (zE hl (E tl)) (pO bs ps) i):=funext λF=>by
 rw[lM,fo (f:=hdT (zE hl (E tl)) (pO bs ps)) (l:=kids (pO bs ps) i) _ (λj hj=>rfl) eA,tL,kM i]
def gl(i:Nat):(chT r k tl bs ps hd hl i).hd=oO bs hd i++hds ((kids (pO bs ps) i).map (chT r k tl bs ps hd hl)) (E ((kids (pO bs ps) i).map (chT r k tl bs ps hd hl))):=by
 rw[qFn];exact kM i
def lO(i:Nat):E (zE hl (E tl) i)<=E tl:=by
 unfold zE;rw[lM];exact bM (dH _ _) (length_range▸eA)
def gn(hw:r=3->∀t∈tl,∀x∈t.k,-1000000<=x/\x<=1000000)(a3:E tl<=1000){i:Nat}(hi:i<=12)(h3:r=3)(F:Int->Int):-9223372036854775808<=wpr r tl (hdT (zE hl (E tl)) (pO bs ps) i) F/\wpr r tl (hdT (zE hl (E tl)) (pO bs ps) i) F<=9223372036854775807:=by
 have h1:=fO h3 (l:=(hdT (zE hl (E tl)) (pO bs ps) i).map λj=>wor r (wtZ (U tl j.toNat qA) F)) λx hx=>by
  obtain⟨j,-,rfl⟩:=cC.1 hx;unfold wor;rw[fF Oo];unfold wtZ;by_cases e:j.toNat<E tl
  ·rcases dL ((U tl j.toNat qA).x.idxOf ((U tl j.toNat qA).e.map F)) (E (U tl j.toNat qA).k) with e2|e2;exact hw h3 _ (qz e) _ (qz e2);rw[yu e2];decide
  rw[show U tl j.toNat qA=qA from yu Oo];show(-1000000:Int)<=0/\(0:Int)<=1000000;decide
 rw[lM]at h1;have h2:E (hdT (zE hl (E tl)) (pO bs ps) i)<=13000:=bM (qHY (ow:=zE hl (E tl)) (p:=pO bs ps) lO i) (bM (mU a3 (by omega:i+1<=13)) Dd);unfold wpr;omega
end
def qI1{tl:List TbV}{k:Nat}{bs:LL}{ps:LI}{T:List TbV}{r:Nat}{hl:LI}(h:Trr tl k bs ps T)(hm:HmO hl tl bs)(b7:∀t∈tl,qW t)(b8:E tl<=1000)(hw:r=3->∀t∈tl,∀x∈t.k,-1000000<=x/\x<=1000000){hd:LI}:MsH r (jV bs ps T) (orT (E bs:Int) ps++[(E bs:Int)]) hd hl tl (chT r k tl bs ps hd hl) (fdT r k tl bs ps hd hl) wtT:=by
 have hlen:=h.C;have a6:=kz h.par;have a7:∀i,i<E bs->U (orT (E bs:Int) ps++[(E bs:Int)]) i 0=(xO ps (E bs) i:Int):=λi hi=>qEj h.par hi;have c9:=h.six;have c8:=h.few;have kid:∀i,i<=E bs->zg (orT (E bs:Int) ps++[(E bs:Int)]) (chT r k tl bs ps hd hl) i=(kids (pO bs ps) i).map (chT r k tl bs ps hd hl):=λi hi=>qEh λj hj=>a7 j Oo;have vs:∀i,i<=E bs->(U (jV bs ps T) i qA).e=J0 bs i:=λi hi=>(h.at hi).1.e;have a5:∀i,E (J0 bs i)<=6:=λi=>by
  have:=je (b:=upR 6) ((h.asc i).imp λ{a b} h e=>Oo) λy hy=>uw.2 (O1 (h.inb i y hy));rwa[zO]at this
 have c7:∀i,i<=E bs->E (chT r k tl bs ps hd hl i).hd<=1000:=λi hi=>bM (qHY (λi=>bM (dH _ _) (a5 i)) i) Oo;have a8:∀i,∀(s:LI) (ks:LL),ks.Nodup->(∀a∈ks,∃x,(chT r k tl bs ps hd hl i).iQ s a=Q x)->E ks<=500000:=λi s ks h1 h2=>h.fewA (h.ok' (hd:=hd) (pO bs ps) i) h1 λa ha=>by
  have⟨x,hx⟩:=h2 a ha;have⟨y,hy⟩:=map_some hx;obtain⟨c,F,g1,⟨-,g2⟩,-⟩:=(dc h i s a).ex hy;exact⟨F,g1,g2⟩
 have a9:∀i,i<=E bs->∀n,n<=E (U (jV bs ps T) i qA).x->∀s x,∃z,Tel r (AnJ tl) (λF=>(J0 bs i).map F∈(U (jV bs ps T) i qA).x.take n/\s=ky (shr (J0 bs i) (J0 bs (pO bs ps i))) F/\x=ky (hdT (oO bs hd) (pO bs ps) i) F) (hdT (J0 bs) (pO bs ps) i) (wpr r tl (hdT (zE hl (E tl)) (pO bs ps) i)) z/\bl r (J0 bs i) (shr (J0 bs i) (J0 bs (pO bs ps i))) (U (jV bs ps T) i qA).x (fdT r k tl bs ps hd hl i (E ((kids (pO bs ps) i).map (chT r k tl bs ps hd hl)))) n s x=z.map wrap64:=λi hi=>by
  refine gj (h.asc i) (λz hz=>((h.at hi).2 z).1 hz) ((h.at hi).1.sl.nodup) (λv hv=>zu hv) (λv hv=>by rw[kM i];exact dW _ hv) (λv hv=>O1 (h.bk _ _ v hv)) (λF G he=>du λj hj v hv=>he v (fX hm _ _ j hj v hv)) (λh3 F _=>gn hw b8 Oo h3 F) λF0 d0 hr x=>?_;have t:=fL (r:=r) (hd:=hd) (hl:=hl) h i eA F0 x;unfold Fnd at t;rw[mO,mP,<-gl]at t;exact⟨_,t,by rw[QY (h.asc i)];rfl⟩
 refine⟨by rw[hlen,lA,vB,a6];rfl,Oo,λi hi=>?_,λi hi=>?_,λi hi=>?_,λi hi z hz t ht M hM=>?_,λi hi z hz x=>?_,λi hi z hz q hq M hM x=>?_,λi hi s a=>?_,λi hi=>?_,λi hi z hz q hq=>?_,λi hi z hz q hq ks h1 h2=>?_,λi hi=>a8 i,λi hi n hn s ks h1 h2=>?_⟩;all_goals(have a3:i<=E bs:=by rw[hlen]at hi;omega)
 ·by_cases e:i<E bs;exact⟨xO _ _ i,a7 i e,by have:=(vC h.par i e).2;omega,by rw[vs i a3,vs _ (vC h.par i e).2];rfl⟩;obtain rfl:i=E bs:=Oo;refine⟨E bs,?_,Oo,?_⟩;rw[gD,bQ (by rw[vB];omega),vB,a6,iV];rfl;rw[vs _ a3];show shr (U bs (E bs) []) _=shr (U bs (E bs) []) _;rw[yu eA];rfl
 refine⟨(h.at a3).1.tab,λr hr x hx=>?_⟩;obtain⟨f,g1,rfl⟩:=((h.at a3).2 r).1 hr;obtain⟨v,hv,rfl⟩:=cC.1 hx;exact h.val g1 (h.inb i v hv).1 (h.inb i v hv).2;rw[vs i a3,kid i a3];exact gl i;obtain⟨F,g1,rfl⟩:=((h.at a3).2 z).1 hz;rw[fQ]at ht;obtain⟨j,hj,rfl⟩:=cC.1 ht;obtain⟨q,rfl,hq,-⟩:=ck.1 hj;have b1:U tl q qA∈tl:=qz hq;have a4:=fp hm hj;rw[sO]at a4 hM ⊢;rw[vs i a3,QY (h.asc i),Zm a4,mN (b7 _ b1) (g1 _ b1) hM];unfold wtT;rw[fe λv hv=>(dy (F:=F) (a4 v hv) (O1 (h.inb i v (a4 v hv)))).symm]
 ·obtain⟨F0,g1,rfl⟩:=((h.at a3).2 z).1 hz;rw[vs i a3,QY (h.asc i),Zm (l:=shr (J0 bs i) hd) λv hv=>zu hv,fg,fQ,map_map,map_map];have t:=fL (r:=r) (hd:=hd) (hl:=hl) h i eC F0 x;show(zfT r k tl bs ps hd hl i 0 (ky (J0 bs i) F0) x).map wrap64=_;unfold X3;by_cases e:x=ky (shr (J0 bs i) hd) F0
  ·have t2:Fnd r (AnJ tl) (J0 bs i) (oO bs hd i) ((kids (pO bs ps) i).map (chT r k tl bs ps hd hl)) (lN bs ps i) (wpr r tl (zE hl (E tl) i)) (gK r tl bs ps hl i) F0 0 x _:=(SmP.one (a:=ky (J0 bs i) F0) (g:=λa=>wpr r _ _ _)).V (λa=>⟨?_,?_⟩) λ_ _=>rfl;rw[fE e,t.uniq t2];rfl;rintro⟨F,-,⟨h2,-⟩,rfl⟩;exact kL h2;rintro rfl;exact⟨F0,g1,⟨λ_ _=>rfl,by unfold hds;rw[take_zero,flatMap_nil,dU];exact e⟩,rfl⟩
  rw[fF e,t.none_iff.2];rfl;rintro a ⟨F,-,⟨h2,h3⟩,-⟩;unfold hds at h3;simp only[take_zero,flatMap_nil,dU]at h3;exact e (h3.trans (kL λv hv=>h2 v (zu hv)))
 ·rw[kid i a3]at hq hM;obtain⟨F0,g1,rfl⟩:=((h.at a3).2 z).1 hz;have cM:=h.cM (r:=r) (hd:=hd) (hl:=hl) a3;rw[vs i a3,QY (h.asc i)]at hM ⊢;rw[Zm (cM.sh q hq)]at hM;have⟨z,t1,e1⟩:=lK cM (ow:=oO _ _ i) (λv hv=>zu hv) (mK hm i _) hq hM (λy=>⟨_,fL h i (pP hq) _ y,rfl⟩) (λy=>by
   rw[fq i hq];exact⟨_,dc h _ _ y,rfl⟩) x
  rw[e1,<-(fL h i hq F0 x).uniq t1];rfl
 ·rw[vs i a3,kid i a3];have⟨z,t1,e1⟩:=a9 i a3 _ eA s a;show(zcT r k tl bs ps hd hl i s a).map wrap64=bl r (J0 bs i) (shr (J0 bs i) (J0 bs (pO bs ps i))) _ _ _ s a;rw[e1];congr 1;refine(dc h i s a).uniq (t1.V (λc=>⟨?_,?_⟩) λ_ _=>rfl);rintro⟨F,h1,h2,h3⟩;exact⟨F,h1,⟨by rw[tL];exact((h.at a3).2 _).2 ⟨F,h1,rfl⟩,h2⟩,h3⟩;rintro⟨F,h1,⟨-,h2⟩,h3⟩;exact⟨F,h1,h2,h3⟩
 refine⟨⟨bM (dH _ _) (bM (a5 i) Dd),c7 i a3⟩,λy hy=>O1 (h.inb i y (zu hy)),λy hy=>O1 (h.ok' _ i y hy)⟩;rw[kid i a3]at hq ⊢;obtain⟨F,g1,rfl⟩:=((h.at a3).2 z).1 hz;have cM:=h.cM (r:=r) (hd:=hd) (hl:=hl) a3;rw[vs i a3,QY (h.asc i),Zm (cM.sh q hq),fq i hq];have⟨x,hx⟩:=(dc (r:=r) (hl:=hl) h _ (ky (chT r k tl _ _ hd hl _).sh F) (ky (chT r k tl _ _ hd hl (U (kids (pO bs ps) i) q 0)).hd F)).some_of ⟨F,g1,⟨rfl,rfl⟩,rfl⟩;refine⟨ky (chT r k tl bs ps hd hl (U (kids (pO bs ps) i) q 0)).hd F,wrap64 x,?_⟩;show(zcT r k tl bs ps hd hl _ _ _).map wrap64=_;rw[hx];rfl;rw[kid i a3]at hq;obtain⟨F,g1,rfl⟩:=((h.at a3).2 z).1 hz;rw[vs i a3,QY (h.asc i)]at h2;refine h.fewA (h.hx i hq) h1 λa ha=>?_;have⟨x,hx⟩:=h2 a ha;have⟨y,hy⟩:=map_some hx;obtain⟨c,G,g2,⟨-,g3⟩,-⟩:=(fL h i hq F a).ex hy;exact⟨G,g2,g3⟩;rw[kid i a3,vs i a3]at h2;refine h.fewA (h.ok' (hd:=hd) (pO bs ps) i) h1 λa ha=>?_;have⟨x,hx⟩:=h2 a ha;have⟨z,t1,e1⟩:=a9 i a3 n hn s a;have hx:bl r (J0 bs i) (shr (J0 bs i) (J0 bs (pO bs ps i))) (U (jV bs ps T) i qA).x (fdT r k tl bs ps hd hl i (E ((kids (pO bs ps) i).map (chT r k tl bs ps hd hl)))) n s a=Q x:=hx;rw[e1]at hx;have⟨y,hy⟩:=map_some hx;obtain⟨c,F,g1,⟨-,-,g2⟩,-⟩:=t1.ex hy;exact⟨F,g1,g2⟩
def SmP.map{α β:Type}{r:Nat}{p:α->Prop}{g:α->Int}{z:Option Int}(h:SmP r p g z)(f:α->β)(k:β->Int)(hi:∀a a',p a->p a'->f a=f a'->a=a')(hk:∀a,p a->k (f a)=g a):SmP r (λc=>∃a,p a/\c=f a) k z:=by
 obtain⟨l,a1,a2,rfl⟩:=h;refine⟨l.map f,pairwise_map.2 (a1.imp_of_mem λ{a b} ha hb hne e=>hne (hi a b ((a2 a).1 ha) ((a2 b).1 hb) e)),λc=>?_,?_⟩
 ·rw[cC];constructor;rintro⟨a,ha,rfl⟩;exact⟨a,(a2 a).1 ha,rfl⟩;rintro⟨a,ha,rfl⟩;exact⟨a,(a2 a).2 ha,rfl⟩
 rw[map_map];congr 1;exact cV λa ha=>(hk a ((a2 a).1 ha)).symm
section
variable {n:Nat} {p:Nat->Nat} {hl:LI} {m:Nat}
def gV(hp:∀i,i<n->i<p i/\p i<=n)(i:Nat):i<=n->(hdT (zE hl m) p i).Nodup:=by
 induction i using Nat.strongRecOn with
 |_ i ih=>
  intro hi;have un:∀{c:Nat},c∈kids p i->∀{j:Int},j∈hdT (zE hl m) p c->∃d,Sbt p n c d/\j∈zE hl m d:=λ{c} hc {j} hj=>qIy (λ_ _ h=>h) c (by have:=(ui.1 hc).1;omega) j hj;have same:∀{d e:Nat} {j:Int},j∈zE hl m d->j∈zE hl m e->d=e:=λ{d e j} h1 h2=>by
   obtain⟨q,rfl,-,h3⟩:=ck.1 h1;obtain⟨q',h4,-,h5⟩:=ck.1 h2;have:q=q':=Oo;subst this;omega
  rw[kM i];refine nodup_append.2 ⟨?_,?_,λx hx y hy e=>?_⟩;unfold zE;exact pairwise_map.2 ((nodup_range.filter _).imp λ{a b} h e=>h (Int.ofNat.inj e));refine pairwise_flatMap.2 ⟨λc hc=>ih c (ui.1 hc).1 (by have:=(ui.1 hc).1;omega),(nodup_range.filter _).imp_of_mem λ{c d} hc hd hne x hx y hy e=>?_⟩;have⟨u,h1,h2⟩:=un hc hx;have⟨v,h3,h4⟩:=un hd hy;subst e;have e2:=same h2 h4;subst e2;have k1:=ui.1 hc;have k2:=ui.1 hd;exact hne (h1.one hp h3 Oo Oo Oo);subst e;have⟨c,hc,hy⟩:=mem_flatMap.1 hy;have⟨d,h1,h2⟩:=un hc hy;have e2:=same hx h2;have k1:=(ui.1 hc).1;have:=h1.le hp;omega
end
section
variable {tl:List TbV} {k:Nat} {bs:LL} {ps:LI} {T:List TbV} {r:Nat} {hd hl:LI}
def gWq(h:Trr tl k bs ps T)(hm:HmO hl tl bs):(hdT (zE hl (E tl)) (pO bs ps) (E bs)).Perm ((range (E tl)).map Int.ofNat):=by
 refine gG (gV (vC h.par) _ eA) (pairwise_map.2 (nodup_range.imp λ{a b} h e=>h (Int.ofNat.inj e))) λx=>?_;rw[cC];constructor
 ·intro hx;have⟨q,h1,h2⟩:=qEg (P:=λv=>∃q:Nat,v=q/\q<E tl) (λc v hv=>by
   obtain⟨q,h1,h2,-⟩:=ck.1 hv;exact⟨q,h1,h2⟩) _ x hx
  exact⟨q,cJ.2 h2,h1.symm⟩
 rintro⟨q,hq,rfl⟩;have hq:=cJ.1 hq;obtain⟨d,h1,h2,-⟩:=hm q hq;exact qHW (vC h.par) h2 (ck.2 ⟨q,rfl,hq,h1⟩)
def gqA(r:Nat)(tl:List TbV)(q:LI):Int:=prZ r ((wgL tl q).map (wor r))
def gX{β:Type}(f:TbV->β):((range (E tl)).map Int.ofNat).map (λj=>f (U tl j.toNat qA))=tl.map f:=by
 refine ext_getElem Ss λi h1 h2=>?_;have hi:i<E tl:=by simpa using h2
 simp only[fB,getElem_range];rw[show(Int.ofNat i).toNat=i from rfl,gdR hi]
def gY(h:Trr tl k bs ps T)(hm:HmO hl tl bs)(q:LI):wpr r tl (hdT (zE hl (E tl)) (pO bs ps) (E bs)) (fr (ky (hdT (J0 bs) (pO bs ps) (E bs)) (fr q)))=gqA r tl q:=by
 have h6:=h.six;rw[du (G:=fr q) λj hj v hv=>by
  have hv:=fX hm _ _ j hj v hv;exact dy hv (O1 (h.bk _ _ v hv))]
 unfold wpr gqA;rw[lY ((gWq h hm).map _),gX λt=>wor r (wtZ t (fr q))];unfold wgL;rw[map_map];rfl
def fl(hw:r=3->∀t∈tl,∀x∈t.k,-1000000<=x/\x<=1000000)(a3:E tl<=1000)(h3:r=3)(q:LI):-9223372036854775808<=gqA r tl q/\gqA r tl q<=9223372036854775807:=by
 have h1:=fO h3 (l:=(wgL tl q).map (wor r)) λx hx=>by
  obtain⟨y,hy,rfl⟩:=cC.1 hx;unfold wor;rw[fF Oo];unfold wgL at hy;obtain⟨t,ht,rfl⟩:=cC.1 hy;unfold wgI;rcases dL (t.x.idxOf (qM t.e q)) (E t.k) with e2|e2;exact hw h3 _ ht _ (qz e2);rw[yu e2];decide
 unfold wgL at h1;rw[lM,lM]at h1;unfold gqA wgL;omega
def gZ(hw:r=3->∀t∈tl,∀x∈t.k,-1000000<=x/\x<=1000000)(a3:E tl<=1000)(A:LL)(row:LI):∀i,i<=E A->gvN r tl hd A i row=(smR r (((A.take i).filter λq=>oD (qM hd q=row)).map (gqA r tl))).map wrap64
 |0,_=>rfl
 |i+1,hi=>by
  have ih:=gZ hw a3 A row i Oo;have a4:i<E A:=Oo;show X3 (gvN r tl hd A i) (qM hd (U A i [])) (bu r (gvN r tl hd A i) (qM hd (U A i [])) (K5 r (wgL tl (U A i [])))) row=_;rw[tA,gE a4,<-gdR (d:=[]) a4,iK,cZ,mA,fJ];unfold X3;by_cases e:row=qM hd (U A i [])
  ·rw[fE e,filter_cons_of_pos (by exact fD e.symm),filter_nil,<-e];unfold bu;rw[ih,fg];have s1:Sml r (smR r (((A.take i).filter λq=>oD (qM hd q=row)).map (gqA r tl))):=λh3 x hx=>by
    obtain⟨q,-,rfl⟩:=cC.1 (fY h3 hx);exact fl hw a3 h3 q
   have s2:Sml r (Q (gqA r tl (U A i []))):=λh3 x hx=>by
    cases hx
    exact fl hw a3 h3 _
   cases hz:smR r (((A.take i).filter λq=>oD (qM hd q=row)).map (gqA r tl))with
   |none=>rfl
   |some α=>
    rw[hz]at s1;show Q (plu r (wrap64 α) (wrap64 (gqA r tl (U A i []))))=Q (wrap64 (PP r α (gqA r tl (U A i []))));rw[fx s1 s2]
  rw[fF e,filter_cons_of_neg (by simpa using λe2=>e e2.symm),filter_nil,ih];show _=Option.map wrap64 (ju r _ wH);rw[fh]
def Y8{X:LI}{F:Int->Int}(h:∀v∈hd,v∈X/\0<=v/\v<6):qM hd (ky X F)=hd.map F:=by
 unfold qM;refine cV λv hv=>?_;have⟨h1,h2,h3⟩:=h v hv;rw[Y6 Oo,show((v.toNat:Nat):Int)=v by omega,fE h1]
def Trr.top(h:Trr tl k bs ps T)(hh:∀y∈hd,0<=y/\y<(k:Int)){v:Int}:v∈hdT (oO bs hd) (pO bs ps) (E bs)↔v∈hd:=by
 constructor;exact qEg (ow:=oO _ _) (P:=λv=>v∈hd) (λc v hv=>aN (cK.1 hv).2) _ v;intro hv;have⟨i,hi,hb⟩:=h.all v (hh v hv).1 (hh v hv).2;exact qHW (vC h.par) Oo (cK.2 ⟨hb,fD hv⟩)
def qHZ(h:0<=zK tl (upR k))(hb:∀y∈hd,0<=y/\y<(k:Int))(r:LI):r∈(qO tl (upR k)).map (qM hd)↔∃f,AnJ tl f/\hd.map f=r:=by
 have hF:=jz (xL h).1 (uO k);rw[cC,(xL h).2];constructor;rintro⟨p,hp,rfl⟩;have e:=jy (uO k) (jx p hp);refine⟨vlF (upR k) p,(vz hF _).1 (by rw[e];exact hp),cV λy hy=>?_⟩;have h1:=hb y hy;have h2:=jL (upR k) p y.toNat (uO _) (by rw[zO];omega);rw[qBO Oo,show((y.toNat:Nat):Int)=y by omega]at h2;exact h2;rintro⟨f,hf,rfl⟩;exact⟨(upR k).map f,(vz hF f).2 hf,cV λy hy=>qEf (hb y hy).1 (hb y hy).2⟩
abbrev z6':LI:=[0,0,0,0,0,0]
def gC(bs:LL)(j:Nat)(F:Int->Int):z6'=ky (shr (J0 bs (E bs)) (J0 bs j)) F:=by
 unfold J0;rw[yu (nR (E bs))];rfl
def ll(h:Trr tl k bs ps T)(hm:HmO hl tl bs)(a3:E tl<=1000)(hw:r=3->∀t∈tl,∀x∈t.k,-1000000<=x/\x<=1000000)(hh:∀y∈hd,0<=y/\y<(k:Int))(G:Int->Int):(chT r k tl bs ps hd hl (E bs)).iQ z6' (ky (hdT (oO bs hd) (pO bs ps) (E bs)) G)=gvN r tl hd (qO tl (upR k)) (E (qO tl (upR k))) (hd.map G):=by
 have h6:=h.six;rw[gZ hw a3 _ _ _ eA,tL];show(zcT r k tl bs ps hd hl (E bs) z6' _).map wrap64=_;congr 1;have t2:SmP r (λq=>q∈qO tl (upR k)/\qM hd q=hd.map G) (gqA r tl) (smR r (((qO tl (upR k)).filter λq=>oD (qM hd q=hd.map G)).map (gqA r tl))):=⟨_,((row_one h.vis (Vz k Oo)).sl.nodup).filter _,λq=>by rw[cK,dE],rfl⟩;have t3:=t2.map _ (λc=>wpr r _ _ _) (λa c ha hc e=>by
  have ea:=gJ (h.lenA ha.1);have ec:=gJ (h.lenA hc.1);rw[<-ea,<-ec];refine cV λv hv=>?_;have⟨v0,vk⟩:=uw.1 hv;have⟨i,hi,hb⟩:=h.all v v0 vk;exact qIw e (qHW (vC h.par) Oo hb) Oo) (λq _=>gY h hm q)
 refine (dc (r:=r) (hd:=hd) (hl:=hl) h (E bs) z6' (ky (hdT (oO bs hd) (pO bs ps) (E bs)) G)).uniq (t3.V (λc=>⟨?_,?_⟩) λ_ _=>rfl);rintro⟨F,h1,⟨-,h2⟩,rfl⟩;refine⟨(upR k).map F,⟨h.M h1,?_⟩,kL λv hv=>(gI (h.bk _ _ v hv)).symm⟩;refine cV λy hy=>?_;have e1:U ((upR k).map F) y.toNat 0=F y:=qEf (hh y hy).1 (hh y hy).2;rw[e1];exact(qIw h2 ((h.top hh).2 hy) (O1 (hh y hy))).symm;rintro⟨q,⟨h1,h2⟩,rfl⟩;refine⟨fr q,h.fr h1,⟨gC _ _ _,kL λv hv=>?_⟩,rfl⟩;exact(map_inj_left.1 h2 v ((h.top hh).1 hv)).symm
def qHa(h:Trr tl k bs ps T)(hm:HmO hl tl bs)(a4:E tl<=1000)(hw:r=3->∀t∈tl,∀x∈t.k,-1000000<=x/\x<=1000000)(hh:∀y∈hd,0<=y/\y<(k:Int)){es:List (LI×Int)}{ss:LL}(hp:es.Perm (ss.map (prM hd ((chT r k tl bs ps hd hl (E bs)).iQ z6'))))(hs:es.Pairwise λa b=>¬cmpL b.1 a.1<0)(hn:ss.Nodup)(hk:∀a,a∈ss↔∃x,(chT r k tl bs ps hd hl (E bs)).iQ z6' a=Q x):es.map wM=srt ((qO tl (upR k)).map (qM hd))/\es.map Prod.snd=(srt ((qO tl (upR k)).map (qM hd))).map λq=>(gvN r tl hd (qO tl (upR k)) (E (qO tl (upR k))) q).getD 0:=by
 have h6:=h.six;have ht:∀v∈hd,v∈hdT (oO bs hd) (pO bs ps) (E bs)/\0<=v/\v<6:=λv hv=>⟨(h.top hh).2 hv,O1 (hh v hv)⟩;have hq:∀a,a∈ss↔∃F,AnJ tl F/\a=ky (hdT (oO bs hd) (pO bs ps) (E bs)) F:=λa=>(hk a).trans ⟨λ⟨x,hx⟩=>by
  have⟨y,hy⟩:=map_some hx;obtain⟨c,F,g1,⟨-,g2⟩,-⟩:=(dc h _ _ a).ex hy;exact⟨F,g1,g2⟩,λ⟨F,h1,h3⟩=>by
  have⟨y,hy⟩:=(dc (r:=r) (hl:=hl) h _ _ a).some_of ⟨F,h1,⟨gC _ _ _,h3⟩,rfl⟩;exact⟨wrap64 y,by show(zcT r k tl bs ps hd hl (E bs) z6' a).map wrap64=_;rw[hy];rfl⟩⟩
 have a3:(es.map wM).Perm (ss.map (qM hd)):=by
  have:=hp.map wM;rwa[map_map]at this
 have a5:(es.map wM).Nodup:=by
  rw[a3.nodup_iff];refine pairwise_map.2 (List.Pairwise.imp_of_mem (λ{a b} ha hb hne e=>hne ?_) hn);obtain⟨F,h1,rfl⟩:=(hq a).1 ha;obtain⟨G,h2,rfl⟩:=(hq b).1 hb;rw[Y8 ht,Y8 ht]at e;exact kL λv hv=>map_inj_left.1 e v ((h.top hh).1 hv)
 have a6:(es.map wM).Pairwise λa b=>¬cmpL b a<0:=pairwise_map.2 hs;have a7:SL (es.map wM):=(a6.and a5).imp λ{a b} ⟨h1,h2⟩=>by
  have e:=yU a b;rcases rA (cmpL a b) 0 with h3|h3|h3;exact h3;exact absurd (cmpL_eq h3) h2;omega
 have e1:es.map wM=srt ((qO tl (upR k)).map (qM hd)):=by
  refine SL.uniq a7 (zQ _ _ eA).1 λq=>?_;rw[(zQ _ _ eA).2,qHZ h.vis hh,a3.mem_iff,cC];constructor;rintro⟨a,ha,rfl⟩;obtain⟨F,h1,rfl⟩:=(hq a).1 ha;exact⟨F,h1,(Y8 ht).symm⟩;rintro⟨F,h1,rfl⟩;exact⟨_,(hq _).2 ⟨F,h1,rfl⟩,Y8 ht⟩
 refine⟨e1,?_⟩;rw[<-e1,map_map];refine cV λe he=>?_;obtain⟨a,ha,rfl⟩:=cC.1 ((hp.mem_iff).1 he);obtain⟨F,h1,rfl⟩:=(hq a).1 ha;show((chT r k tl bs ps hd hl (E bs)).iQ z6' _).getD 0=(gvN r tl hd _ _ (qM hd _)).getD 0;rw[Y8 ht,ll h hm a4 hw hh F]
end
def Y9{v:Int}{bs:LL}{ps:LI}:∀{n:Nat},0<qu v bs ps n->∃i,i<n/\v∈U bs i []
 |0,h=>by cases h
 |n+1,h=>by
  by_cases e:xI v bs ps n=true;refine⟨n,Oo,?_⟩;unfold xI at e;rw[bV]at e;exact aN e.1;have h':0<qu v bs ps n+if xI v bs ps n then 1 else 0:=h
  rw[fF e]at h';have⟨i,hi,hv⟩:=Y9 (n:=n) h';exact⟨i,Oo,hv⟩
def qFo{k:Int}{tl:List TbV}{bs:LL}{ps hs:LI}{ws:List (Int×Int)}{x:Int×Int}(h:qc k tl bs ps hs ws x)(hv:∀i,i<E bs->0<=bgV tl (U bs i []))(hj:0<=zK tl (upR k.toNat))(a3:∀t∈tl,Wf t.x):Trr tl k.toNat bs ps (ZD tl bs):=by
 have⟨h0,h1,h2,h3,h4⟩:=zR h;have⟨m1,m2,m3,m4⟩:=Z6 h;obtain⟨k0,k6,-⟩:=xA h1;have a4:∀i,∀v∈U bs i [],0<=v/\v<((k.toNat:Nat):Int):=λi v hv=>by
  by_cases e:i<E bs;have h7:=(h4 i e).1;unfold xU at h7;rw[bV,bV]at h7;have:=Qf h7.1.2 h7.2 hv;omega;rw[yu Oo]at hv;cases hv
 refine⟨hj,Oo,a3,h2,qID h,a4,λv v0 vk=>?_,m2,qJW m1 m2 m3,⟨_,qFC h hv,VX h hv⟩⟩;unfold uK at m3;have h5:=aN (aT.1 m3 v.toNat (cJ.2 Oo));rw[show((v.toNat:Nat):Int)=v by omega]at h5;exact Y9 (Nat.lt_of_lt_of_eq Nat.zero_lt_one h5.symm)
def qHb{k:Nat}{tl:List TbV}(hj:0<=zK tl (upR k))(h6:k<=6)(hl:E tl<=8)(a3:∀t∈tl,qW t)(a5:∀t∈tl,Wf t.x):Trr tl k [upR k] [-1] ([⟨upR k,qO tl (upR k),zJ (E (qO tl (upR k)))⟩]++[ZA tl]):=by
 have hF:=jz (xL hj).1 (uO k);have e1:∀i,U ([upR k]:LL) (i+1) []=[]:=λi=>rfl;refine⟨hj,h6,a5,Ss,λi=>?_,λi v hv=>?_,λv v0 vk=>⟨0,Ss,uw.2 ⟨v0,vk⟩⟩,rfl,λj hj l h1 h2 v h3 h4=>?_,⟨λi=>if i=0 then qO tl (upR k) else yt tl,⟨rfl,λi hi=>?_,λi hi r hr=>?_,λf hf i hi=>?_⟩,λF=>?_⟩⟩
 ·match i with
  |0=>exact uO k
  |i+1=>exact iO
 ·match i with
  |0=>exact uw.1 hv
  |i+1=>cases hv
 obtain⟨l',rfl⟩:∃l',l=l'+1:=⟨l-1,Oo⟩;rw[e1]at h4;cases h4
 ·match i,hi with
  |0,_=>exact row_one hj (Vz k Oo)
  |1,_=>exact row_one (qBM a3 hl) rfl
  |i+2,hi=>simp at hi
 ·match i,hi with
  |0,_=>exact hr
  |1,_=>exact hr
  |i+2,hi=>simp at hi
 ·match i,hi with
  |0,_=>
   show(upR k).map f∈qO tl (upR k);rw[(xL hj).2];exact(vz hF f).2 hf
  |1,_=>exact(ZB a3 hl f).2 λt ht _=>hf t ht
  |i+2,hi=>simp at hi
 constructor;intro h;have h0:(upR k).map F∈qO tl (upR k):=h 0 Ss;rw[(xL hj).2]at h0;exact(vz hF F).1 h0;intro h l a4;match l,a4 with
 |0,_=>
  show(upR k).map F∈qO tl (upR k);rw[(xL hj).2];exact(vz hF F).2 h
 |1,_=>exact(ZB a3 hl F).2 λt ht _=>h t ht
 |l+2,a4=>simp at a4
def lL{tl:List TbV}{bs:LL}{hs:LI}(h:yp hs (tl.map TbV.e) bs):HmO (orT (E bs:Int) hs) tl bs:=λj hj=>by
 unfold yp at h;rw[bV,dE,lM]at h;have h1:=aT.1 h.2 j (cJ.2 hj);have e1:U (tl.map TbV.e) j []=(U tl j qA).e:=by rw[gdR (by rw[lM];exact hj),fB,gdR hj]
 have e2:U (orT (E bs:Int) hs) j 0=if U hs j 0<0 then (E bs:Int) else U hs j 0:=by
  unfold orT;rw[gdR (by rw[lM];omega),fB,<-gdR (d:=0) Oo]
 rw[e1]at h1;unfold zm at h1;split at h1
 ·rename_i h0;have h2:=aN h1;refine⟨E bs,by rw[e2,fE Oo],eA,λv hv=>?_⟩;rw[dV.1 h0]at hv;cases hv
 rw[bV,bV,dE,dE]at h1;refine⟨(U hs j 0).toNat,by rw[e2,fF Oo];omega,Oo,λv hv=>aN (aT.1 h1.2 v hv)⟩
def lq{tl:List TbV}{k n:Nat}(hf:qDx tl (upR k)):HmO (orT (n:Int) (wJ (E tl) 0)) tl [upR k]:=λj hj=>by
 refine⟨0,?_,Ss,λv hv=>(hf.e _ (qz hj)).2 v hv⟩;unfold orT;rw[gdR (by rw[lM,dT];exact hj),fB,getElem_replicate];rfl
open Meet
structure TreX(w0 W:oX)(T:List TbV)(pr hl:LI)(x0 x1 x2:oV):Prop where
 tb:∃rl,TBs W (J w0.1) x0 rl/\rl.map tvB=T
 pa:oW W (J w0.1) 3 1 x1 (E pr) (pr.map ai)
 ho:oW W (J w0.1) 3 1 x2 (E hl) (hl.map ai)
 O:Bl w0 W
def TreX.zz{w0 W W':oX}{T:List TbV}{pr hl:LI}{x0 x1 x2:oV}(h:TreX w0 W T pr hl x0 x1 x2)(hb:Bl W W'):TreX w0 W' T pr hl x0 x1 x2:=by
 have⟨rl,h1,h2⟩:=h.tb;exact⟨⟨rl,h1.zz hb,h2⟩,qB h.pa hb,qB h.ho hb,bt h.O hb⟩
def TreE.set{w0 w W:oX}{vb:oV}{rl:List TbR}{tl:List TbV}{ps hs:LI}{x0 x1 x2:oV}(h:TreE w0 w vb rl tl ps hs W x0 x1 x2){r:Nat}(hX:∃cur,W.1[r]?=Q (eZ cur 97 (0,0)))(hr:J w0.1<=r)(y0 y1 y2:oV):
 TreX w0 (sW (sW (sW W (az r 0) y0) (az r 1) y1) (az r 2) y2) (rl.map tvB++[ZA tl]) (orT (E rl) ps++[(E rl:Int)]) (orT (E rl) hs) x0 x1 x2:=by
 have a3:=qU (o:=0) (v:=y0) hX;have a4:=qU (o:=1) (v:=y1) a3;have⟨rl',t1,t2⟩:=h.tb;refine⟨⟨rl',((t1.setX hX Dd Dd Dd).setX a3 Dd Dd Dd).setX a4 Dd Dd Dd,t2⟩,?_,?_,((h.O.setCell hr _).setCell hr _).setCell hr _⟩;have:=qI (off:=2) (y:=y2) (qI (qI h.pa hX Dd) a3 Dd) a4 Dd;rw[lA,vB];exact this;have:=qI (off:=2) (y:=y2) (qI (qI h.ho hX Dd) a3 Dd) a4 Dd;rw[vB];exact this
def At.is1{W:oX}{p:Nat}{x:Int}(h:At W p (eZ #[ai x] 3 (0,0))):IS W (sZ p 0 1 1) [x]:=⟨_,1,rfl,.inr ⟨p,0,rfl,λj hj=>by
 obtain rfl:j=0:=by simp at hj;exact hj
 rw[eI h];rfl⟩⟩
def At.isN{W:oX}{p n:Nat}(h:At W p (eZ (madeCells (ai 0).cells (n*1)) 3 (0,0))):IS W (sZ p 0 n n) (wJ n 0):=by
 refine⟨_,n,by rw[dT],?_⟩;refine .inr ⟨p,0,rfl,λj hj=>?_⟩;rw[dT]at hj;rw[eI h,gdR (dT▸hj),getElem_replicate];unfold madeCells;simp[Value.cells,hj,Nat.mod_one]
def At.row3{W:oX}{g B:Nat}{t:TbR}(h:At W g (eZ #[t.v0,t.v1,t.v2] 58 (0,0)))(hB:B<=g):oW W B 58 3 (sZ g 0 1 1) 1 [t.v0,t.v1,t.v2]:=
 ⟨rfl,.inr ⟨g,1,_,rfl,hB,h,eA,by unfold maxLen;decide,rfl,rfl⟩⟩
def At.fr{W X:oX}{vb:oV}{p:Nat}{o:Obj}(h:At W p o)(hF:FrB W vb X)(hn:vb.ownBlock≠Q p):At X p o:=(hF p h.lt hn).trans h
def qAL(w0 w:oX)(k:Nat)(vt vj:oV)(tl:List TbV)(us:List oV)(rows:LL)(hw:Bl w0 w)(h:ITs w0 vt tl)(hl:E tl<=7)(d5:∀t∈tl,qW t)(hk:k<=6)(hj:RQ w (J w0.1) vj us rows)(hn:E rows<=10000):
 Cl 69 #[ai (k:Int),vt,vj] w λe w'=>∃(q0:Option Addr) (m0 z0:Nat) (q1:Option Addr) (m1 z1:Nat) (q2:Option Addr) (m2 z2:Nat),e=rE (aQ #[Z q0 m0 z0,Z q1 m1 z1,Z q2 m2 z2])/\TreX w0 w' ([⟨upR k,rows,zJ (E rows)⟩]++[ZA tl]) (orT 1 [-1]++[1]) (orT 1 (wJ (E tl) 0)) (Z q0 m0 z0) (Z q1 m1 z1) (Z q2 m2 z2)/\Bl w w':=by
 obtain⟨i0,hi,e4,d6,e5⟩:=aX Tryz.infoInt;have g9:Tryz.prog.follows .mixedOrders:=Kl;obtain⟨aj,kj,rfl⟩:=hj.sl;obtain⟨e6,e7,rfl,-⟩:=id h;have HJ:=ay hj;have HH:=ay h;have HL:=ay hl;have e8:=ay d5;have a5:=ay hw;have h6:=ay hn;have KV:Hh (∀W,Cl 66 #[ai (k:Int)] W λe w'=>∃a c,e=rE (Z a k c)/\oW w' (J W.1) 3 1 (Z a k c) (E (upR k)) ((upR k).map ai)/\Bl W w'):=ay λW=>(uN W k Oo).mono (by
  rintro e w' ⟨v,rfl,ho,hb⟩;obtain⟨a,c,e0⟩:=qG ho;subst e0;rw[zO]at ho ⊢;exact⟨a,c,rfl,ho,hb⟩)
 have KP:Hh (∀W a c,IS W (Z a k c) (upR k)->Cl 89 #[Z a k c,Z aj (E rows) kj] W λe w'=>∃p0 c0 p2 c2,e=rE (aQ #[Z p0 k c0,Z aj (E rows) kj,Z p2 (E rows) c2])/\oW w' (J W.1) 3 1 (Z p0 k c0) (E (upR k)) ((upR k).map ai)/\oW w' (J W.1) 3 1 (Z p2 (E rows) c2) (E rows) (wJ (E rows) (ai 1))/\Ap' (Z p0 k c0) (Z p2 (E rows) c2)/\Bl W w'):=ay λW a c hi=>(yR W _ _ _ _ hi ⟨aj,kj,rfl⟩ (by rw[zO];omega) Oo).mono (by
  rintro e w' ⟨x0,x2,rfl,h1,h2,h3,h4⟩;obtain⟨p0,c0,e0⟩:=qG h1;obtain⟨p2,c2,e2⟩:=qG h2;subst e0 e2;rw[zO]at h1 h3 ⊢;exact⟨p0,c0,p2,c2,rfl,h1,h2,h3,h4⟩)
 have d7:Hh ((zJ (E rows)).map ai=wJ (E rows) (ai 1)/\E (zJ (E rows))=E rows):=ay (by unfold zJ;simp);obtain⟨W1,a7⟩:=Ex (S w (eZ #[sn,sn,sn] 97));have e9:Hh (Bl w W1):=ay (by rw[a7];exact(bJ _ _).alloc (nR _) _);have d8:Hh (Bx3 97 W1 (J w.1) sn sn sn):=ay (by rw[a7];exact Bx3.zw _ _ _ _ _);clear h hl d5 hw hj hn;generalize hnr:E rows=nr at *;generalize c8:E tl=nt at *;have f7:=ay c8;clear hnr c8;go_enter func69,ntmps69;go_upto_region 1 with fail;rw[<-a7];clear a7;go_upto_region 2 with (first|(go_at_call 66;apply (KV.o W1).mono;rintro e w2 ⟨a2,h7,rfl,c9,a8⟩)|(go_at_call 89;apply (KP.o w2 _ _ (qN (by rw[zO]at c9 ⊢;exact c9))).mono;rintro e w3 ⟨p0,c0,p2,c2,rfl,h1,h2,h3,d0⟩)|fail);have a9:Bl w3 (S w3 (eZ #[Z p0 k c0,Z aj nr kj,Z p2 nr c2] 58)):=aK;have d9:=TX.zw w3 (Z p0 k c0) (Z aj nr kj) (Z p2 nr c2);have f8:Hh (J (S w3 (eZ #[Z p0 k c0,Z aj nr kj,Z p2 nr c2] 58)).1=J w3.1+1):=ay (aM _ _);generalize S w3 (eZ #[Z p0 k c0,Z aj nr kj,Z p2 nr c2] 58)=W4 at *;have d1:Hh (Bl w2 W4):=ay (bt d0 a9);have d2:Hh (Bl w w2):=ay (bt e9 a8);have d3:=ay (d8.o.zz (bt a8 d1));have a3:=ay d9;have f9:J w0.1<=J w.1:=a5.o.size;have h8:J w.1<J w3.1:=by have:=d8.o.lt;have:=a8.size;have:=d0.size;omega
 have c7:Hh (TWr W4 (J w0.1) ⟨Z p0 k c0,Z aj nr kj,Z p2 nr c2,us,upR k,rows,zJ nr⟩):=ay (by
  have s2:=d2.o.size;have j4:=HJ.o.zz (bt d2 d1);refine⟨qE (qB h1 a9) Oo,j4,?_,h3,λi hi g e1 e2=>?_,λi hi g e1 e2=>?_⟩;show oW W4 (J w0.1) 3 1 (Z p2 nr c2) (E (zJ nr)) ((zJ nr).map ai);rw[d7.o.1,d7.o.2];exact qE (qB h2 a9) Oo;have:=((HJ.o.l i hi).lt g e1).2;have:=(h1.lt g e2).1;omega;have:=((HJ.o.l i hi).lt g e1).2;have:=(h2.lt g e2).1;omega)
 have KT:Hh (∀(X:oX) (gb gp gh:Nat),Bl W4 X->At X gb (eZ #[Z p0 k c0,Z aj nr kj,Z p2 nr c2] 58 (0,0))->At X gp (eZ #[ai (-1)] 3 (0,0))->At X gh (eZ (madeCells (ai 0).cells (nt*1)) 3 (0,0))->J W4.1<=gb->Cl 70 #[sZ gb 0 1 1,Z e6 nt e7,aQ #[sn,sZ gp 0 1 1,sZ gh 0 nt nt,sn,ai 0,ai 0]] X λe w'=>∃(q0:Option Addr) (m0 z0:Nat) (q1:Option Addr) (m1 z1:Nat) (q2:Option Addr) (m2 z2:Nat),e=rE (aQ #[Z q0 m0 z0,Z q1 m1 z1,Z q2 m2 z2])/\(∀y0 y1 y2,TreX w0 (sW (sW (sW w' (az (J w.1) 0) y0) (az (J w.1) 1) y1) (az (J w.1) 2) y2) ([⟨upR k,rows,zJ nr⟩]++[ZA tl]) (orT 1 [-1]++[1]) (orT 1 (wJ nt 0)) (Z q0 m0 z0) (Z q1 m1 z1) (Z q2 m2 z2)/\Bl w (sW (sW (sW w' (az (J w.1) 0) y0) (az (J w.1) 1) y1) (az (J w.1) 2) y2))/\TX w' (J w3.1) (Z p0 k c0) (Z aj nr kj) (Z p2 nr c2)/\Bx3 97 w' (J w.1) sn sn sn):=ay λX gb gp gh hX a6 b1 b7 i3=>by
  have g4:(sZ gb 0 1 1).ownBlock≠Q gp:=λe=>by
   obtain rfl:gb=gp:=eU e;unfold At at a6 b1;rw[a6]at b1;simp at b1
  have g5:(sZ gb 0 1 1).ownBlock≠Q gh:=λe=>by
   obtain rfl:gb=gh:=eU e;unfold At at a6 b7;rw[a6]at b7;simp at b7
  have d4:Bl w W4:=bt d2 d1;have hT:TBs X (J w0.1) (sZ gb 0 1 1) [⟨Z p0 k c0,Z aj nr kj,Z p2 nr c2,us,upR k,rows,zJ nr⟩]:=⟨At.row3 a6 (O1 d4.size),λt ht=>by rw[cI.1 ht];exact TW.zz c7 hX,pairwise_singleton _ _⟩;have K:=ZJ X 0 0 0 0 (bt a5 (bt d4 hX)) HH (by rw[f7.o];exact HL) e8 ⟨wH,0,rfl⟩ ⟨wH,0,rfl⟩ (λW hF=>(b1.fr hF g4).is1) (λW hF=>(b7.fr hF g5).isN) Ss (by rw[dT];have:=HL.o;omega) hT Ss;apply K.mono;rintro e w' ⟨q0,m0,z0,q1,m1,z1,q2,m2,z2,rfl,hE⟩;have i4:J W4.1=J w3.1+1:=f8;have b8:∀j,j<J W4.1->w'.1[j]?=W4.1[j]?:=λj hj=>(hE.fr j (O1 hX.size) (λe=>by
   obtain rfl:gb=j:=eU e;omega)).trans (hX.block j hj)
  have g6:Bl w w':=⟨hE.O.os.trans a5.o.os.symm,hE.O.tape.trans a5.o.tape.symm,hE.O.output.trans a5.o.output.symm,by
   have h9:J w3.1<J w'.1:=(dK.1 ((b8 _ a3.o.lt).trans a3.o.i)).1;omega,λj hj=>(b8 j Oo).trans (d4.block j hj)⟩
  have e3:Bx3 97 w' (J w.1) sn sn sn:=⟨(b8 _ d3.o.lt).trans d3.o.i⟩;exact⟨q0,m0,z0,q1,m1,z1,q2,m2,z2,rfl,λy0 y1 y2=>⟨hE.set e3.zy f9 _ _ _,((g6.setCell (nR _) _).setCell (nR _) _).setCell (nR _) _⟩,⟨(b8 _ a3.o.lt).trans a3.o.i⟩,e3⟩
 have HS:Hh (∀W,Bl W4 W->eQ W (az (J w3.1) 0)=Q (Z p0 k c0)/\eQ W (az (J w3.1) 1)=Q (Z aj nr kj)/\eQ W (az (J w3.1) 2)=Q (Z p2 nr c2)):=ay λW hW=>⟨(a3.o.zz hW).c0,(a3.o.zz hW).c1,(a3.o.zz hW).c2⟩;have g7:Hh (∀(W:oX) (y0 y1 y2:oV),TX W (J w3.1) (Z p0 k c0) (Z aj nr kj) (Z p2 nr c2)->eQ (sW (sW (sW W (az (J w.1) 0) y0) (az (J w.1) 1) y1) (az (J w.1) 2) y2) (az (J w3.1) 0)=Q (Z p0 k c0)/\eQ (sW (sW (sW W (az (J w.1) 0) y0) (az (J w.1) 1) y1) (az (J w.1) 2) y2) (az (J w3.1) 1)=Q (Z aj nr kj)/\eQ (sW (sW (sW W (az (J w.1) 0) y0) (az (J w.1) 1) y1) (az (J w.1) 2) y2) (az (J w3.1) 2)=Q (Z p2 nr c2)):=ay λW y0 y1 y2 h=>by
  have hx:TX (sW (sW (sW W (az (J w.1) 0) y0) (az (J w.1) 1) y1) (az (J w.1) 2) y2) (J w3.1) (Z p0 k c0) (Z aj nr kj) (Z p2 nr c2):=⟨(eG (by show J w3.1≠J w.1;omega)).trans ((eG (by show J w3.1≠J w.1;omega)).trans ((eG (by show J w3.1≠J w.1;omega)).trans h.i))⟩;exact⟨hx.c0,hx.c1,hx.c2⟩
 have mk:∀W:oX,Sem.run Tryz.prog (Instr.makeSlice 24 (ai (nt:Int)) (ai (nt:Int))) W=.ok (sZ (J W.1) 0 nt nt) (S W (eZ (madeCells (ai 0).cells (nt*1)) 3)):=λW=>by
  have c8:=HL.o;have:=run_makeSlice (P:=Tryz.prog) W 24 3 i0 _ underlying24 hi e4 .i64 .i64 (nt:Int) (nt:Int) Oo Oo (by rw[d6];omega) (by rw[e5];omega) Oo;rw[d6]at this;simpa using this
 have h5:J w.1<J W4.1:=d3.o.lt;clear d9 h1 h2 h3 a9 d0 a8 c9 c7;generalize madeCells (ai 0).cells (nt*1)=MC at *;first
  |go_region_held_law (λW=>eQ W (az (J w3.1) 0)=Q (Z p0 k c0)/\eQ W (az (J w3.1) 1)=Q (Z aj nr kj)/\eQ W (az (J w3.1) 2)=Q (Z p2 nr c2))
   (first
    |(refine HS.o _ ?_;(repeat(first|(with_reducible exact eB)|(with_reducible refine qT ?_)|(with_reducible refine qC ?_ _)));done)
    |with_reducible exact⟨b9.c0,b9.c1,b9.c2⟩
    |with_reducible exact g7.o _ _ _ _ b9
    |fail)
   (first
    |(go_simp;go_at_call 70;(with_reducible refine(KT.o _ _ _ _ (by(repeat(first|(with_reducible exact eB)|(with_reducible refine qT ?_)|(with_reducible refine qC ?_ _)))) (by(repeat(first|(with_reducible refine At.dr ?_)|((with_reducible refine At.new ?_);(first|rfl|(simp;done)))|(with_reducible refine At.al ?_ _)))) (by(repeat(first|(with_reducible refine At.dr ?_)|((with_reducible refine At.new ?_);(first|rfl|(simp;done)))|(with_reducible refine At.al ?_ _)))) (by(repeat(first|(with_reducible refine At.dr ?_)|((with_reducible refine At.new ?_);(first|rfl|(simp;done)))|(with_reducible refine At.al ?_ _)))) (by(first|exact nR _|omega|(simp;omega)))).mono ?_);rintro e w5 ⟨q0,m0,z0,q1,m1,z1,q2,m2,z2,rfl,g8,b9,a4⟩;have t0:=a4.c0;have t1:=a4.c1;have t2:=a4.c2;have f0:=a4.L 0;have f1:=a4.L 1;have f2:=a4.L 2)
    |fail)
  |fail
 all_goals go_wp2_with fail
 all_goals refine aU (v:=aQ #[Z q0 m0 z0,Z q1 m1 z1,Z q2 m2 z2]) (by simp[results,results69,go_sem,t0,t1,t2]) rfl ?_
 all_goals exact⟨_,_,_,_,_,_,_,_,_,rfl,g8 _ _ _⟩
def qAC{tl:List TbV}{k:Nat}{bs:LL}{ps:LI}{T:List TbV}(h:Trr tl k bs ps T)(w0 W:oX)(hl:LI)(q0:Option Addr)(m0 z0:Nat)(q1:Option Addr)(m1 z1:Nat)(q2:Option Addr)(m2 z2:Nat)(hx:TreX w0 W T (orT (E bs:Int) ps++[(E bs:Int)]) hl (Z q0 m0 z0) (Z q1 m1 z1) (Z q2 m2 z2)):
 ∃g,(∃cur,W.1[g]?=Q (eZ cur 58 (0,0)))/\Cl 71 #[aQ #[Z q0 m0 z0,Z q1 m1 z1,Z q2 m2 z2]] W λe w'=>(∃v,e=rE v)/\TreX w0 w' (jV bs ps T) (orT (E bs:Int) ps++[(E bs:Int)]) hl (Z q0 m0 z0) (Z q1 m1 z1) (Z q2 m2 z2)/\KpG (J W.1) g W w':=by
 have⟨rl',t1,t2⟩:=hx.tb;obtain⟨R,hR,-⟩:=h.go;have a4:=hR.C;have a7:E rl'=E bs+1:=by rw[<-a4,<-t2,lM]
 have a8:=kz h.par;have a5:E (orT (E bs:Int) ps++[(E bs:Int)])=E bs+1:=by rw[lA,vB,a8];rfl
 have a3:=hx.pa;rw[a5]at a3;obtain⟨g,z,hz⟩:∃g z,(Z q0 m0 z0:oV)=sZ g 0 (E bs+1) z:=by
  rcases t1.z.2 with ⟨-,e⟩|⟨g,cap,cur,e,-⟩;omega;exact⟨g,cap,by rw[e,a7]⟩
 obtain⟨gp,zp,a9⟩:∃g z,(Z q1 m1 z1:oV)=sZ g 0 (E bs+1) z:=by
  rcases a3.2 with ⟨-,e⟩|⟨g,cap,cur,e,-⟩;omega;exact⟨g,cap,e⟩
 have hX:=hx;rw[hz]at t1 hX ⊢;rw[a9]at a3 hX ⊢;have a6:=qK t1.z (g:=g) rfl;have⟨u1,u2⟩:=VW h.asc (vC h.par) hR _ eA;refine⟨g,a6,(qBJ W g z T hx.O ⟨rl',t1,t2⟩ a4 a5 a3 h.few (λi hi=>⟨qEj h.par hi,(vC h.par i hi).2⟩) (λn hn i hi=>((VW h.asc (vC h.par) hR n hn).1.ok i hi).tab) (λn hn i hi=>((qBK h.asc (vC h.par) u1 u2 n hn).1.ok i hi).tab)).mono ?_⟩;rintro e w' ⟨he,hT,hb,hK⟩;have mv:∀{x:oV} {n:Nat} {xs:List oV},oW W (J w0.1) 3 1 x n xs->oW w' (J w0.1) 3 1 x n xs:=λ{x n xs} ho=>qD ho λq hq=>hK.block q (ho.lt q hq).2 λe=>by
  have⟨c1,h1⟩:=qK ho hq;have⟨c2,h2⟩:=a6;rw[e,h2]at h1;simp at h1
 exact⟨he,⟨hT,mv hX.pa,mv hX.ho,hb⟩,hK⟩
def RWs(W:oX)(B:Nat)(vR vW:oV)(R:LL)(V:LI):Prop:=∃us,RQ W B vR us R/\oW W B 3 1 vW (E V) (V.map ai)/\∀i,i<E R->ApW (U us i undef) vW
def RWs.zx{W:oX}{B B':Nat}{vR vW:oV}{R:LL}{V:LI}(h:RWs W B vR vW R V)(hB:B'<=B):RWs W B' vR vW R V:=by
 have⟨us,h1,h2,h3⟩:=h;exact⟨us,h1.zx hB,qE h2 hB,h3⟩
section
variable {tl:List TbV} {k:Nat} {bs:LL} {ps:LI} {T:List TbV} {hd hl:LI} {r:Nat}
def qFk(h:Trr tl k bs ps T)(hm:HmO hl tl bs)(a4:E tl<=1000)(hw:r=3->∀t∈tl,∀x∈t.k,-1000000<=x/\x<=1000000)(hh:∀y∈hd,0<=y/\y<(k:Int))(a3:E hd<=1000)(w0 w2 w3:oX)(v vh:oV)(hb:Bl w0 w2)(hM:MsE (chT r k tl bs ps hd hl (E bs)) w2 w3 v)(hv:IS w0 vh hd):
 Cl 72 #[v,vh] w3 λe w'=>∃vR vW,e=rE (.tuple #[vR,vW])/\RWs w' (J w0.1) vR vW (agR k tl hd) (agV r k tl hd)/\Bl w0 w':=by
 have⟨hM,a5⟩:=hM;have h6:=h.six;have b3:=bt hb a5;have fin:∀e w',TdE w3 hd ((chT r k tl bs ps hd hl (E bs)).iQ z6) e w'->∃vR vW,e=rE (.tuple #[vR,vW])/\RWs w' (J w0.1) vR vW (agR k tl hd) (agV r k tl hd)/\Bl w0 w':=by
  rintro e w' ⟨vR,vW,rfl,us,es,ss,hq,ho,ha,hs,hp,hn,a6,a7⟩;have⟨e1,e2⟩:=qHa h hm a4 hw hh hp hs hn a6;have el:E es=E (agR k tl hd):=by unfold agR;rw[<-e1,lM]
  rw[e1]at hq;rw[e2]at ho;refine⟨vR,vW,rfl,⟨us,hq.zx b3.size,qE ?_ b3.size,λi hi=>ha i (el▸hi)⟩,bt b3 a7⟩;unfold agV;rw[lM,<-el];exact ho
 rcases hM with ⟨rfl,a8⟩|⟨c,ks,D,rfl,hW⟩;refine(qFr _ _ _ (hv.zz b3) a3).mono λe w'=>?_;rw[show(λ_=>wH)=(chT r k tl bs ps hd hl (E bs)).iQ z6 from (funext a8).symm];exact fin e _;have hn:=h.fewB (h.ok' (hd:=hd) (pO bs ps) (E bs)) hW.map.nd λa ha=>by
  have⟨x,hx⟩:=(hW.key a).1 ha;have⟨y,hy⟩:=map_some hx;obtain⟨c,F,g1,⟨-,g2⟩,-⟩:=(dc h _ _ a).ex hy;exact⟨F,g1,g2⟩
 exact(qEl _ c D _ _ _ _ hW (hv.zz b3) a3 (λy hy=>O1 (hh y hy)) Oo).mono λe w'=>fin e _
end
def Vw{r:Nat}(hr:X4 r){tl:List TbV}{k:Nat}{bs:LL}{ps:LI}{T:List TbV}{hd:LI}(h:Trr tl k bs ps T)(hw:r=3->∀t∈tl,∀x∈t.k,-1000000<=x/\x<=1000000)(hh:∀y∈hd,0<=y/\y<(k:Int))(a6:E hd<=1000)(w0 w:oX)(hl:LI)(q0:Option Addr)(m0 z0:Nat)(q1:Option Addr)(m1 z1:Nat)(q2:Option Addr)(m2 z2:Nat)(vt vh:oV)(hx:TreX w0 w T (orT (E bs:Int) ps++[(E bs:Int)]) hl (Z q0 m0 z0) (Z q1 m1 z1) (Z q2 m2 z2))(ht:ITs w0 vt tl)(hv:IS w0 vh hd)(hlen:E hl=E tl)(a7:HmO hl tl bs)(a4:E tl<=1000)(a8:∀t∈tl,qW t):
 Cl 54 #[aQ #[Z q0 m0 z0,Z q1 m1 z1,Z q2 m2 z2],vt,vh,rgV r] w λe w'=>∃vR vW,e=rE (.tuple #[vR,vW])/\RWs w' (J w0.1) vR vW (agR k tl hd) (agV r k tl hd)/\Bl w0 w':=by
 obtain⟨W1,a5⟩:=Ex (S w (eZ #[Z q0 m0 z0,Z q1 m1 z1,Z q2 m2 z2] 97));have b7:Bl w W1:=by rw[a5];exact(bJ _ _).alloc (nR _) _
 have a3:Bx3 97 W1 (J w.1) (Z q0 m0 z0) (Z q1 m1 z1) (Z q2 m2 z2):=a5▸Bx3.zw _ _ _ _ _
 obtain⟨g,b8,hR⟩:=qAC h _ _ _ _ _ _ _ _ _ _ _ _ (hx.zz b7);have KR:Hh (Cl 71 #[aQ #[Z q0 m0 z0,Z q1 m1 z1,Z q2 m2 z2]] W1 λe w'=>(∃v,e=rE v)/\TreX w0 w' (jV bs ps T) (orT (E bs:Int) ps++[(E bs:Int)]) hl (Z q0 m0 z0) (Z q1 m1 z1) (Z q2 m2 z2)/\Bx3 97 w' (J w.1) (Z q0 m0 z0) (Z q1 m1 z1) (Z q2 m2 z2)):=ay (hR.mono (by
  rintro e w' ⟨h1,h2,h3⟩;refine⟨h1,h2,⟨(h3.block _ a3.lt λe=>?_).trans a3.i⟩⟩;obtain⟨c1,e1⟩:=a3.zy;obtain⟨c2,e2⟩:=b8;rw[e,e2]at e1;simp at e1))
 have KM:Hh (∀W,TreX w0 W (jV bs ps T) (orT (E bs:Int) ps++[(E bs:Int)]) hl (Z q0 m0 z0) (Z q1 m1 z1) (Z q2 m2 z2)->Cl 73 #[aQ #[Z q0 m0 z0,Z q1 m1 z1,Z q2 m2 z2],vt,vh,.iface (rgT r) (aQ #[])] W λe w'=>∃v,e=rE v/\MsE (chT r k tl bs ps hd hl (E bs)) W w' v):=ay λW hX=>by
  obtain⟨rl,t1,t2⟩:=hX.tb;have h1:=V6 hr W _ _ _ _ _ _ _ _ _ _ _ _ _ (t2▸t1.its) (qN hX.pa) (qN hX.ho) (ht.zz hX.O) (hv.zz hX.O) (qI1 h a7 a8 a4 hw) (by rw[h.C];omega) hlen a4 a8 h.wf a6;rw[h.C]at h1;exact h1
 have KT:Hh (∀W2 W3 v,Bl w0 W2->MsE (chT r k tl bs ps hd hl (E bs)) W2 W3 v->Cl 72 #[v,vh] W3 λe w'=>∃vR vW,e=rE (.tuple #[vR,vW])/\RWs w' (J w0.1) vR vW (agR k tl hd) (agV r k tl hd)/\Bl w0 w'):=ay λW2 W3 v hb hm=>qFk h a7 a4 hw hh a6 _ _ _ v _ hb hm hv;have t0:=a3.c0;have t1:=a3.c1;have t2:=a3.c2;obtain⟨d1,ct,rfl,-⟩:=ht;obtain⟨ah,d2,rfl,-⟩:=hv;generalize agR k tl hd=SR at *;generalize agV r k tl hd=SV,chT r k tl bs ps hd hl (E bs)=CT,orT (E bs:Int) ps++[(E bs:Int)]=PR,E tl=nt,E hd=nd at *;unfold rgV;go_enter func54,ntmps54;go_upto_region 1 with fail;rw[<-a5];clear a5;go_upto_region 2 with (first|(go_at_call 71;apply KR.o.mono;rintro e w2 ⟨⟨vu,rfl⟩,a9,b1⟩)|fail);have b9:=ay a9;have c7:=ay (KM _ a9);clear t0 t1 t2 a9;have t0:=b1.c0;have t1:=b1.c1;have t2:=b1.c2;go_wp2_with (first|(go_at_call 73;apply c7.o.mono;rintro e w3 ⟨v3,rfl,c8⟩)|(go_at_call 72;apply (KT.o _ _ _ b9.o.O c8).mono;rintro e w4 ⟨vR,vW,rfl,c9,d0⟩)|fail);go_ret2;exact⟨_,_,rfl,c9,d0⟩
def TreX.set{w0 W:oX}{T:List TbV}{pr hl:LI}{x0 x1 x2:oV}(h:TreX w0 W T pr hl x0 x1 x2){r:Nat}(hX:∃cur,W.1[r]?=Q (eZ cur 97 (0,0)))(hr:J w0.1<=r)(y0 y1 y2:oV):TreX w0 (sW (sW (sW W (az r 0) y0) (az r 1) y1) (az r 2) y2) T pr hl x0 x1 x2:=by
 have a3:=qU (o:=0) (v:=y0) hX;have a4:=qU (o:=1) (v:=y1) a3;have⟨rl',t1,t2⟩:=h.tb;exact⟨⟨rl',((t1.setX hX Dd Dd Dd).setX a3 Dd Dd Dd).setX a4 Dd Dd Dd,t2⟩,qI (qI (qI h.pa hX Dd) a3 Dd) a4 Dd,qI (qI (qI h.ho hX Dd) a3 Dd) a4 Dd,((h.O.setCell hr _).setCell hr _).setCell hr _⟩
def JtE(w0:oX)(tl:List TbV)(k:Nat)(w':oX)(x0 x1 x2:oV):Prop:=∃bs ps T hl,Trr tl k bs ps T/\E hl=E tl/\HmO hl tl bs/\TreX w0 w' T (orT (E bs:Int) ps++[(E bs:Int)]) hl x0 x1 x2
def YA{k:Int}{tl:List TbV}{bs:LL}{ps hs:LI}{ws:List (Int×Int)}{x:Int×Int}(h:whJ k tl bs ps hs ws x):qc k tl bs ps hs ws x/\0<=zK tl (upR k.toNat):=by
 unfold whJ at h;rw[bV,dE]at h;refine⟨?_,h.2⟩;unfold qc;rw[h.1,Bool.and_true];exact aT.2 (QH (xL h.2).1).2.1
def YB(w0 w:oX)(vt v0 v1 v2 v3 vj:oV)(k x y:Int)(tl:List TbV)(bs:LL)(ps hs:LI)(ws:List (Int×Int))(us:List oV)(hw:Bl w0 w)(h:ITs w0 vt tl)(hl:E tl<=1048576)(d1:∀t∈tl,TvS t)(hp:IPl w0 v0 v1 v2 v3 bs ps hs ws)(d2:qS bs)(d3:E ps<=1099511627776)(b8:∀t∈tl,Wf t.x)(b9:whJ k tl bs ps hs ws (x,y))(hj:RQ w (J w0.1) vj us (qO tl (upR k.toNat))):
 Cl 53 #[ai k,vt,aQ #[v0,v1,v2,v3,ai x,ai y],vj] w λe w'=>∃(q0:Option Addr) (m0 z0:Nat) (q1:Option Addr) (m1 z1:Nat) (q2:Option Addr) (m2 z2:Nat),e=rE (aQ #[Z q0 m0 z0,Z q1 m1 z1,Z q2 m2 z2])/\JtE w0 tl k.toNat w' (Z q0 m0 z0) (Z q1 m1 z1) (Z q2 m2 z2):=by
 have⟨hr,a5⟩:=YA b9;have⟨r1,r2,r3,r4,r5⟩:=zR hr;obtain⟨-,r6,-,r7⟩:=Z6 hr;obtain⟨k0,k6,-⟩:=xA r2;have a7:∀t∈tl,qW t:=λt ht=>aT.1 r1 t ht;have e4:=kz r6;have d4:E hs=E tl:=by
  unfold yp at r7;rw[bV,dE,lM]at r7;exact r7.1
 have d5:((k.toNat:Nat):Int)=k:=Oo;have KB:Hh (∀W,Bl w0 W->Cl 68 #[ai k,vt,aQ #[v0,v1,v2,v3,ai x,ai y]] W λe w'=>∃(a:Option Addr) (n c:Nat) (rl:List TbR),e=rE (.tuple #[Z a n c,ai (yh k tl bs ps hs ws (x,y))])/\TBs w' (J w0.1) (Z a n c) rl/\rl.map tvB=vF k tl bs ps hs ws (x,y)/\Bl W w'):=ay λW hW=>by
  apply (qDH W k x y (h.zz hW) hl d1 (hp.zz hW) d2 d3).mono;rintro e w' ⟨v,rl,rfl,h1,h2,h3⟩;have⟨a,c,e0⟩:=qG h1.z;subst e0;exact⟨_,_,_,rl,rfl,h1.zx hW.size,h2,h3⟩
 have KO:Hh (∀W,Bl w W->Cl 69 #[ai k,vt,vj] W λe w'=>∃(q0:Option Addr) (m0 z0:Nat) (q1:Option Addr) (m1 z1:Nat) (q2:Option Addr) (m2 z2:Nat),e=rE (aQ #[Z q0 m0 z0,Z q1 m1 z1,Z q2 m2 z2])/\(∀(r:Nat) (y0 y1 y2:oV),(∃cur,w'.1[r]?=Q (eZ cur 97 (0,0)))->J w0.1<=r->JtE w0 tl k.toNat (sW (sW (sC w' r 0 y0) (az r 1) y1) (az r 2) y2) (Z q0 m0 z0) (Z q1 m1 z1) (Z q2 m2 z2))/\Bl W w'):=ay λW hW=>by
  have h1:=qAL _ W k.toNat _ _ _ _ _ (bt hw hW) h r4 a7 Oo (hj.zz hW) ((row_one a5 (Vz _ Oo)).few);rw[d5]at h1;apply h1.mono;rintro e w' ⟨q0,m0,z0,q1,m1,z1,q2,m2,z2,rfl,hE,hb⟩;exact⟨q0,m0,z0,q1,m1,z1,q2,m2,z2,rfl,λr y0 y1 y2 hX hr=>⟨[upR k.toNat],[-1],_,_,qHb a5 Oo Oo a7 b8,by rw[vB,dT],lq (jz (xL a5).1 (uO _)),hE.set hX hr _ _ _⟩,hb⟩
 have KT:Hh (¬yh k tl bs ps hs ws (x,y)<0->∀W vb rl,Bl w0 W->TBs W (J w0.1) vb rl->rl.map tvB=vF k tl bs ps hs ws (x,y)->Cl 70 #[vb,vt,aQ #[v0,v1,v2,v3,ai x,ai y]] W λe w'=>∃(q0:Option Addr) (m0 z0:Nat) (q1:Option Addr) (m1 z1:Nat) (q2:Option Addr) (m2 z2:Nat),e=rE (aQ #[Z q0 m0 z0,Z q1 m1 z1,Z q2 m2 z2])/\(∀(r:Nat) (y0 y1 y2:oV),(∃cur,w'.1[r]?=Q (eZ cur 97 (0,0)))->J w0.1<=r->JtE w0 tl k.toNat (sW (sW (sC w' r 0 y0) (az r 1) y1) (az r 2) y2) (Z q0 m0 z0) (Z q1 m1 z1) (Z q2 m2 z2))/\FrB W vb w'):=ay λhn W vb rl hW hT he=>by
  have⟨y1,y2,y3,y4,y5⟩:=qJV b9 hn;rw[y4]at he;have e5:E rl=E bs:=by have:=congrArg List.length he;rwa[lM,lM]at this
  obtain⟨a0,k0,e0,-⟩:=hp.b;obtain⟨a3,k3,e3,-⟩:=hp.d;have b7:∀g,vb.ownBlock=Q g->J w0.1<=g:=λg hg=>(hT.z.lt g hg).1;apply (ZJ W x y _ _ hW h r4 a7 ⟨a0,k0,e0⟩ ⟨a3,k3,e3⟩ (λW' hF=>hp.p.fr hW b7 hF) (λW' hF=>hp.h.fr hW b7 hF) Oo Oo hT Oo).mono;rintro e w' ⟨q0,m0,z0,q1,m1,z1,q2,m2,z2,rfl,hE⟩;refine⟨q0,m0,z0,q1,m1,z1,q2,m2,z2,rfl,λr u0 u1 u2 hX hr=>⟨bs,ps,ZD _ _,orT _ _,qFo y1 y2 a5 b8,by rw[vB];exact d4,lL r7,?_⟩,hE.fr⟩;have:=hE.set hX hr u0 u1 u2;rwa[he,e5]at this
 obtain⟨a0,c0,rfl,-⟩:=hp.b;obtain⟨a1,c1,rfl,-⟩:=hp.p;obtain⟨a2,c2,rfl,-⟩:=hp.h;obtain⟨a3,c3,rfl,-⟩:=hp.d;obtain⟨aj,cj,rfl⟩:=hj.sl;obtain⟨f7,ct,rfl,-⟩:=h;change Hh _ at hw;clear r4 r5 r6 r7 a7 e4 d4 b9 b8 d5 k0 k6 hl;generalize yh k tl bs ps hs ws (x,y)=GV,vF k tl bs ps hs ws (x,y)=GT,E (qO tl (upR k.toNat))=nj,E tl=nt,E bs=nb,E ps=np,E hs=nh,E ws=nw at *;have⟨W1,a6⟩:=Ex (S (aJ w #[Z a0 nb c0,Z a1 np c1,Z a2 nh c2,Z a3 nw c3,ai x,ai y] 39) (eZ #[sn,sn,sn] 97));have c7:Hh (Bl w W1):=ay (by rw[a6];exact x8 (x8 eB _) _);have c8:Hh (PX 39 W1 (J w.1) (Z a0 nb c0) (Z a1 np c1) (Z a2 nh c2) (Z a3 nw c3) x y):=ay (by rw[a6];exact(PX.zw _ _ _ _ _ _ _ _).zz (x8 eB _));have d6:Hh (Bx3 97 W1 (J w.1+1) sn sn sn):=ay (by
  have h1:=Bx3.zw 97 (aJ w #[Z a0 nb c0,Z a1 np c1,Z a2 nh c2,Z a3 nw c3,ai x,ai y] 39) sn sn sn;rw[a6];rw[aM]at h1;exact h1)
 have HR:Hh (J w0.1<=J w.1+1):=ay (O1 hw.o.size);have⟨s0,s1,s2,s3,s4,s5⟩:=c8.o.six;have d7:=ay (KB _ (bt hw c7));clear KB;go_enter func53,ntmps53;go_upto_region 1 with fail;rw[<-a6];clear a6;go_upto_region 2 with (first|(go_at_call 68;apply d7.o.mono;rintro e w3 ⟨ab,f8,cb,rl,rfl,d8,d9,a8⟩)|fail);have e1:=ay (bt c7 a8);have a9:=ay (d6.o.zz a8);have e6:=ay (c8.o.zz a8);change Hh _ at d8 d9;clear s0 s1 s2 s3 s4;by_cases hn:GV<0
 ·have e8:=ay (KO _ e1);go_wp2_with (first|(go_at_call 69;apply e8.o.mono;rintro e w4 ⟨q0,m0,z0,q1,m1,z1,q2,m2,z2,rfl,c9,d0⟩;have a4:=a9.o.zz d0;have t0:=a4.c0;have t1:=a4.c1;have t2:=a4.c2;have f0:=a4.L 0;have f1:=a4.L 1;have f2:=a4.L 2)|fail);refine aU (v:=aQ #[Z q0 m0 z0,Z q1 m1 z1,Z q2 m2 z2]) (by simp[results,results53,go_sem,t0,t1,t2]) rfl ?_;exact⟨_,_,_,_,_,_,_,_,_,rfl,c9 _ _ _ _ a4.zy HR⟩
 have e9:=ay (KT Oo _ _ _ (bt hw e1) d8 d9);have⟨s0,s1,s2,s3,s4,s5⟩:=e6.o.six;go_wp2_with (first|(go_at_call 70;apply e9.o.mono;rintro e w4 ⟨q0,m0,z0,q1,m1,z1,q2,m2,z2,rfl,c9,d0⟩;have a4:Bx3 97 w4 (J w.1+1) sn sn sn:=⟨(d0 _ a9.o.lt (λe=>own_ne d8.o.z a9.o.zy Dd e.symm)).trans a9.o.i⟩;have t0:=a4.c0;have t1:=a4.c1;have t2:=a4.c2;have f0:=a4.L 0;have f1:=a4.L 1;have f2:=a4.L 2)|fail);refine aU (v:=aQ #[Z q0 m0 z0,Z q1 m1 z1,Z q2 m2 z2]) (by simp[results,results53,go_sem,t0,t1,t2]) rfl ?_;exact⟨_,_,_,_,_,_,_,_,_,rfl,c9 _ _ _ _ a4.zy HR⟩
def qHO:srt []=[]:=eq_nil_iff_forall_not_mem.2 λz hz=>by
 have:=((zQ _ _ eA).2 z).1 hz;cases this
section
variable {k:Int} {tl:List TbV} {bs:LL} {ps hs:LI} {ws:List (Int×Int)} {x:Int×Int} {hd:LI} {ring:Int}
def mE(h:whJ k tl bs ps hs ws x=nF):yv (qc k tl bs ps hs ws x) k tl hd ring=[]/\vi (qc k tl bs ps hs ws x) k tl hd ring=[]:=by
 unfold yv vi;by_cases e:cd (qc k tl bs ps hs ws x) k tl hd ring
 ·rw[fE e,fE e];have hr:qc k tl bs ps hs ws x:=(dz e).1;unfold qc at hr;rw[bV]at hr;unfold whJ at h;rw[hr.2,dG,aP]at h;have:qO tl (upR k.toNat)=[]:=by
   unfold zK at h;unfold qO;split at h;omega;rename_i h2;rw[fF h2]
  unfold agV agR;rw[this];have e0:srt (([]:LL).map (qM hd))=[]:=qHO;rw[e0];exact⟨rfl,rfl⟩
 rw[fF e,fF e];exact⟨rfl,rfl⟩
def mF(h:hdB k hd=nF){rd:Bool}:yv rd k tl hd ring=[]/\vi rd k tl hd ring=[]:=by
 have e:cd rd k tl hd ring=false:=by unfold cd;rw[h,pT];rfl
 unfold yv vi;rw[e];exact⟨rfl,rfl⟩
def mG(h:¬(1<=ring/\ring<=3)){rd:Bool}:yv rd k tl hd ring=[]/\vi rd k tl hd ring=[]:=by
 have e:cd rd k tl hd ring=false:=by unfold cd;rw[fC h,pT];rfl
 unfold yv vi;rw[e];exact⟨rfl,rfl⟩
def mH(h:ring=3)(h2:tl.all wsJ=nF){rd:Bool}:yv rd k tl hd ring=[]/\vi rd k tl hd ring=[]:=by
 have e:cd rd k tl hd ring=false:=by unfold cd;rw[h2,h,Bool.or_false];simp
 unfold yv vi;rw[e];exact⟨rfl,rfl⟩
def gU{r:Nat}(hr:X4 r)(a3:ring=(r:Int))(hw:r=3->tl.all wsJ)(h:whJ k tl bs ps hs ws x)(h2:hdB k hd):yv (qc k tl bs ps hs ws x) k tl hd ring=agR k.toNat tl hd/\vi (qc k tl bs ps hs ws x) k tl hd ring=agV r k.toNat tl hd:=by
 have e:cd (qc k tl bs ps hs ws x) k tl hd ring:=by
  unfold cd;rw[(YA h).1,h2,fD (by rcases hr with rfl|rfl|rfl <;> omega)];by_cases e3:r=3;rw[hw e3];simp;rw[fD Oo];rfl
 unfold yv vi;rw[fE e,fE e,a3,sO];exact⟨rfl,rfl⟩
def lI(h:tl.all wsJ):∀t∈tl,∀x∈t.k,-1000000<=x/\x<=1000000:=λt ht x hx=>by
 have h1:=aT.1 (aT.1 h t ht) x hx;unfold wtB at h1;rw[bV,dE,dE]at h1;exact h1
end
def qHS(W:oX){B:Nat}(hB:B<=J W.1):RQ (S W (eZ #[] 24)) B (sZ (J W.1) 0 0 0) [] []:=⟨⟨rfl,.inr ⟨J W.1,0,#[],rfl,hB,eO,eA,by unfold maxLen;decide,rfl,rfl⟩⟩,rfl,λi hi=>(by cases hi),λi j _ hj=>(by cases hj)⟩
def fi(W:oX){B:Nat}(hB:B<=J W.1):RWs (S (S W (eZ #[] 24)) (eZ #[] 3)) B (sZ (J W.1) 0 0 0) (sZ (J W.1+1) 0 0 0) [] []:=
 ⟨[],(qHS W hB).zz (x8 eB _),⟨rfl,.inr ⟨J W.1+1,0,#[],rfl,Oo,by have:=dZ (aJ W #[] 24) (eZ #[] 3);rwa[aM]at this,eA,by unfold maxLen;decide,rfl,rfl⟩⟩,λi hi=>by cases hi⟩
def JV{r:Nat}(hr:X4 r)(ring:Int)(b8:ring=(r:Int))(w:oX)(vt v0 v1 v2 v3 vh:oV)(k x y:Int)(tl:List TbV)(bs:LL)(ps hs:LI)(ws:List (Int×Int))(hd:LI)(h:ITs w vt tl)(hl:E tl<=1048576)(b9:∀t∈tl,TvS t)(hp:IPl w v0 v1 v2 v3 bs ps hs ws)(c7:qS bs)(c8:E ps<=1099511627776)(d2:∀t∈tl,Wf t.x)(hh:IS w vh hd)(d3:E hd<=1099511627776)(b7:∀a n cap,vh=Z a n cap->n<=cap)(hw:r=3->tl.all wsJ):
 Cl 35 #[ai k,vt,aQ #[v0,v1,v2,v3,ai x,ai y],vh,.iface (rgT r) (aQ #[])] w λe w'=>∃vR vW,e=rE (.tuple #[vR,vW])/\RWs w' (J w.1) vR vW (yv (qc k tl bs ps hs ws (x,y)) k tl hd ring) (vi (qc k tl bs ps hs ws (x,y)) k tl hd ring)/\Bl w w':=by
 have KW:Hh (∀W,Bl w W->Cl 51 #[ai k,vt,aQ #[v0,v1,v2,v3,ai x,ai y]] W λe w'=>∃a n c,e=rE (.tuple #[Z a n c,oB (whJ k tl bs ps hs ws (x,y))])/\WjR (whJ k tl bs ps hs ws (x,y)) W w' (Z a n c) (qO tl (upR k.toNat))):=ay λW hW=>YH W k x y (h.zz hW) hl b9 (hp.zz hW) c7 c8;have KH:Hh (∀W,Bl w W->Cl 52 #[ai k,vh] W λe w'=>e=rE (oB (hdB k hd))/\w'=W):=ay λW hW=>qAF W k (hh.zz hW) d3 b7;have KJ:Hh (whJ k tl bs ps hs ws (x,y)->∀W vj us,Bl w W->RQ W (J w.1) vj us (qO tl (upR k.toNat))->Cl 53 #[ai k,vt,aQ #[v0,v1,v2,v3,ai x,ai y],vj] W λe w'=>∃(q0:Option Addr) (m0 z0:Nat) (q1:Option Addr) (m1 z1:Nat) (q2:Option Addr) (m2 z2:Nat),e=rE (aQ #[Z q0 m0 z0,Z q1 m1 z1,Z q2 m2 z2])/\JtE w tl k.toNat w' (Z q0 m0 z0) (Z q1 m1 z1) (Z q2 m2 z2)):=λhW W vj us hb hj=>YB w W _ _ _ _ _ _ k x y _ _ _ _ _ _ hb h hl b9 hp c7 c8 d2 hW hj;have KA:Hh (whJ k tl bs ps hs ws (x,y)->hdB k hd->∀W q0 m0 z0 q1 m1 z1 q2 m2 z2,JtE w tl k.toNat W (Z q0 m0 z0) (Z q1 m1 z1) (Z q2 m2 z2)->Cl 54 #[aQ #[Z q0 m0 z0,Z q1 m1 z1,Z q2 m2 z2],vt,vh,.iface (rgT r) (aQ #[])] W λe w'=>∃vR vW,e=rE (.tuple #[vR,vW])/\RWs w' (J w.1) vR vW (yv (qc k tl bs ps hs ws (x,y)) k tl hd ring) (vi (qc k tl bs ps hs ws (x,y)) k tl hd ring)/\Bl w w'):=λh1 h2 W q0 m0 z0 q1 m1 z1 q2 m2 z2 hJ=>by
  obtain⟨e3,e4,T,d5,g1,g2,gm,g3⟩:=hJ;obtain⟨r1,r2,r3,r4,r5⟩:=zR (YA h1).1;obtain⟨k0,k6,-⟩:=xA r2;rw[(gU hr b8 hw h1 h2).1,(gU hr b8 hw h1 h2).2];exact Vw hr g1 (λh3=>lI (hw h3)) (λy hy=>O1 (qAQ h2 y hy)) (O1 (UB h2 k6)) w W _ _ _ _ _ _ _ _ _ _ _ _ g3 h hh g2 gm Oo λt ht=>aT.1 r1 t ht
 have a5:Hh (whJ k tl bs ps hs ws (x,y)=nF->yv (qc k tl bs ps hs ws (x,y)) k tl hd ring=[]/\vi (qc k tl bs ps hs ws (x,y)) k tl hd ring=[]):=mE;have a6:Hh (hdB k hd=nF->yv (qc k tl bs ps hs ws (x,y)) k tl hd ring=[]/\vi (qc k tl bs ps hs ws (x,y)) k tl hd ring=[]):=λh=>mF h;obtain⟨a0,c0,rfl,-⟩:=hp.b;obtain⟨a1,c1,rfl,-⟩:=hp.p;obtain⟨a2,c2,rfl,-⟩:=hp.h;obtain⟨a3,c3,rfl,-⟩:=hp.d;obtain⟨ah,kh,rfl,-⟩:=hh;obtain⟨e5,ct,rfl,-⟩:=h;generalize yv (qc k tl bs ps hs ws (x,y)) k tl hd ring=EA,vi (qc k tl bs ps hs ws (x,y)) k tl hd ring=EV,whJ k tl bs ps hs ws (x,y)=WH,hdB k hd=HD,qO tl (upR k.toNat)=RJ,E tl=nt,E hd=nd,E bs=nb,E ps=np,E hs=nh at *;generalize E ws=nw at *;obtain⟨W1,a7⟩:=Ex (S w (eZ #[Z a0 nb c0,Z a1 np c1,Z a2 nh c2,Z a3 nw c3,ai x,ai y] 39));have c9:Hh (PX 39 W1 (J w.1) (Z a0 nb c0) (Z a1 np c1) (Z a2 nh c2) (Z a3 nw c3) x y):=(a7▸PX.zw _ _ _ _ _ _ _ _);have d0:Hh (Bl w W1):=(by rw[a7];exact(bJ _ _).alloc (nR _) _);have a4:Hh (∀W,Bl w W->EA=[]/\EV=[]->RWs (S (S W (eZ #[] 24)) (eZ #[] 3)) (J w.1) (sZ (J W.1) 0 0 0) (sZ (J W.1+1) 0 0 0) EA EV/\Bl w (S (aJ W #[] 24) (eZ #[] 3))):=λW hW e=>⟨by rw[e.1,e.2];exact fi W hW.size,x8 (x8 hW _) _⟩;obtain⟨s0,s1,s2,s3,s4,s5⟩:=c9.o.six;have d4:=ay (KW _ d0);clear KW;go_enter func35,ntmps35;go_upto_region 1 with fail;rw[<-a7];clear a7;go_upto_region 2 with (first|(go_at_call 51;apply d4.o.mono;rintro e w2 ⟨aj,nj,cj,rfl,a8⟩)|fail);have a9:=ay a8;have b1:=ay (bt d0 a8.2);have d6:=ay (c9.o.zz a8.2);clear s0 s1 s2;have d1:=ay (KH _ b1);cases WH with
 |false=>
  have HG:=ay (a4 _ b1 (a5 (by trivial)));go_wp2;go_ret2;exact⟨_,_,rfl,HG⟩
 |true=>
  cases HD with
  |false=>
   have HG:=ay (a4 _ b1 (a6 (by trivial)));go_wp2_with (first|(go_at_call 52;apply d1.o.mn;intro w' d7;subst w')|fail);go_ret2;exact⟨_,_,rfl,HG⟩
  |true=>
   have⟨us,hj⟩:=a9.1 rfl;have d8:=ay (KJ (by trivial) _ _ _ b1 (hj.zx d0.o.size));have d9:=ay (KA (by trivial) (by trivial));have⟨s0,s1,s2,s3,s4,s5⟩:=d6.o.six;go_wp2_with (first|(go_at_call 52;apply d1.o.mn;intro w' d7;subst w')|(go_at_call 53;apply d8.o.mono;rintro e w5 ⟨q0,m0,z0,q1,m1,z1,q2,m2,z2,rfl,e0⟩)|(go_at_call 54;apply (d9.o _ _ _ _ _ _ _ _ _ _ e0).mono;rintro e w6 ⟨vR,vW,rfl,e1,e2⟩)|fail);go_ret2;exact⟨_,_,rfl,e1,e2⟩
def gH(w:oX)(vt v0 v1 v2 v3 vh:oV)(k x y ring:Int)(tl:List TbV)(bs:LL)(ps hs:LI)(ws:List (Int×Int))(hd:LI)(h:ITs w vt tl)(hl:E tl<=1048576)(d3:∀t∈tl,TvS t)(hp:IPl w v0 v1 v2 v3 bs ps hs ws)(d6:qS bs)(d7:E ps<=1099511627776)(d8:∀t∈tl,Wf t.x)(hh:IS w vh hd)(d9:E hd<=1099511627776)(d2:∀a n cap,vh=Z a n cap->n<=cap):
 Cl 10 #[ai k,vt,aQ #[v0,v1,v2,v3,ai x,ai y],vh,ai ring] w λe w'=>∃vR vW,e=rE (.tuple #[vR,vW])/\RWs w' (J w.1) vR vW (yv (qc k tl bs ps hs ws (x,y)) k tl hd ring) (vi (qc k tl bs ps hs ws (x,y)) k tl hd ring)/\Bl w w':=by
 have KA:Hh (∀r,X4 r->ring=(r:Int)->(r=3->tl.all wsJ)->∀W,Bl w W->Cl 35 #[ai k,vt,aQ #[v0,v1,v2,v3,ai x,ai y],vh,.iface (rgT r) (aQ #[])] W λe w'=>∃vR vW,e=rE (.tuple #[vR,vW])/\RWs w' (J w.1) vR vW (yv (qc k tl bs ps hs ws (x,y)) k tl hd ring) (vi (qc k tl bs ps hs ws (x,y)) k tl hd ring)/\Bl w w'):=ay λr hr a4 hw W hW=>by
  apply (JV hr _ a4 W _ _ _ _ _ _ k x y _ _ _ _ _ _ (h.zz hW) hl d3 (hp.zz hW) d6 d7 d8 (hh.zz hW) d9 d2 hw).mono;rintro e w' ⟨vR,vW,rfl,hq,hb⟩;exact⟨vR,vW,rfl,hq.zx hW.size,bt hW hb⟩
 have KW:Hh (∀W,Bl w W->Cl 34 #[vt] W λe w'=>e=rE (oB (tl.all wsJ))/\Bl W w'):=ay λW hW=>fk W _ _ (h.zz hW) Oo d3;have b1:Hh (¬(1<=ring/\ring<=3)->yv (qc k tl bs ps hs ws (x,y)) k tl hd ring=[]/\vi (qc k tl bs ps hs ws (x,y)) k tl hd ring=[]):=ay λh=>mG h;have b7:Hh (ring=3->tl.all wsJ=nF->yv (qc k tl bs ps hs ws (x,y)) k tl hd ring=[]/\vi (qc k tl bs ps hs ws (x,y)) k tl hd ring=[]):=ay λh1 h2=>mH h1 h2;obtain⟨a0,c0,rfl,-⟩:=hp.b;obtain⟨a1,c1,rfl,-⟩:=hp.p;obtain⟨a2,c2,rfl,-⟩:=hp.h;obtain⟨a3,c3,rfl,-⟩:=hp.d;obtain⟨ah,kh,rfl,-⟩:=hh;obtain⟨d4,ct,rfl,-⟩:=h;generalize yv (qc k tl bs ps hs ws (x,y)) k tl hd ring=EA,vi (qc k tl bs ps hs ws (x,y)) k tl hd ring=EV,tl.all wsJ=SW,E tl=nt,E hd=nd,E bs=nb,E ps=np,E hs=nh at *;generalize E ws=nw at *;obtain⟨W1,a5⟩:=Ex (S w (eZ #[Z a0 nb c0,Z a1 np c1,Z a2 nh c2,Z a3 nw c3,ai x,ai y] 39));have e1:Hh (PX 39 W1 (J w.1) (Z a0 nb c0) (Z a1 np c1) (Z a2 nh c2) (Z a3 nw c3) x y):=ay (a5▸PX.zw _ _ _ _ _ _ _ _);have a8:Hh (Bl w W1):=ay (by rw[a5];exact(bJ _ _).alloc (nR _) _);have c7:Hh (∀W,Bl w W->EA=[]/\EV=[]->RWs (S (aJ W #[] 24) (eZ #[] 3)) (J w.1) (sZ (J W.1) 0 0 0) (sZ (J W.1+1) 0 0 0) EA EV/\Bl w (S (aJ W #[] 24) (eZ #[] 3))):=ay λW hW e=>⟨by rw[e.1,e.2];exact fi W hW.size,x8 (x8 hW _) _⟩;have a6:=ay (fV W1 ring);have c8:=ay (KW _ a8);by_cases c9:1<=ring/\ring<=3
 ·obtain⟨r,hr,a4⟩:∃r:Nat,X4 r/\ring=(r:Int):=⟨ring.toNat,by unfold X4;omega,Oo⟩;by_cases h3:r=3
  ·subst h3;replace a4:ring=3:=a4;subst a4;have a7:Hh (Cl 33 #[ai 3] W1 λe w'=>e=rE (.iface 92 (aQ #[]))/\w'=W1):=a6;cases SW with
   |false=>
    have HG:=ay (b7 (by trivial) (by trivial));clear b7 hr c9 a6;go_enter func10,ntmps10;go_upto_region 1 with fail;rw[<-a5];clear a5;go_wp2_with (first|(go_at_call 33;apply a7.o.mn;intro w' d0;subst w')|(go_at_call 34;apply c8.o.mono;rintro e w3 ⟨rfl,d1⟩)|fail);go_ret2;exact⟨_,_,rfl,c7 _ (bt a8 d1) HG⟩
   |true=>
    have a9:Hh (∀W,Bl w W->Cl 35 #[ai k,Z d4 nt ct,aQ #[Z a0 nb c0,Z a1 np c1,Z a2 nh c2,Z a3 nw c3,ai x,ai y],Z ah nd kh,.iface 92 (aQ #[])] W λe w'=>∃vR vW,e=rE (.tuple #[vR,vW])/\RWs w' (J w.1) vR vW EA EV/\Bl w w'):=ay (KA 3 hr rfl λ_=>by trivial);clear c7;go_enter func10,ntmps10;go_upto_region 1 with fail;rw[<-a5];clear a5;go_wp2_with (first|(go_at_call 33;apply a7.o.mn;intro w' d0;subst w')|(go_at_call 34;apply c8.o.mn;intro w3 d1;have⟨s0,s1,s2,s3,s4,s5⟩:=(e1.o.zz d1).six)|(go_at_call 35;apply (a9.o _ (bt a8.o d1)).mono;rintro e w4 ⟨vR,vW,rfl,b8,b9⟩)|fail);go_ret2;exact⟨_,_,rfl,b8,b9⟩
  have a9:=ay (KA r hr a4 (λe=>absurd e h3));have e3:r=1∨r=2:=by unfold X4 at hr;omega
  have q3:(ring == 3)=false:=by
   have:¬ring=3:=Oo;simpa using this
  have⟨s0,s1,s2,s3,s4,s5⟩:=e1.o.six;clear KA b1 b7;rcases e3 with rfl|rfl
  ·replace a4:ring=1:=a4;subst a4;have a7:Hh (Cl 33 #[ai 1] W1 λe w'=>e=rE (.iface 91 (aQ #[]))/\w'=W1):=a6;have d5:Hh (∀W,Bl w W->Cl 35 #[ai k,Z d4 nt ct,aQ #[Z a0 nb c0,Z a1 np c1,Z a2 nh c2,Z a3 nw c3,ai x,ai y],Z ah nd kh,.iface 91 (aQ #[])] W λe w'=>∃vR vW,e=rE (.tuple #[vR,vW])/\RWs w' (J w.1) vR vW EA EV/\Bl w w'):=a9;clear a6;go_enter func10,ntmps10;go_upto_region 1 with fail;rw[<-a5];clear a5;go_wp2_with (first|(go_at_call 33;apply a7.o.mn;intro w' d0;subst w')|(go_at_call 35;apply (d5.o _ a8.o).mono;rintro e w4 ⟨vR,vW,rfl,b8,b9⟩)|fail);go_ret2;exact⟨_,_,rfl,b8,b9⟩
  replace a4:ring=2:=a4;subst a4;have a7:Hh (Cl 33 #[ai 2] W1 λe w'=>e=rE (.iface 89 (aQ #[]))/\w'=W1):=a6;have d5:Hh (∀W,Bl w W->Cl 35 #[ai k,Z d4 nt ct,aQ #[Z a0 nb c0,Z a1 np c1,Z a2 nh c2,Z a3 nw c3,ai x,ai y],Z ah nd kh,.iface 89 (aQ #[])] W λe w'=>∃vR vW,e=rE (.tuple #[vR,vW])/\RWs w' (J w.1) vR vW EA EV/\Bl w w'):=a9;clear a9 a6;go_enter func10,ntmps10;go_upto_region 1 with fail;rw[<-a5];clear a5;go_wp2_with (first|(go_at_call 33;apply a7.o.mn;intro w' d0;subst w')|(go_at_call 35;apply (d5.o _ a8.o).mono;rintro e w4 ⟨vR,vW,rfl,b8,b9⟩)|fail);go_ret2;exact⟨_,_,rfl,b8,b9⟩
 have HG:=ay (b1 c9);have e0:rgO ring=.nilIface:=by unfold rgO;rw[fF Oo,fF Oo,fF Oo]
 have a7:Hh (Cl 33 #[ai ring] W1 λe w'=>e=rE .nilIface/\w'=W1):=by rw[e0]at a6;exact a6
 clear KA b1 b7 a6 c8 e0;go_enter func10,ntmps10;go_upto_region 1 with fail;rw[<-a5];clear a5;go_wp2_with (first|(go_at_call 33;apply a7.o.mn;intro w' d0;subst w')|fail);go_ret2;exact⟨_,_,rfl,c7 _ a8 HG⟩
