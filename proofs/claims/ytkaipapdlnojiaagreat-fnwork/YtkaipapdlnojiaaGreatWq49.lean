import Derived.Test.YtkaipapdlnojiaaGreatWq39
import Derived.Test.YtkaipapdlnojiaaGreatWq48
set_option maxHeartbeats 40000000
set_option maxRecDepth 1000000
namespace Go.Proofs.YtkaipapdlnojiaaGreat
open Go.RowKit
variable {r vs:List Int}{b i k m n:Nat}{x:Nat->Rat}{t:TbV}{v:Value}{w:World}
def upL(k:Nat):List Int:=(List.range k).map Int.ofNat
theorem y8(k:Nat):(upL k).length=k:=by simp[upL]
theorem qCz(k:Nat):upL (k+1)=upL k++[(k:Int)]:=by unfold upL;rw[List.range_succ,mA];rfl
theorem Q5(w:World)(k:Nat)(hk:k<=1000):
 Cl 6 #[.int .i64 k] w λe w'=>∃v,e=.returned v/\w'.ownsRow w.heap.size 3 1 v (upL k).length ((upL k).map (Value.int .i64))/\Bl w w':=by
 obtain⟨i0,hi,a4,a5,a6⟩:=info_parts Tryz.infoInt;obtain⟨W1,M⟩:∃W1,W1=w.alloc (.cells #[] 3):=⟨_,rfl⟩
 have O:Hid (Bl w W1/\W1.ownsRow w.heap.size 3 1 (.slice (some ⟨w.heap.size,0,none⟩) 0 0) 0 []):=hid (by
  rw[M];exact⟨(bM _ _).alloc (bK _) _,oM w #[] 0 (bK _) Dd rfl⟩)
 rw[y8];go_enter Tryz.func6,Tryz.ntmps6
 go_upto_region 2 with fail
 rw[<-M];clear M;go_wp2_with fail
 go_loopw [3,4] (λu t wr=>∃(j:Nat) (V:Value),j<=k/\t=.int .i64 j/\V=u/\Hid (Bl w wr/\wr.ownsRow w.heap.size 3 1 V j ((upL j).map (Value.int .i64)))) (λ_ t _=>k - (intOf t).toNat)
 case atStart=>exact⟨0,_,nZ _,rfl,rfl,hid ⟨O.out.1,O.out.2⟩⟩
 case round=>
  clear O;obtain⟨j,V,a8,rfl,rfl,U⟩:=hrel;by_cases a9:j < k
  ·have i1:(j:Int) < (k:Int):=Oo;have hs:=U.out.1.size;go_wp2_with (first|(at_builtin;refine wpList_append_lies _ rfl _ _ 25 rfl w.heap.size 3 i0 (.int .i64 0) 1 8 Tryz.underlying25 hi a4 a5 a6 rfl Dd V _ _ rfl (U.out.2.alloc _) ⟨_,0,none⟩ 1 1 [.int .i64 j] rfl rfl (qH _ _ _) (λu hu=>by simp at hu;subst hu;rfl) Dd (by unfold maxLen;omega) Oo (by simp;omega) _ rfl ?_;intro g6 a7 w6 K I a2 a3)|fail)
   have HN:Hid (Bl w w6/\w6.ownsRow w.heap.size 3 1 (.slice (some ⟨g6,0,none⟩) (j+1) a7) (j+1) ((upL (j+1)).map (Value.int .i64))):=hid ⟨(U.out.1.alloc hs _).grown I (by simp;omega) (λq hq=>(U.out.2.lt q hq).1),by rw[qCz,mA];exact K⟩;clear K I a2 a3 U;go_wp2_with fail
   go_roundw
   case rel=>exact⟨j+1,_,Oo,Gg,rfl,HN⟩
   case measure=>simp[intOf];omega
  ·obtain rfl:j=k:=Oo;have i1:¬((j:Int) < (j:Int)):=Oo;go_wp2_with fail
   go_ret;exact⟨V,rfl,U.out.2,U.out.1⟩
def qi(x:Nat):Nat:=min x 1152921504606846976
theorem QW(a x:Nat):qi (qi a*x)=qi (a*x):=by
 unfold qi;by_cases h:a<=1152921504606846976
 ·rw[Nat.min_eq_left h]
 ·have e:min a 1152921504606846976=1152921504606846976:=Nat.min_eq_right Oo;rw[e];rcases Nat.eq_zero_or_pos x with rfl|I
  ·simp
  ·have K:1152921504606846976*1<=1152921504606846976*x:=Nat.mul_le_mul_left _ I;have M:1152921504606846976*x<=a*x:=Nat.mul_le_mul_right _ Oo;omega
theorem qBQ{a:Nat}(h:a<=b):qi a<=qi b:=by unfold qi;omega
theorem qBR(a b:Nat):qi (qi a*qi b)=qi (a*b):=by rw[QW,Nat.mul_comm,QW,Nat.mul_comm]
theorem Jd(a:Nat):qi a<=1152921504606846976:=by unfold qi;omega
theorem QX(w:World)(x y:Nat)(hx:x<=1152921504606846976):
 Cl 11 #[.int .i64 x,.int .i64 y] w λe w'=>e=.returned (.int .i64 (qi (x*y):Nat))/\w'=w:=by
 by_cases h0:x=0
 ·subst h0;have e1:qi (0*y)=0:=by simp[qi]
  rw[e1];go_enter Tryz.func11,Tryz.ntmps11
  go_wp2;go_ret;simp
 ·have i0:(0:Int) < (x:Int):=Oo;have i1:¬(x:Int)=0:=Oo;have hd:(1152921504606846976:Int) / (x:Int)=((1152921504606846976 / x:Nat):Int):=rfl;have M:=Nat.div_add_mod 1152921504606846976 x;have O:=Nat.mod_lt 1152921504606846976 (show 0 < x by omega);have a2:1152921504606846976 / x<=1152921504606846976:=Nat.div_le_self _ _
  have I:1152921504606846976 / x < y->qi (x*y)=1152921504606846976:=λh=>by
   have:x*(1152921504606846976 / x+1)<=x*y:=Nat.mul_le_mul_left _ h;rw[Nat.mul_add]at this;unfold qi;omega
  have K:¬1152921504606846976 / x < y->x*y<=1152921504606846976:=λh=>by
   have:x*y<=x*(1152921504606846976 / x):=Nat.mul_le_mul_left _ Oo;omega
  generalize hq:1152921504606846976 / x=q at *;clear hq M O;by_cases h:q < y
  ·rw[I h];have j1:(q:Int) < (y:Int):=Oo;clear I K;go_enter Tryz.func11,Tryz.ntmps11
   go_wp2;go_ret;simp
  ·have hb:=K h;have U:qi (x*y)=x*y:=by unfold qi;omega
   rw[U];have j1:¬(q:Int) < (y:Int):=Oo;have V:((x*y:Nat):Int)=(x:Int)*(y:Int):=Ss;have j3:(x:Int)*(y:Int)<=1152921504606846976:=by rw[<-V];omega
   have j4:0<=(x:Int)*(y:Int):=by rw[<-V];omega
   clear I K U;go_enter Tryz.func11,Tryz.ntmps11
   go_wp2;go_ret;simp
theorem Je(w:World)(x n:Nat)(hn:n<=1152921504606846976):
 Cl 10 #[.int .i64 x,.int .i64 n] w λe w'=>e=.returned (.int .i64 (qi (x ^ n):Nat))/\w'=w:=by
 have KT:Hid (∀i,Cl 11 #[.int .i64 (qi (x ^ i):Nat),.int .i64 x] w λe w'=>e=.returned (.int .i64 (qi (x ^ (i+1)):Nat))/\w'=w):=hid λi=>by
  have:=QX w (qi (x ^ i)) x (Jd _);rw[QW,<-Nat.pow_succ]at this;exact this
 have I:qi (x ^ 0)=1:=by simp[qi]
 go_enter Tryz.func10,Tryz.ntmps10
 go_wp2_with fail
 go_loopg [5,6] n (λM O U wx=>∃i:Nat,O=.int .i64 (qi (x ^ i):Nat)/\U=.int .i64 i/\i<=n/\M=n - i/\wx=w)
 case atStart=>exact⟨0,by rw[I];rfl,rfl,nZ _,rfl,rfl⟩
 case round=>
  clear I;obtain⟨i,rfl,rfl,hi,V,hw⟩:=hrel;subst hw;by_cases a2:i < n
  ·have q1:(i:Int) < (n:Int):=Oo;have K:=hid (KT.out i);clear KT;obtain⟨v,hv⟩:∃v,v=qi (x ^ (i+1)):=⟨_,rfl⟩;rw[<-hv]at K;have HV:=hid hv;clear hv;go_wp2_with (first|(go_at_call 11;refine K.out.mono ?_;rintro e w' ⟨rfl,a3⟩;subst w')|fail)
   go_roundg (n - (i+1))
   case measure=>omega
   case rel=>exact⟨i+1,by rw[HV.out],Gg,Oo,rfl,rfl⟩
  ·obtain rfl:i=n:=Oo;have q1:¬(i:Int) < (i:Int):=Oo;clear KT;go_wp2_with fail
   go_ret;simp
theorem kW{α:Type}{l:List α}{d:α}(h:i < l.length):l.getD i d=l[i]:=by rw[gD,bC h,Option.getD_some]
theorem jM{α:Type}{l:List α}{d:α}(h:i < l.length):l.getD i d∈l:=by rw[kW h];exact gM h
theorem qAO(h:i < k):(upL k).getD i 0=(i:Int):=by
 unfold upL;rw[kW (by simpa using h)];simp
theorem kX{x:Int}:x∈upL k↔0<=x/\x < (k:Int):=y7
theorem YJ(k:Nat):(upL k).Pairwise (·< ·):=by
 unfold upL;exact List.pairwise_map.2 (List.pairwise_lt_range.imp λh=>Int.ofNat_lt.2 h)
theorem qE9{q:Nat}(h:EdG q vs):shr (upL q) vs=vs:=
 uc (qFv (YJ q)) h.1 λv=>⟨λhv=>Yu hv,λhv=>List.mem_filter.2 ⟨kX.2 (h.2 v hv),decide_eq_true hv⟩⟩
theorem qDx(h:r.length=n):atP r ((List.range n).map Int.ofNat)=r:=by
 unfold atP;refine List.ext_getElem (by simp[h]) λi hi I=>?_;simp only[List.getElem_map,List.getElem_range];exact kW I
theorem Yz(h:vs.Pairwise (·< ·))(hl:r.length=vs.length):qp vs vs r=r:=by
 rw[<-qDa h h λx I=>I]
 have e:plc (λi=>decide (vs.getD i 0∈vs)) vs.length=(List.range vs.length).map Int.ofNat:=by
  unfold plc;congr 1;rw[List.filter_eq_self];intro i hi;exact decide_eq_true (jM (List.mem_range.1 hi))
 rw[e,qDx hl]
section
variable {q:Nat} {tl:List TbV}
theorem PtG.rows(h:PtG q tl)(M:t∈tl)(r:List Int):r∈(sdO (upL q) (sdT (upL q) t)).rs↔r∈t.rows:=by
 obtain⟨K,I,-⟩:=h.tb t M;show r∈srt (t.rows.map (qp t.vs (shr (upL q) t.vs)))↔_;rw[(yp _ _ (bK _)).2,qE9 I,List.mem_map];constructor
 ·rintro⟨s,hs,e⟩;rw[Yz I.1 (K.rows.len s hs)]at e;rw[<-e];exact hs
 ·exact λhr=>⟨r,hr,Yz I.1 (K.rows.len r hr)⟩
theorem PtG.H(hi:i < q):(sdO (upL q) (sdT (upL q) t)).H i=decide ((i:Int)∈t.vs):=by
 show qN (upL q) (shr (upL q) t.vs) i=_;rw[vA (by rw[y8];exact hi),qAO hi]
theorem PtG.mem(I:t∈tl):sdO (upL q) (sdT (upL q) t)∈yF tl (upL q):=List.mem_map_of_mem (List.mem_map_of_mem I)
theorem PtG.tab(h:PtG q tl):∀t∈tl,zK t=true:=λt M=>by
 obtain⟨I,K,-⟩:=h.tb t M;have h5:=h.q5;have hr:=qEQ I.rows;have O:=I.rows.few;have U:=I.rows.ws;show zd t.vs t.rows t.ws=true;unfold zd;simp only[Bool.and_eq_true,decide_eq_true_eq];exact⟨⟨⟨yW K.1 λx V=>by have:=K.2 x V;omega,by show t.rows.length<=10000;have h9:t.rows.length<=9:=O;omega⟩,hr⟩,U⟩
theorem PtG.ord(h:PtG q tl):xu tl (upL q)=true:=by
 rw[vh];have U:=h.q5
 have e:vrJ tl=upL q:=uc (Ut _ _) (YJ q) λv=>by
  rw[kX];show v∈plc (qy tl) 6↔_;rw[jl];constructor
  ·rintro⟨i,-,K,rfl⟩;obtain⟨t,I,M⟩:=List.any_eq_true.1 K;exact(h.tb t I).2.1.2 _ (of_decide_eq_true M)
  ·intro hv;obtain⟨t,I,O⟩:=h.cov v.toNat Oo;exact⟨v.toNat,Oo,List.any_eq_true.2 ⟨t,I,decide_eq_true O⟩,Oo⟩
 rw[e]
theorem PtG.ok(h:PtG q tl):okJ tl (upL q)=true:=by
 have I:=h.n7;unfold okJ;rw[h.ord,Bool.and_true,bA,dE,bY];exact⟨Oo,h.tab⟩
theorem Jf:∀{l:List Int} {a b:Int},a<=b->l.Pairwise (·< ·)->(∀x∈l,a<=x/\x < b)->(l.length:Int)<=b - a
 |[],a,b,hab,_,_=>by simp;omega
 |x::l,a,b,_,h,hx=>by
  have M:=hx x List.mem_cons_self;have I:=List.pairwise_cons.1 h;have:=Jf (l:=l) (a:=x+1) (b:=b) Oo I.2 λy K=>⟨by have:=I.1 y K;omega,(hx y (mC _ K)).2⟩;rw[List.length_cons];omega
theorem Y5{α β:Type}{f:α->List β}{m:Nat}:∀{l:List α},(∀a∈l,(f a).length<=m)->(l.flatMap f).length<=m*l.length
 |[],_=>Ss
 |a::l,h=>by
  have I:=h a List.mem_cons_self;have K:=Y5 (l:=l) λb hb=>h b (mC _ hb);rw[List.flatMap_cons,lA,List.length_cons,Nat.mul_succ];omega
theorem PtG.size(h:PtG q tl):∀i,i<=q->(lvJ tl (upL q) i).length<=3 ^ i
 |0,_=>ZM _ _
 |i+1,hi=>by
  have O:=h.size i Oo;rw[Uq];refine bQ (Y5 (m:=3) λp hp=>?_) (by rw[Nat.pow_succ,Nat.mul_comm];exact Nat.mul_le_mul_right _ O);rw[lM];have M:=qAA p hp;have U:=Xp p hp
  have:=Jf (a:=0) (b:=3) Dd (Ul (uK tl (upL q)) M) λv hv=>by
   have V:=M.snoc (uK _ _) hv;obtain⟨t,K,hx⟩:=h.cov p.length Oo;have I:=V _ (PtG.mem K);rw[y9,if_pos (by rw[PtG.H Oo];exact decide_eq_true hx)]at I;rcases I with I|⟨r,hr,I⟩
   ·simp at I
   ·exact(h.tb t K).1.lt r ((h.rows K r).1 hr) v (I.subset Ss)
  unfold nxJ;omega
theorem PtG.sm(h:PtG q tl):smJ tl (upL q) q=true:=by
 unfold smJ;rw[bY];intro i hi;rw[List.mem_range]at hi;have I:=h.q5;exact decide_eq_true (bQ (h.size (i+1) Oo) (bQ (Nat.pow_le_pow_right Dd (show i+1<=5 by omega)) Dd))
theorem PtG.vis(h:PtG q tl):yG tl (upL q)=(viJ tl (upL q) q:Int):=by
 unfold yG;rw[y8,h.ok,h.sm];rfl
theorem Jg(f:Nat->Nat):∀q:Nat,0 < q->∃i,i < q/\((List.range q).map f).sum<=q*f i
 |0,h=>absurd h (Nat.lt_irrefl _)
 |1,_=>⟨0,Nat.one_pos,Ss⟩
 |q+2,_=>by
  obtain⟨i,hi,h⟩:=Jg f (q+1) (Nat.succ_pos _);rw[List.range_succ,mA,List.sum_append,List.map_singleton,List.sum_singleton];by_cases e:f i<=f (q+1)
  ·refine⟨q+1,Oo,?_⟩;have:=Nat.mul_le_mul_left (q+1) e;rw[show q+2=(q+1)+1 from rfl,Nat.succ_mul];omega
  ·refine⟨i,Oo,?_⟩;rw[show q+2=(q+1)+1 from rfl,Nat.succ_mul];omega
theorem Vg{u:Nat}(hp:Parts u x)(h0:∀e,e < u->0<=x e):∃(D:Nat) (a:Nat->Nat),1<=D/\∀e,e < u->(((a e:Nat):Int):Rat)=x e*(((D:Nat):Int):Rat):=by
 obtain⟨D,hD,-,hw⟩:=hp
 have key:∀e,e < u->∃k:Nat,(((k:Nat):Int):Rat)=x e*(((D.natAbs:Nat):Int):Rat):=λe I=>by
  obtain⟨z,K,-⟩:=hw e I;have V:=h0 e I;rcases Int.lt_or_gt_of_ne hD with hn|hp
  ·have M:(0:Rat)<=((-D:Int):Rat):=by
    have:=Rat.intCast_le_intCast.2 (show(0:Int)<=-D by omega);simpa using this
   have h3:x e*((-D:Int):Rat)=((-z:Int):Rat):=by rw[Rat.intCast_neg,Rat.intCast_neg,<-K];grind
   have O:(0:Rat)<=((-z:Int):Rat):=by rw[<-h3];exact Rat.mul_nonneg V M
   have U:=Rat.intCast_nonneg.1 O;exact⟨(-z).toNat,by rw[Int.toNat_of_nonneg U,<-h3,show((D.natAbs:Nat):Int)=-D by omega]⟩
  ·have M:(0:Rat)<=(D:Rat):=by
    have:=Rat.intCast_le_intCast.2 (Int.le_of_lt hp);simpa using this
   have O:(0:Rat)<=(z:Rat):=by rw[<-K];exact Rat.mul_nonneg V M
   have U:=Rat.intCast_nonneg.1 O;exact⟨z.toNat,by rw[Int.toNat_of_nonneg U,<-K,show((D.natAbs:Nat):Int)=D by omega]⟩
 exact⟨D.natAbs,λe=>if I:e < u then (key e I).choose else 0,Oo,λe I=>by
  show((((if I:e < u then (key e I).choose else 0:Nat):Nat):Int):Rat)=_;rw[dif_pos I];exact(key e I).choose_spec⟩
theorem YK{x:Nat->Rat}{a:Nat->Nat}{d:Rat}(p:Nat->Bool):∀u:Nat,(∀e,e < u->(((a e:Nat):Int):Rat)=x e*d)->((((((List.range u).filter p).map a).sum:Nat):Int):Rat)=msk u p x*d
 |0,_=>by unfold msk;simp[Cov.sm]
 |u+1,h=>by
  have I:=YK (x:=x) (a:=a) (d:=d) p u λe K=>h e Oo;have M:=h u Oo;unfold msk at I ⊢;rw[List.range_succ,List.filter_append,mA,List.sum_append];show _=(Cov.sm u _+_)*d;rw[Int.natCast_add,Rat.intCast_add,I];cases hp:p u
  ·simp[hp];grind
  ·simp[hp];grind
theorem qCf(h:(((m:Nat):Int):Rat)<=(((k:Nat):Int):Rat)):m<=k:=by
 have:=Rat.intCast_le_intCast.1 h;omega
theorem eq_of_rat {m k : Nat} (h : (((m : Nat) : Int) : Rat) = (((k : Nat) : Int) : Rat)) : m = k := by
  have := Rat.intCast_inj.1 h
  omega
theorem PtG.bound(h:PtG q tl)(hn:∀t∈tl,t.rows.length<=n)(hX:qY (upL q).length (tl.map TbV.vs).length (inc (qG (upL q) (tl.map TbV.vs))) x)(hP:Parts (tl.map TbV.vs).length x):
 (viJ tl (upL q) q) ^ (Cov.sm (tl.map TbV.vs).length x).den<=q ^ (Cov.sm (tl.map TbV.vs).length x).den*n ^ (Cov.sm (tl.map TbV.vs).length x).num.toNat:=by
 obtain⟨D,a,hD,ha⟩:=Vg hP hX.1.1;have hle:(tl.map TbV.vs).length=tl.length:=by rw[lM]
 have a3:∀r,r < q->1<=msk tl.length (λe=>decide ((r:Int)∈(tl.getD e qC).vs)) x:=λr hr=>by
  have:=qCx hX (r:=r) (by rw[y8];exact hr);rw[hle,qAO hr]at this;rw[qBs (P:=λe=>decide ((r:Int)∈(tl.map TbV.vs).getD e [])) λe O=>?_]
  ·exact this
  ·rw[gD (l:=tl.map TbV.vs),bN,gD,bC O];rfl
 rw[hle]at ha ⊢;have a4:msk tl.length (λ_=>true) x=Cov.sm tl.length x:=by unfold msk;exact Cov.sm_congr λe _=>if_pos rfl
 have I:=YK (x:=x) (a:=a) (λ_=>true) tl.length ha;rw[a4,List.filter_eq_self.2 λ_ _=>rfl]at I;generalize hA:((List.range tl.length).map a).sum=A at I;have U:0<=Cov.sm tl.length x:=Cov.sm_nonneg λe O=>hX.1.1 e (by rw[hle];exact O)
 have hw:(Cov.sm tl.length x).num.toNat*D=(Cov.sm tl.length x).den*A:=by
  generalize Cov.sm tl.length x=s at *;refine eq_of_rat ?_;have h1:(s.num:Rat)=s*((s.den:Int):Rat):=(Qb s).symm;rw[Int.natCast_mul,Int.natCast_mul,Rat.intCast_mul,Rat.intCast_mul,I,Int.toNat_of_nonneg (Rat.num_nonneg.2 U),h1];grind
 have hM:∀j,j<=q->(lvJ tl (upL q) j).length ^ (Cov.sm tl.length x).den<=n ^ (Cov.sm tl.length x).num.toNat:=λj hj=>by
  refine Jj hD ?_ hw;unfold lvJ;split
  ·show 0 ^ D<=_;rw[Nat.zero_pow Oo];exact nZ _
  ·rename_i hemp
   have a5:∀t∈tl,0 < t.rows.length:=λt M=>by
    rcases Nat.eq_zero_or_pos t.rows.length with e|e
    ·exfalso;refine hemp ?_;unfold xB;rw[List.any_eq_true];exact⟨t,M,decide_eq_true e⟩
    ·exact e
   obtain⟨T,hT⟩:∃T:List (Sd×Nat),T=(List.range tl.length).map λe=>(sdO (upL q) (sdT (upL q) (tl.getD e qC)),a e):=⟨_,rfl⟩
   have V:T.map Prod.fst=yF tl (upL q):=by
    rw[hT,List.map_map];unfold yF;rw[List.map_map];refine List.ext_getElem Ss λi h1 h2=>?_;have hi:i < tl.length:=by simpa using h2
    simp only[List.getElem_map,List.getElem_range,Function.comp_apply];rw[kW hi]
   have a2:(T.map Prod.snd).sum=A:=by
    rw[<-hA,hT,List.map_map];rfl
   have K:∀t∈T,∃s∈tl,t.1=sdO (upL q) (sdT (upL q) s):=λt M=>by
    rw[hT]at M;obtain⟨e,O,rfl⟩:=List.mem_map.1 M;exact⟨_,jM (List.mem_range.1 O),rfl⟩
   rw[<-a2];show(xt (xA (yF tl (upL q))) [] j).length ^ D<=_;rw[<-V];refine qBc (λt M=>?_) (λt M=>?_) hD (λt M=>?_) (λi hi=>?_)
   ·obtain⟨s,hs,e⟩:=K t M;rw[e];exact uK tl (upL q) _ (PtG.mem hs)
   ·obtain⟨s,hs,e⟩:=K t M;rw[e];exact List.length_pos_of_mem ((h.rows hs _).2 (gM (a5 s hs)))
   ·obtain⟨s,hs,e⟩:=K t M;rw[e];exact bQ (ud (upL q) s) (hn s hs)
   ·have e1:((T.filter λt=>t.1.H i).map Prod.snd)=((List.range tl.length).filter λe=>decide ((i:Int)∈(tl.getD e qC).vs)).map a:=by
     rw[hT,List.filter_map,List.map_map];refine congrArg _ ?_|>.trans (List.map_congr_left λ_ _=>rfl);refine List.filter_congr λe O=>?_;exact PtG.H Oo
    rw[e1];have h2:=YK (x:=x) (a:=a) (λe=>decide ((i:Int)∈(tl.getD e qC).vs)) tl.length ha;refine qCf ?_;rw[h2];have h3:=a3 i Oo;have h4:(0:Rat)<=(((D:Nat):Int):Rat):=Rat.intCast_nonneg.2 Oo;have:=Rat.mul_le_mul_of_nonneg_right h3 h4;grind
 obtain⟨i,hi,hs⟩:=Jg (λi=>(lvJ tl (upL q) (i+1)).length) q (by have:=h.q2;omega);refine bQ (Nat.pow_le_pow_left hs _) ?_;rw[Nat.mul_pow];exact Nat.mul_le_mul_left _ (hM (i+1) Oo)
end
theorem Ux(w:World)(vt:Value)(tl:List TbV)(h:ITs w vt tl)(hl:tl.length<=1000)(a4:∀t∈tl,TvJ t):
 Cl 21 #[vt] w λe w'=>∃v,e=.returned v/\w'.ownsRow w.heap.size 3 1 v (vrJ tl).length ((vrJ tl).map (Value.int .i64))/\Bl w w':=by
 obtain⟨at',ct,rfl,hc⟩:=h;have O:Hid (∀j,j < tl.length->TvJ (tl.getD j qC)):=hid λj hj=>a4 _ (by rw[gD,bC hj];exact gM _)
 have HC:Hid (∀W,Bl w W->∀j,j < tl.length->∃b oo,at'=some ⟨b,oo,none⟩/\TabAt W b (oo+j*3) (tl.getD j qC)):=hid λW hW j hj=>by
  rcases hc with h0|⟨b,oo,rfl,h⟩
  ·omega
  ·exact⟨b,oo,rfl,(h j hj).below hW⟩
 have HV:Hid (∀j,j < tl.length->plc (λi:Nat=>decide ((i:Int)∈vrJ (tl.take j))||decide ((i:Int)∈(tl.getD j qC).vs)) 6=vrJ (tl.take (j+1))):=hid λj hj=>qDJ hj;have U:Hid (vrJ (tl.take tl.length)=vrJ tl):=hid (by rw[tL]);have a9:Hid (vrJ (tl.take 0)=[]):=hid rfl;obtain⟨n,hn⟩:∃n,n=tl.length:=⟨_,rfl⟩;rw[<-hn]at hl HC O HV U ⊢;clear hn hc a4;go_enter Tryz.func21,Tryz.ntmps21
 go_upto_region 2 with fail
 have V:Hid (Bl w (w.alloc (.cells #[] 3))/\(w.alloc (.cells #[] 3)).ownsRow w.heap.size 3 1 (.slice (some ⟨w.heap.size,0,none⟩) 0 0) 0 []):=hid ⟨(bM _ _).alloc (bK _) _,oM w #[] 0 (bK _) Dd rfl⟩;generalize w.alloc (.cells #[] 3)=W1 at *;go_wp2_with fail
 go_loopw [3,9] (λu t wr=>∃(j:Nat) (vv:Value),j<=n/\t=.int .i64 j/\vv=u/\Hid (Bl w wr/\wr.ownsRow w.heap.size 3 1 vv (vrJ (tl.take j)).length ((vrJ (tl.take j)).map (Value.int .i64)))) (λ_ t _=>n - (intOf t).toNat)
 case atStart=>exact⟨0,_,nZ _,rfl,rfl,hid ⟨V.out.1,by rw[a9.out];exact V.out.2⟩⟩
 case round=>
  clear V;obtain⟨j,vv,b7,rfl,rfl,M⟩:=hrel;by_cases a3:j < n
  ·have i1:(j:Int) < (n:Int):=Oo;obtain⟨b,oo,ea,v0,v1,v2,c0,c1,c2,hI⟩:=HC.out wr M.out.1 j a3;subst ea;have b0:=hid (HV.out j a3);have b9:=(O.out j a3).vs;obtain⟨a0,k0,e0,h0⟩:=hI.vs;obtain⟨a1,k1,e1,-⟩:=hI.rows;obtain⟨a2,k2,e2,-⟩:=hI.ws;have a5:=hI.vs;subst e0 e1 e2;generalize tl.getD j qC=tb at *;obtain⟨W3,I⟩:∃W3,W3=wr.alloc (.cells #[.slice a0 tb.vs.length k0,.slice a1 tb.rows.length k1,.slice a2 tb.ws.length k2] 34):=⟨_,rfl⟩;have K:Bl wr W3:=by rw[I];exact(bM _ _).alloc (bK _) _
   have d0:W3.cell? ⟨wr.heap.size,0,none⟩=some (.slice a0 tb.vs.length k0):=by rw[I,cA _ _ _ _ rfl];rfl
   have KU:=hid (jZ W3 vv (.slice a0 tb.vs.length k0) (vrJ (tl.take j)) tb.vs (qK (qB M.out.2 K)) (a5.below K) (bQ (jk _) Dd) Oo);rw[b0.out]at KU;have a6:=hid (bt M.out.1 K);obtain⟨av,kv,ev⟩:=jG M.out.2;subst ev;clear K hI a5 M h0;generalize tb.vs.length=n0 at *;generalize (vrJ (tl.take j)).length=lv at *;go_upto_region 5 with fail
   rw[<-I];clear I c0 c1 c2;go_wp2_with fail
   refine KU.out.mono ?_;rintro e w4 ⟨v4,rfl,a7,a8⟩;have HN:Hid (Bl w w4/\w4.ownsRow w.heap.size 3 1 v4 (vrJ (tl.take (j+1))).length ((vrJ (tl.take (j+1))).map (Value.int .i64))):=hid ⟨bt a6.out a8,qF a7 a6.out.size⟩;clear a7 a8 KU;go_wp2_with fail
   go_roundw
   case rel=>exact⟨j+1,_,Oo,Gg,rfl,HN⟩
   case measure=>simp[intOf];omega
  ·obtain rfl:j=n:=Oo;have i1:¬((j:Int) < (j:Int)):=Oo;rw[U.out]at M;clear HC O HV U;go_wp2_with fail
   go_ret;exact⟨vv,rfl,M.out.2,M.out.1⟩
theorem Jz(w:World)(vt vo:Value)(tl:List TbV)(o:List Int)(h:ITs w vt tl)(ho:IS w vo o)(hl:tl.length<=1048576)(g4:o.length<=1048576)(hr:∀j,j < tl.length->TvS (tl.getD j qC)):
 Cl 7 #[vt,vo] w λe w'=>∃v,e=.returned (.tuple #[v,.int .i64 (yG tl o)])/\ISS w' v (yg tl o)/\Bl w w':=by
 have O:=hid h;have HO:=hid ho;have HR:=hid hr;obtain⟨at',ct,rfl,hc⟩:=h;obtain⟨ao,co,rfl,-⟩:=ho
 have HC:Hid (∀W,Bl w W->∀j,j < tl.length->∃b oo,at'=some ⟨b,oo,none⟩/\TabAt W b (oo+j*3) (tl.getD j qC)):=hid λW hW j hj=>by
  rcases hc with h0|⟨b,oo,rfl,h⟩
  ·omega
  ·exact⟨b,oo,rfl,(h j hj).below hW⟩
 have HA:Hid (∀j,j < tl.length->zK (tl.getD j qC)=false->okJ tl o=false):=hid λj hj hf=>by
  unfold okJ;have:tl.all zK=false:=List.all_eq_false.2 ⟨tl.getD j qC,by rw[gD,bC hj];exact gM _,by rw[hf];decide⟩;rw[this,Bool.and_false,Bool.false_and]
 have a6:Hid (8 < tl.length->okJ tl o=false):=hid λh8=>by unfold okJ;rw[decide_eq_false Oo];rfl
 have K:Hid ((∀j,j < tl.length->zK (tl.getD j qC)=true)->tl.length<=8->(okJ tl o=xu tl o)/\∀t∈tl,TvJ t):=hid λhj h8=>by
  have a9:∀t∈tl,zK t=true:=λt ht=>by
   obtain⟨i,hi,e⟩:=gO ht;have:=hj i hi;rw[gD,bC hi]at this;rw[<-e];exact this
  refine⟨?_,λt ht=>jm (a9 t ht)⟩;unfold okJ;rw[decide_eq_true h8,bY.2 a9];rfl
 have U:Hid (xu tl o=(decide (o.length=(vrJ tl).length)&&jU (vrJ tl) o)):=hid rfl;have V:Hid (okJ tl o=false->yg tl o=[]/\yG tl o=-1):=hid qAC;have b7:Hid (okJ tl o=true->yg tl o=(if smJ tl o o.length then lvJ tl o o.length else [])/\yG tl o=(if smJ tl o o.length then (viJ tl o o.length:Int) else -1)):=hid ZN;have b0:Hid (xu tl o=true->QL tl o):=hid Uu;have e3:Hid (xu tl o=true->o.length<=6):=hid λh=>by have h1:=(vh.1 h).length_eq;have:=jk tl;omega
 have KJ:Hid (∀W,Bl w W->okJ tl o=true->Cl 23 #[.slice at' tl.length ct,.slice ao o.length co] W λe w'=>∃v,e=.returned (.tuple #[v,.int .i64 (yG tl o)])/\ISS w' v (yg tl o)/\Bl W w'):=hid λW hW hy=>by
  have a3:=hy;unfold okJ at a3;rw[bA,bA,dE,bY]at a3;have:=Uw W _ _ tl o (O.out.below hW) (HO.out.below hW) Oo (by have:=e3.out a3.2;omega) (λt ht=>jm (a3.1.2 t ht)) (b0.out a3.2);rw[<-(b7.out hy).1,<-(b7.out hy).2]at this;refine this.mono ?_;rintro e w' ⟨v,rfl,h1,h2⟩;exact⟨v,rfl,h1.self,h2⟩
 have KV:Hid (∀W,Bl w W->tl.length<=8->(∀t∈tl,TvJ t)->Cl 21 #[.slice at' tl.length ct] W λe w'=>∃v,e=.returned v/\w'.ownsRow W.heap.size 3 1 v (vrJ tl).length ((vrJ tl).map (Value.int .i64))/\Bl W w'):=hid λW hW h8 h1=>Ux W _ tl (O.out.below hW) Oo h1;have KS:Hid (∀W v,Bl w W->IS W v (vrJ tl)->Cl 22 #[v,.slice ao o.length co] W λe w'=>e=.returned (.bool (jU (vrJ tl) o))/\w'=W):=hid λW v hW hv=>JA W v _ _ _ hv (bQ (jk tl) Dd) (HO.out.below hW) Oo;obtain⟨n,hn⟩:∃n,n=tl.length:=⟨_,rfl⟩;rw[<-hn]at hl HC HR HA a6 K KJ KV ⊢;clear hn hc hr O HO b7 b0 e3;obtain⟨no,e4⟩:∃no,no=o.length:=⟨_,rfl⟩;rw[<-e4]at g4 U KJ KS ⊢;clear e4;obtain⟨RJ,e6⟩:∃RJ,RJ=yg tl o:=⟨_,rfl⟩;obtain⟨VJ,e7⟩:∃VJ,VJ=yG tl o:=⟨_,rfl⟩;rw[<-e6,<-e7]at V KJ ⊢;clear e6 e7;by_cases h8:n<=8
 ·have q8:¬((8:Int) < (n:Int)):=Oo;go_enter Tryz.func7,Tryz.ntmps7
  go_upto_block 0 with fail
  go_wp2_with fail
  go_loopw [15] (λt wr=>∃(j:Nat),j<=n/\t=.int .i64 j/\Hid ((∀i,i < j->zK (tl.getD i qC)=true)/\Bl w wr)) (λt _=>n - (intOf t).toNat)
  case atStart=>exact⟨0,nZ _,rfl,hid ⟨λi hi=>Oo,bM _ _⟩⟩
  case round=>
   obtain⟨j,h3,rfl,HT⟩:=hrel;by_cases b9:j < n
   ·have i1:(j:Int) < (n:Int):=Oo;obtain⟨b,oo,ea,v0,v1,v2,c0,c1,c2,hI⟩:=HC.out wr HT.out.2 j b9;subst ea;have c7:=hid (HR.out j b9);have e8:=hid (HA.out j b9);obtain⟨W3,a7⟩:∃W3,W3=wr.alloc (.cells #[v0,v1,v2] 34):=⟨_,rfl⟩;have c8:Bl wr W3:=by rw[a7];exact(bM _ _).alloc (bK _) _
    have c9:Hid (TX W3 wr.heap.size v0 v1 v2):=hid (by rw[a7];exact TX.made _ _ _ _);have KT:=hid (YG W3 v0 v1 v2 _ _ _ (hI.below c8) c7.out.vs c7.out.rows);have e9:=hid (bt HT.out.2 c8);have HP:=hid HT.out.1;obtain⟨a0,k0,e0,-⟩:=hI.vs;obtain⟨a1,k1,e1,-⟩:=hI.rows;obtain⟨a2,k2,e2,-⟩:=hI.ws;subst e0 e1 e2;have ey:zd (tl.getD j qC).vs (tl.getD j qC).rows (tl.getD j qC).ws=zK (tl.getD j qC):=rfl;rw[ey]at KT
    have f4:Hid (zK (tl.getD j qC)=true->∀i,i < j+1->zK (tl.getD i qC)=true):=hid λhy i hi=>by
     by_cases e:i=j
     ·rw[e];exact hy
     ·exact HP.out i Oo
    generalize zK (tl.getD j qC)=y at KT e8 f4;generalize (tl.getD j qC).rows.length=nr at *;generalize (tl.getD j qC).vs.length=n0 at *;generalize (tl.getD j qC).ws.length=n2 at *;clear c8 hI HT ey c7;have d0:=c9.out.c0;have d1:=c9.out.c1;have d2:=c9.out.c2;go_upto_region 6 with fail
    rw[<-a7];clear a7 c0 c1 c2;cases y
    ·have I:=hid (V.out (e8.out rfl));go_wp2_with (first|(go_at_call 20;refine KT.out.mono ?_;rintro e w4 ⟨rfl,a8⟩)|fail)
     go_ret2;exact⟨_,by rw[I.out.2];rfl,by rw[I.out.1];exact⟨_,0,rfl,Or.inl rfl⟩,xW (bt e9.out a8) _⟩
    ·go_wp2_with (first|(go_at_call 20;refine KT.out.mono ?_;rintro e w4 ⟨rfl,a8⟩)|fail)
     have HN:Hid ((∀i,i < j+1->zK (tl.getD i qC)=true)/\Bl w w4):=hid ⟨f4.out (by trivial),bt e9.out a8⟩;clear a8 KT;go_roundw
     case rel=>exact⟨j+1,Oo,Gg,HN⟩
     case measure=>simp[intOf];omega
   ·obtain rfl:j=n:=Oo;have i1:¬((j:Int) < (j:Int)):=Oo;obtain⟨d6,f7⟩:=K.out HT.out.1 h8;have d7:=hid (KV.out wr HT.out.2 h8 f7);have HB:=hid HT.out.2;rw[U.out]at d6;have M:=hid d6;clear d6 f7 HT K HC HA a6 KV HR U;obtain⟨nv,d8⟩:∃nv,nv=(vrJ tl).length:=⟨_,rfl⟩;rw[<-d8]at d7 M;have g5:=hid d8;clear d8;go_upto_region 10 with (first|(go_at_call 21;refine d7.out.mono ?_;rintro e w5 ⟨v5,rfl,d9,f8⟩)|fail)
    obtain⟨a5,k5,e5⟩:=jG d9;subst e5;have a4:=hid (bt HB.out f8);have f9:=hid (KS.out w5 _ a4.out (qK (by rw[<-g5.out];exact d9)));have g2:=hid (KJ.out w5 a4.out);clear f8 KS KJ d7 d9;by_cases hle:no=nv
    ·subst hle;have q1:((no:Int) != (no:Int))=false:=Ss;rw[decide_eq_true rfl,Bool.true_and]at M;generalize jU (vrJ tl) o=y at *;cases y
     ·have I:=hid (V.out M.out);go_wp2_with (first|(go_at_call 22;refine f9.out.mono ?_;rintro e w6 ⟨rfl,g6⟩;subst w6)|fail)
      go_ret2;exact⟨_,by rw[I.out.2];rfl,by rw[I.out.1];exact⟨_,0,rfl,Or.inl rfl⟩,xW a4.out _⟩
     ·have g7:=hid (g2.out M.out);clear g2;go_wp2_with (first|(go_at_call 22;refine f9.out.mono ?_;rintro e w6 ⟨rfl,g6⟩;subst w6)|(go_at_call 23;refine g7.out.mono ?_;rintro e w7 ⟨v7,rfl,g8,g9⟩)|fail)
      go_ret2;exact⟨v7,rfl,g8,bt a4.out g9⟩
    ·have q1:((no:Int) != (nv:Int))=true:=by simp;omega
     rw[decide_eq_false hle,Bool.false_and]at M;have I:=hid (V.out M.out);go_wp2_with fail
     go_ret2;exact⟨_,by rw[I.out.2];rfl,by rw[I.out.1];exact⟨_,0,rfl,Or.inl rfl⟩,xW a4.out _⟩
 ·have q8:((8:Int) < (n:Int)):=Oo;have I:=hid (V.out (a6.out Oo));clear HC HA a6 K KJ KV KS;go_enter Tryz.func7,Tryz.ntmps7
  go_wp2_with fail
  go_ret2;exact⟨_,by rw[I.out.2];rfl,by rw[I.out.1];exact⟨_,0,rfl,Or.inl rfl⟩,xW (bM _ _) _⟩
section
variable {q:Nat} {tl:List TbV}
theorem PtG.set(h:PtG q tl):qL (upL q)=true:=by
 have:=h.q5;exact yW (YJ q) λx I=>by have:=kX.1 I;omega
theorem PtG.edges(h:PtG q tl):qj (tl.map TbV.vs)=true:=by
 have K:=h.n7;have O:=h.q5;unfold qj;rw[bA,dE,bY];refine⟨by rw[lM];exact K,λl hl=>?_⟩;obtain⟨t,I,rfl⟩:=List.mem_map.1 hl;exact yW (h.tb t I).2.1.1 λx M=>by have:=(h.tb t I).2.1.2 x M;omega
theorem PtG.cover(h:PtG q tl):ql (upL q) (tl.map TbV.vs)=true:=by
 unfold ql;rw[bY];intro x I;have K:=kX.1 I;obtain⟨t,M,hv⟩:=h.cov x.toNat Oo;rw[List.any_eq_true];exact⟨t.vs,List.mem_map_of_mem M,decide_eq_true (by rw[show((x.toNat:Nat):Int)=x by omega]at hv;exact hv)⟩
theorem PtG.short(h:PtG q tl):zS (tl.map TbV.vs):=by
 refine⟨by rw[lM];have:=h.n7;omega,λi=>?_⟩;rw[gD];cases e:(tl.map TbV.vs)[i]? with
 |none=>exact nZ _
 |some l=>
  have:=xq (bY.1 (Bool.and_eq_true_iff.1 (show(decide ((tl.map TbV.vs).length<=7)&&(tl.map TbV.vs).all qL)=true from h.edges)).2 l (List.mem_of_getElem? e));show l.length<=_;omega
theorem PtG.tvs(h:PtG q tl):∀t∈tl,TvS t:=λt M=>by
 obtain⟨I,K,-⟩:=h.tb t M;have hs:=xq (yW K.1 λx O=>by have:=K.2 x O;have:=h.q5;omega);have U:t.rows.length<=9:=I.rows.few;have V:t.ws.length=t.rows.length:=I.rows.ws;refine⟨Oo,⟨Oo,λi=>?_⟩,Oo⟩;rw[gD];cases e:t.rows[i]? with
 |none=>exact nZ _
 |some r=>have:r.length=t.vs.length:=I.rows.len r (List.mem_of_getElem? e);show r.length<=_;omega
structure CvW(q:Nat)(tl:List TbV)(x:Nat->Rat)(u d:Nat):Prop where
 best:qY (upL q).length (tl.map TbV.vs).length (inc (qG (upL q) (tl.map TbV.vs))) x
 part:Parts (tl.map TbV.vs).length x
 eu:u=(Cov.sm (tl.map TbV.vs).length x).num.toNat
 ed:d=(Cov.sm (tl.map TbV.vs).length x).den
 u60:u<=36000
 d60:d<=36000
 spec:∀W vb ve,IS W vb (upL q)->ISS W ve (tl.map TbV.vs)->Cl 5 #[vb,ve] W λe w'=>∃a0 n0 c0 a1 n1 c1,e=.returned (.agg #[.bool true,.int .i64 u,.int .i64 d,.slice a0 n0 c0,.slice a1 n1 c1])/\Bl W w'
 impl:∀W vb ve,IS W vb (upL q)->ISS W ve (tl.map TbV.vs)->Cl 8 #[vb,ve] W λe w'=>∃a0 n0 c0 a1 n1 c1,e=.returned (.agg #[.bool true,.int .i64 u,.int .i64 d,.slice a0 n0 c0,.slice a1 n1 c1])/\Bl W w'
theorem PtG.cvw(h:PtG q tl){vb ve:Value}(hb:IS w vb (upL q))(V:ISS w ve (tl.map TbV.vs)):∃x u d,CvW q tl x u d:=by
 have I:(upL q).length<=1099511627776:=by rw[y8];have:=h.q5;omega
 obtain⟨_,_,x,y,_,_,_,U,hY,K,a4,_⟩:=Zv (Qz w vb ve (upL q) (tl.map TbV.vs) hb V I h.short h.set h.edges h.cover);have O:0<=(Cov.sm (tl.map TbV.vs).length x).num:=Rat.num_nonneg.2 (Cov.sm_nonneg λe V=>U.1.1 e V);have a2:msk (tl.map TbV.vs).length (λ_=>true) x=Cov.sm (tl.map TbV.vs).length x:=by unfold msk;exact Cov.sm_congr λe _=>if_pos rfl
 have M:=K.msk (xH h.edges) (λ_=>true);rw[a2]at M;refine⟨x,_,_,U,K,rfl,rfl,by have:=M.1;omega,M.2,λW vb ve h1 h2=>?_,λW vb ve h1 h2=>?_⟩
 ·refine(Xc W vb ve (upL q) (tl.map TbV.vs) x y h1 h2 I h.short (λ_=>⟨U,hY,K⟩)).mono ?_;rintro e w' ⟨⟨h4,_⟩|⟨_,uW,uD,rfl,⟨a0,c0,rfl,-⟩,⟨a1,c1,rfl,-⟩⟩,hb⟩
  ·rw[h.set,h.edges,h.cover]at h4;cases h4
  ·exact⟨_,_,_,_,_,_,by rw[Int.toNat_of_nonneg O],hb⟩
 ·refine(Qz W vb ve (upL q) (tl.map TbV.vs) h1 h2 I h.short h.set h.edges h.cover).mono ?_;rintro e w' ⟨x',y',vW,vD,rfl,a3,a5,_,_,o1,o2,a6,hb⟩;have ex:=ZD a3 U;obtain⟨a0,c0,rfl⟩:=qW o1;obtain⟨a1,c1,rfl⟩:=qW o2;exact⟨_,_,_,_,_,_,by rw[Cov.sm_congr ex,Int.toNat_of_nonneg O],hb⟩
def mxR(tl:List TbV):Nat:=tl.foldl (λm t=>max m t.rows.length) 1
theorem qDw(l:List TbV)(t:TbV):mxR (l++[t])=max (mxR l) t.rows.length:=by unfold mxR;rw[List.foldl_append];rfl
theorem qAN:∀(l:List TbV) (m:Nat),m<=l.foldl (λm t=>max m t.rows.length) m/\∀t∈l,t.rows.length<=l.foldl (λm t=>max m t.rows.length) m
 |[],m=>⟨bK _,λt K=>by cases K⟩
 |t::l,m=>by
  obtain⟨I,M⟩:=qAN l (max m t.rows.length);refine⟨bQ (Nat.le_max_left _ _) I,λs hs=>?_⟩;rcases List.mem_cons.1 hs with rfl|hs
  ·exact bQ (Nat.le_max_right _ _) I
  ·exact M s hs
theorem qCe{l:List TbV}(h:∀t∈l,t.rows.length<=9):mxR l<=9:=by
 unfold mxR
 have:∀(l:List TbV) (m:Nat),m<=9->(∀t∈l,t.rows.length<=9)->l.foldl (λm t=>max m t.rows.length) m<=9:=by
  intro l;induction l with
  |nil=>exact λm h _=>h
  |cons t l ih=>exact λm K I=>ih _ (by have:=I t List.mem_cons_self;show max m t.rows.length<=9;omega) λs hs=>I s (mC _ hs)
 exact this l 1 Oo h
end
theorem uz{X Y:World}{o:Nat}(hb:Bl X Y)(I:X.cell? ⟨b,o,none⟩=some v):Y.cell? ⟨b,o,none⟩=some v:=(hb.cell (p:=⟨b,o,none⟩) (bL X _ I)).trans I
structure EgS(w W:World)(v:Value)(tl:List TbV)(j:Nat)(us:List Value):Prop where
 bel:Bl w W
 own:W.ownsRow w.heap.size 25 1 v j us
 len:us.length=j
 row:∀i,i < j->IS w (us.getD i undef) (tl.getD i qC).vs
theorem EgS.iss{W:World}{tl:List TbV}{us:List Value}(h:EgS w W v tl tl.length us):ISS W v (tl.map TbV.vs):=by
 rcases h.own.2 with ⟨rfl,K⟩|⟨g,cap,cur,rfl,-⟩
 ·exact⟨none,0,by rw[lM,K],Or.inl (by rw[lM];exact K)⟩
 ·refine⟨_,cap,by rw[lM],Or.inr ⟨g,0,rfl,λj I=>?_⟩⟩;rw[lM]at I
  have e:(tl.map TbV.vs).getD j []=(tl.getD j qC).vs:=by
   rw[gD,gD,bN,bC I];rfl
  refine⟨us.getD j undef,?_,by rw[e];exact(h.row j I).below h.bel⟩;rw[Nat.zero_add,h.own.cellAt j Oo,gD,bC (by have:=h.len;omega)];rfl
theorem Kl(k7:DpC)(w:World)(a:Option Addr)(n cap:Nat)(hB:∀j,j < n->∃b o x,a=some ⟨b,o,none⟩/\w.cell? ⟨b,o+j,none⟩=some (.int .u8 x)/\0<=x/\x < 256)(hn:n<=9223372036854775807):
 Cl 3 #[.slice a n cap] w λe w'=>e=.returned (.bool true)/\Bl w w':=by
 by_cases l9:1048576 < n
 ·have q1:(1048576:Int) < (n:Int):=Oo;clear hB;go_enter Tryz.func3,Tryz.ntmps3
  go_wp2;go_ret;exact⟨rfl,bM _ _⟩
 have q1:¬(1048576:Int) < (n:Int):=Oo;obtain⟨iS,hk,k8,k9,l1⟩:=info_parts Tryz.infoIS;have KD:=hid (Vf k7 w a n cap Oo hB);clear hB;go_enter Tryz.func3,Tryz.ntmps3
 go_upto_region 4 with (first|(go_at_call 4;refine KD.out.mono ?_;rintro e w1 ⟨q,aT,cT,tl,a0,n0,c0,a1,n1,c1,a2,n2,c2,a3,n3,c3,x,y,b0,m0,d0,b1,m1,d1,b2,m2,d2,b3,m3,d3,x',y',rfl,hP,hT,g6⟩)|fail)
 have e5:Bl w1 ((w1.alloc (.cells #[.slice a0 n0 c0,.slice a1 n1 c1,.slice a2 n2 c2,.slice a3 n3 c3,.int .i64 x,.int .i64 y] 30)).alloc (.cells #[.slice b0 m0 d0,.slice b1 m1 d1,.slice b2 m2 d2,.slice b3 m3 d3,.int .i64 x',.int .i64 y'] 30)):=((bM _ _).alloc (bK _) _).alloc Ss _;have e6:=hid (bt g6 e5);have b7:=hid (hT.below e5);have HP:=hid hP;clear g6 hT e5 KD hP;generalize (w1.alloc (.cells #[.slice a0 n0 c0,.slice a1 n1 c1,.slice a2 n2 c2,.slice a3 n3 c3,.int .i64 x,.int .i64 y] 30)).alloc (.cells #[.slice b0 m0 d0,.slice b1 m1 d1,.slice b2 m2 d2,.slice b3 m3 d3,.int .i64 x',.int .i64 y'] 30)=w2 at *;have g7:Hid (EgS w2 (w2.alloc (.cells #[] 25)) (.slice (some ⟨w2.heap.size,0,none⟩) 0 0) tl 0 []):=hid ⟨(bM _ _).alloc (bK _) _,oM w2 #[] 0 (bK _) Dd rfl,rfl,λi hi=>absurd hi (Nat.not_lt_zero _)⟩;have l3:=HP.out.n0;have l4:=HP.out.n7;have b9:Hid (∀t∈tl,t.rows.length<=9):=hid λt ht=>(HP.out.tb t ht).1.rows.few;obtain⟨N,hN⟩:∃N,N=tl.length:=⟨_,rfl⟩;rw[<-hN]at b7 l3 l4 ⊢;have HN:=hid hN;clear hN;generalize w1.heap.size=p1 at *;go_upto_block 0 with fail
 go_wp2_with fail
 go_loopg [7,8,10,30] N (λgk t7 t8 _ t wx=>∃(j:Nat) (us:List Value),t=.int .i64 j/\j<=N/\gk=N - j/\t8=.int .i64 (mxR (tl.take j):Nat)/\Hid (EgS w2 wx t7 tl j us))
 case atStart=>exact⟨0,[],rfl,nZ _,rfl,rfl,g7⟩
 case round=>
  clear g7;obtain⟨j,us,rfl,hj,m4,rfl,U⟩:=hrel;obtain⟨ax,cx,ex⟩:=qW U.out.own;subst ex;have l5:=U.out.bel.size;by_cases m5:j < N
  ·have i1:(j:Int) < (N:Int):=Oo;have c7:j < tl.length:=by have:=HN.out;omega
   obtain⟨bT,oT,ea,y0,l0,z0,y1,z1,y2,l2,z2,k0,k1,k2,g8⟩:∃bT oT,aT=some ⟨bT,oT,none⟩/\∃y0 l0 z0 y1 z1 y2 l2 z2,wr.cell? ⟨bT,oT+j*3,none⟩=some (.slice y0 l0 z0)/\wr.cell? ⟨bT,oT+j*3+1,none⟩=some (.slice y1 (tl.getD j qC).rows.length z1)/\wr.cell? ⟨bT,oT+j*3+2,none⟩=some (.slice y2 l2 z2)/\IS w2 (.slice y0 l0 z0) (tl.getD j qC).vs:=by
    obtain⟨a',c',e',h'⟩:=b7.out;rcases h' with h'|⟨b,o,rfl,h'⟩
    ·omega
    ·cases e'
     obtain⟨v0,v1,v2,g0,g1,g2,c8⟩:=h' j c7;obtain⟨y0,z0,rfl,-⟩:=id c8.vs;obtain⟨y1,z1,rfl,-⟩:=c8.rows;obtain⟨y2,z2,rfl,-⟩:=c8.ws;exact⟨b,o,rfl,y0,_,z0,y1,z1,y2,_,z2,uz U.out.bel g0,uz U.out.bel g1,uz U.out.bel g2,c8.vs⟩
   subst ea;have HV:=hid g8;have e1:tl.take (j+1)=tl.take j++[tl.getD j qC]:=by rw[tA,bC c7,gD,bC c7];rfl
   have HM:Hid (mxR (tl.take (j+1))=max (mxR (tl.take j)) (tl.getD j qC).rows.length):=hid (by rw[e1,qDw]);have l6:=qCe (l:=tl.take j) λt ht=>b9.out t (List.mem_of_mem_take ht);have m6:=b9.out _ (jM (d:=qC) c7);have HW:Hid (Bl w2 (wr.alloc (.cells #[.slice y0 l0 z0,.slice y1 (tl.getD j qC).rows.length z1,.slice y2 l2 z2] 34))):=hid (U.out.bel.alloc l5 _);have HO:Hid ((wr.alloc (.cells #[.slice y0 l0 z0,.slice y1 (tl.getD j qC).rows.length z1,.slice y2 l2 z2] 34)).ownsRow w2.heap.size 25 1 (.slice ax j cx) j us):=hid (U.out.own.alloc _);clear g8 e1;generalize mxR (tl.take j)=mj at *;generalize (tl.getD j qC).rows.length=rw at *;have a5:=heap_alloc_new wr (.cells #[.slice y0 l0 z0,.slice y1 rw z1,.slice y2 l2 z2] 34);go_upto_region 9 with fail
   obtain⟨W3,g9⟩:∃W3,W3=wr.alloc (.cells #[.slice y0 l0 z0,.slice y1 rw z1,.slice y2 l2 z2] 34):=⟨_,rfl⟩;rw[<-g9]at HW HO a5 ⊢;have x0:W3.cell? ⟨wr.heap.size,0,none⟩=some (.slice y0 l0 z0):=by rw[cell_of_row _ _ _ _ _ _ a5];rfl
   have l7:wr.heap.size < W3.heap.size:=zv a5;clear g9 k0 k1 k2;generalize wr.heap.size=pt at *;go_upto_region 10 with (first|(at_builtin;refine wpList_append_lies _ rfl _ _ 24 rfl w2.heap.size 25 iS (.slice none 0 0) 1 24 Tryz.underlying24 hk k8 k9 l1 rfl Dd (.slice ax j cx) j us rfl (HO.out.alloc _) ⟨W3.heap.size,0,none⟩ 1 1 [.slice y0 l0 z0] rfl rfl (zJ _ _ _) (λu hu=>by simp at hu;subst hu;rfl) Dd (by unfold maxLen;omega) Oo (by rw[World.size_alloc];omega) _ rfl ?_;intro g4 c4 w4 a6 K h0 h3)|fail)
   have h4:w4.heap[pt]?=W3.heap[pt]?:=zI K l7 (own_ne HO.out ⟨_,a5⟩ Dd);have x1:w4.cell? ⟨pt,1,none⟩=some (.slice y1 rw z1):=by rw[cell_of_row _ _ _ _ _ _ (h4.trans a5)];rfl
   have HZ:Hid (EgS w2 w4 (.slice (some ⟨g4,0,none⟩) (j+1) c4) tl (j+1) (us++[.slice y0 l0 z0])):=hid ⟨(HW.out.alloc HW.out.size _).grown K (by rw[World.size_alloc];have:=HW.out.size;omega) (λk hk=>(HO.out.lt k hk).1),a6,by simp[U.out.len],λi hi=>by
    by_cases e:i < j
    ·rw[jN (by rw[U.out.len];exact e)];exact U.out.row i e
    ·obtain rfl:i=j:=Oo;have:=kY (l:=us) (x:=Value.slice y0 l0 z0) (d:=undef);rw[U.out.len]at this;rw[this];exact HV.out⟩
   clear a6 K h0 h3 h4 a5 x0 HW HO HV U;by_cases hg:mj < rw
   ·have q2:(mj:Int) < (rw:Int):=Oo;have e2:max mj rw=rw:=Oo;go_wp2_with fail
    go_roundg (N - (j+1))
    case measure=>omega
    case rel=>exact⟨j+1,_,Gg,Oo,rfl,by rw[HM.out,e2],HZ⟩
   ·have q2:¬(mj:Int) < (rw:Int):=Oo;have e2:max mj rw=mj:=Oo;go_wp2_with fail
    go_roundg (N - (j+1))
    case measure=>omega
    case rel=>exact⟨j+1,_,Gg,Oo,rfl,by rw[HM.out,e2],HZ⟩
  ·obtain rfl:j=N:=Oo;have i1:¬(j:Int) < (j:Int):=Oo;have e1:tl.take j=tl:=by rw[HN.out];exact tL
   rw[e1];clear e1
   have e7:ISS wr (.slice ax j cx) (tl.map TbV.vs):=by
    have:=U.out;rw[HN.out]at this ⊢;exact this.iss
   have h5:ITs wr (.slice aT j cT) tl:=b7.out.below U.out.bel;have h6:=hid (e6.out.trans (U.out.bel.mono e6.out.size));have e8:=hid e7;have h7:=hid h5;obtain⟨_,wv,vv,-,h8,i0⟩:=Zv (Q5 wr q (by have:=HP.out.q5;omega));obtain⟨X,u,d,hC⟩:=HP.out.cvw (qK h8) (e7.below i0);have c9:=HP.out.bound (n:=mxR tl) (λt ht=>(qAN tl 1).2 t ht) hC.best hC.part;rw[<-hC.ed,<-hC.eu]at c9;have a4:=HP.out.vis;obtain⟨V,hV⟩:∃V,V=viJ tl (upL q) q:=⟨_,rfl⟩;rw[<-hV]at c9 a4;have l6:mxR tl<=9:=qCe b9.out;have l8:=HP.out.q5;have m7:=hC.u60;have m8:=hC.d60
   have KU:Hid (∀W,Cl 6 #[.int .i64 q] W λe w'=>∃b c,e=.returned (.slice b (upL q).length c)/\IS w' (.slice b (upL q).length c) (upL q)/\Bl W w'):=hid λW=>(Q5 W q Oo).mono λe w' ⟨v,e1,e2,e3⟩=>by
    have h9:=qK e2;obtain⟨b,c,rfl,-⟩:=id h9;exact⟨b,c,e1,h9,e3⟩
   have KS:=hid hC.spec;have KI:=hid hC.impl
   have KJ:Hid (∀W vo,ITs W (.slice aT j cT) tl->IS W vo (upL q)->Cl 7 #[.slice aT j cT,vo] W λe w'=>∃b l c,e=.returned (.tuple #[.slice b l c,.int .i64 (V:Int)])/\Bl W w'):=hid λW vo h1 h2=>(Jz W _ vo tl (upL q) h1 h2 (by have:=HN.out;omega) (by rw[y8];omega) (λi hi=>HP.out.tvs _ (jM hi))).mono λe w' ⟨v,e1,e2,e3⟩=>by
    obtain⟨b,c,rfl,-⟩:=e2;rw[a4]at e1;exact⟨b,_,c,e1,e3⟩
   have KM:Hid (∀W vo,ITs W (.slice aT j cT) tl->IS W vo (upL q)->Cl 9 #[.slice aT j cT,vo] W λe w'=>∃b l c,e=.returned (.tuple #[.slice b l c,.int .i64 (V:Int)])/\Bl W w'):=hid λW vo h1 h2=>(qAr W _ vo tl (upL q) h1 h2 (by have:=HN.out;omega) (by rw[y8];omega) HP.out.tvs).mono λe w' ⟨v,us,e1,e2,e3⟩=>by
    obtain⟨b,c,rfl⟩:=qW e2.own;rw[a4]at e1;exact⟨b,_,c,e1,e3⟩
   obtain⟨P,hP⟩:∃P:Nat->Nat->Nat,P=λx n=>qi (x ^ n):=⟨_,rfl⟩;obtain⟨T,hT⟩:∃T:Nat->Nat->Nat,T=λx n=>qi (x*n):=⟨_,rfl⟩;have i2:Hid (P V d<=T (P q d) (P (mxR tl) u)):=hid (by rw[hP,hT];show qi (V ^ d)<=qi (qi (q ^ d)*qi (mxR tl ^ u));rw[qBR];exact qBQ c9);have KP:Hid (∀(W:World) (x n:Nat),n<=36000->Cl 10 #[.int .i64 x,.int .i64 n] W λe w'=>e=.returned (.int .i64 (P x n:Nat))/\w'=W):=hid λW x n hn=>by rw[hP];exact Je W x n Oo
   have KT:Hid (∀(W:World),Cl 11 #[.int .i64 (P q d:Nat),.int .i64 (P (mxR tl) u:Nat)] W λe w'=>e=.returned (.int .i64 (T (P q d) (P (mxR tl) u):Nat))/\w'=W):=hid λW=>by rw[hT];exact QX W _ _ (by rw[hP];exact Jd _)
   clear hP hT;clear h8 i0 e7 h5 c9 a4 hV hC U b7 e6 b9;generalize mxR tl=mm at *;generalize (upL q).length=lu at *
   go_upto_region 14 with (first
    |(go_at_call 6;refine(KU.out _).mono ?_;rintro e w4 ⟨f0,g0,rfl,i3,d6⟩)
    |(go_at_call 5;refine(KS.out _ _ _ i3 (e8.out.below d6)).mono ?_;rintro e w5 ⟨s0,s1,s2,s3,s4,s5,rfl,e9⟩)
    |fail)
   have I:Bl wr (w5.alloc (.cells #[.bool true,.int .i64 u,.int .i64 d,.slice s0 s1 s2,.slice s3 s4 s5] 36)):=(bt d6 e9).alloc (bt d6 e9).size _;have i4:=hid (bt h6.out I);have i5:=hid (e8.out.below I);have f4:=hid (h7.out.below I);have f7:=heap_alloc_new w5 (.cells #[.bool true,.int .i64 u,.int .i64 d,.slice s0 s1 s2,.slice s3 s4 s5] 36);have x1:(w5.alloc (.cells #[.bool true,.int .i64 u,.int .i64 d,.slice s0 s1 s2,.slice s3 s4 s5] 36)).cell? ⟨w5.heap.size,1,none⟩=some (.int .i64 u):=by rw[cell_of_row _ _ _ _ _ _ f7];rfl
   have x2:(w5.alloc (.cells #[.bool true,.int .i64 u,.int .i64 d,.slice s0 s1 s2,.slice s3 s4 s5] 36)).cell? ⟨w5.heap.size,2,none⟩=some (.int .i64 d):=by rw[cell_of_row _ _ _ _ _ _ f7];rfl
   have f8:=hid (And.intro x1 x2);clear x1 x2 f7 I d6 e9 i3 e8 h7 h6;generalize w5.alloc (.cells #[.bool true,.int .i64 u,.int .i64 d,.slice s0 s1 s2,.slice s3 s4 s5] 36)=w6 at *;generalize w5.heap.size=pc at *
   go_upto_region 15 with (first
    |(go_at_call 6;refine(KU.out _).mono ?_;rintro e w7 ⟨f1,g1,rfl,i6,f9⟩)
    |(go_at_call 7;refine(KJ.out _ _ (f4.out.below f9) i6).mono ?_;rintro e w8 ⟨j0,j1,j2,rfl,i7⟩)
    |fail)
   have I:=bt f9 i7;have i8:=hid (bt i4.out I);have i9:=hid (i5.out.below I);have j6:=hid (f4.out.below I);have g5:=hid (And.intro (uz I f8.out.1) (uz I f8.out.2));clear I f9 i7 i6 i4 i5 f4 f8
   go_upto_region 16 with (first
    |(go_at_call 6;refine(KU.out _).mono ?_;rintro e w9 ⟨f2,g2,rfl,k4,d7⟩)
    |(go_at_call 8;refine(KI.out _ _ _ k4 (i9.out.below d7)).mono ?_;rintro e M ⟨t0,t1,t2,t3,t4,t5,rfl,a7⟩)
    |fail)
   have I:Bl w8 (M.alloc (.cells #[.bool true,.int .i64 u,.int .i64 d,.slice t0 t1 t2,.slice t3 t4 t5] 36)):=(bt d7 a7).alloc (bt d7 a7).size _;have d8:=hid (bt i8.out I);have d9:=hid (j6.out.below I);have a8:=heap_alloc_new M (.cells #[.bool true,.int .i64 u,.int .i64 d,.slice t0 t1 t2,.slice t3 t4 t5] 36);have x1:(M.alloc (.cells #[.bool true,.int .i64 u,.int .i64 d,.slice t0 t1 t2,.slice t3 t4 t5] 36)).cell? ⟨M.heap.size,1,none⟩=some (.int .i64 u):=by rw[cell_of_row _ _ _ _ _ _ a8];rfl
   have x2:(M.alloc (.cells #[.bool true,.int .i64 u,.int .i64 d,.slice t0 t1 t2,.slice t3 t4 t5] 36)).cell? ⟨M.heap.size,2,none⟩=some (.int .i64 d):=by rw[cell_of_row _ _ _ _ _ _ a8];rfl
   have O:=hid (And.intro (And.intro x1 x2) (And.intro (uz I g5.out.1) (uz I g5.out.2)));clear x1 x2 a8 I d7 a7 k4 i9 j6 i8 g5;generalize M.alloc (.cells #[.bool true,.int .i64 u,.int .i64 d,.slice t0 t1 t2,.slice t3 t4 t5] 36)=w11 at *;generalize M.heap.size=pi at *
   go_upto_region 17 with (first
    |(go_at_call 6;refine(KU.out _).mono ?_;rintro e m9 ⟨f3,g3,rfl,e0,a9⟩)
    |(go_at_call 9;refine(KM.out _ _ (d9.out.below a9) e0).mono ?_;rintro e n4 ⟨j3,j4,j5,rfl,e4⟩)
    |fail)
   have I:=bt a9 e4;have k5:=hid (bt d8.out I);have y1:=uz I O.out.1.1;have y2:=uz I O.out.1.2;have y3:=uz I O.out.2.1;have y4:=uz I O.out.2.2;clear I a9 e4 e0 d8 d9 O KU KS KI KJ KM;have n5:((V:Int) != (V:Int))=false:=Ss;go_upto_region 19 with fail
   have hle:((P V d:Nat):Int)<=((T (P q d) (P mm u):Nat):Int):=by have:=i2.out;omega
   clear HP HN l8 y3 y4
   go_quiet (first
    |(go_at_call 10;exact Calls.quiet_of_same (KP.out _ _ _ (by assumption)))
    |(go_at_call 11;exact Calls.quiet_of_same (KT.out _))
    |fail)
   go_wp2_with fail
   go_ret;exact⟨rfl,below_drewN k5.out _⟩
end Go.Proofs.YtkaipapdlnojiaaGreat
