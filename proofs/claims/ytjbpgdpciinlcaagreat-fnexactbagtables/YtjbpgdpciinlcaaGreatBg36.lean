import Derived.Test.YtjbpgdpciinlcaaGreatBg34
import Derived.Test.YtjbpgdpciinlcaaGreatBg35
set_option maxHeartbeats 40000000
set_option maxRecDepth 1000000
namespace Go.Proofs.YtjbpgdpciinlcaaGreat
open Go.RowKit
variable {o:List Int}{tl:List TbV}{B t:Nat}{e:TypeId}{W:World}
def mkX(h r v n0:Nat)(tl:List TbV)(o:List Int)(f:Nat->List Int->Nat)(g0 g1:Nat->List Int->Value)(hv:Value)(uh:List Value):JX where
 h:=h
 r:=r
 v:=v
 n0:=n0
 nT:=tl.length
 H:=fun t=>qN o (sdT o (tl.getD t qA)).vars
 D:=fun t p=>p=[]∨∃r∈(sdT o (tl.getD t qA)).rows,p <+:r
 N:=fun t=>nN (sdT o (tl.getD t qA)).vars.length (sdT o (tl.getD t qA)).rows
 f:=f
 g0:=g0
 g1:=g1
 hv:=hv
 uh:=uh
 hav:=xA tl o
theorem jD(h:t < tl.length):tl.getD t qA∈tl:=by rw[gD,gE h];exact gM _
theorem Vp(h:t < tl.length):sdO o (sdT o (tl.getD t qA))∈vX tl o:=List.mem_map.2 ⟨_,List.mem_map.2 ⟨_,jD h,rfl⟩,rfl⟩
theorem qAx{s:Sd}(h:s∈vX tl o):∃t,t < tl.length/\s=sdO o (sdT o (tl.getD t qA)):=by
 obtain⟨m,hm,rfl⟩:=List.mem_map.1 h;obtain⟨t,ht,rfl⟩:=List.mem_map.1 hm;obtain⟨i,hi,rfl⟩:=gO ht;exact⟨i,hi,by rw[gD,gE hi];rfl⟩
section
variable {h r v n0:Nat} {tl:List TbV} {o:List Int} {f:Nat->List Int->Nat} {g0 g1:Nat->List Int->Value} {hv:Value} {uh:List Value}
theorem Zj(p:List Int):(mkX h r v n0 tl o f g0 g1 hv uh).Hd p↔Hld (vX tl o) p:=by
 constructor
 ·intro hd s hs;obtain⟨t,ht,rfl⟩:=qAx hs;exact hd t ht
 ·intro hd t ht;exact hd _ (Vp ht)
theorem qBw(p:List Int)(hd:(mkX h r v n0 tl o f g0 g1 hv uh).Hd p)(y:Int)(hy:y∈nxJ tl o p):(mkX h r v n0 tl o f g0 g1 hv uh).Hd (p++[y]):=(Zj _).2 (((Zj _).1 hd).snoc (XV tl o) hy)
theorem Vq(o:List Int)(t:TbV):(sdT o t).vars=shr o t.vs:=rfl
theorem qAy{p q:Nat->Bool}{k:Nat}(h:∀i,i < k->p i=q i):plc p k=plc q k:=by
 unfold plc;congr 1;exact List.filter_congr fun i hi=>h i (List.mem_range.1 hi)
theorem qAz{l:List (List Int)}(h:l≠[]):srt l≠[]:=fun e=>h (by
 cases l with
 |nil=>rfl
 |cons a l=>
  have:a∈srt (a::l):=((yk _ (a::l) (nR _)).2 a).2 List.mem_cons_self;rw[e]at this;cases this)
theorem qBx(ht:∀t∈tl,TvJ t)(hne:∀t∈tl,t.rows≠[])(hc:Qy tl o)(hl:tl.length<=1000)(hol:o.length<=1000):JMx (mkX h r v n0 tl o f g0 g1 hv uh) (nxJ tl o) o.length:=by
 have hT:∀t,t < tl.length->TM (sdT o (tl.getD t qA)).rows (fun p=>p=[]∨∃r∈(sdT o (tl.getD t qA)).rows,p <+:r) (nN (sdT o (tl.getD t qA)).vars.length (sdT o (tl.getD t qA)).rows):=fun t _=>Ky (yc o _).sl (yc o _).len;refine⟨fun t h1 q hq y=>(hT t h1).mem q hq y,fun t h1 q hq=>(hT t h1).asc q hq,fun t h1 q _=>?_,hl,hol,by show(xA tl o).length=_;unfold xA;rw[lM],fun k hk=>?_,fun k hk=>?_,fun p hp hd t h1 hH=>?_,fun p hp hd g hg hH=>?_⟩
 ·have h2:=qA9 (sdT o (tl.getD t qA)).vars.length (sdT o (tl.getD t qA)).rows q;have h3:=je o (tl.getD t qA);have h4:=(ht _ (jD h1)).n;show(nN _ _ q).length<=1000000;omega
 ·show(xA tl o).getD k []=plc (fun t=>qN o (sdT o (tl.getD t qA)).vars k) tl.length;unfold xA;rw[gD,bJ,gE hk];show plc _ (tl.map TbV.vs).length=_;rw[lM];refine qAy fun i hi=>?_;rw[Vq,uL hk]
  have e1:(tl.map TbV.vs).getD i []=(tl.getD i qA).vs:=by
   rw[gD,bJ,gE hi,gD,gE hi];rfl
  have e2:o.getD k 0=o[k]:=by rw[gD,gE hk];rfl
  rw[e1,e2]
 ·obtain⟨t,h1,h2⟩:=hc k hk;obtain⟨i,hi,rfl⟩:=gO h1;refine⟨i,hi,?_⟩;show qN o (sdT o (tl.getD i qA)).vars k=true;rw[Vq,uL hk,gD,gE hi];exact decide_eq_true h2
 ·have hlt:(prt (qN o (sdT o (tl.getD t qA)).vars) p).length < (sdT o (tl.getD t qA)).vars.length:=(qEE hp).2 hH;have hD:prt (qN o (sdT o (tl.getD t qA)).vars) p=[]∨∃r∈(sdT o (tl.getD t qA)).rows,prt (qN o (sdT o (tl.getD t qA)).vars) p <+:r:=hd t h1
  have hR:∃r∈(sdT o (tl.getD t qA)).rows,prt (qN o (sdT o (tl.getD t qA)).vars) p <+:r:=by
   rcases hD with h2|h2
   ·have:(sdT o (tl.getD t qA)).rows≠[]:=qAz (by simpa using hne _ (jD h1));obtain⟨r,hr⟩:=List.exists_mem_of_ne_nil _ this;exact⟨r,hr,by rw[h2];exact List.nil_prefix⟩
   ·exact h2
  obtain⟨r,hr,tail,e⟩:=hR;have hrl:=(yc o (tl.getD t qA)).len r hr;cases tail with
  |nil=>rw[List.append_nil]at e;rw[e]at hlt;omega
  |cons y tail=>
   have:y∈nN (sdT o (tl.getD t qA)).vars.length (sdT o (tl.getD t qA)).rows (prt (qN o (sdT o (tl.getD t qA)).vars) p):=((hT t h1).mem _ hD y).2 (Or.inr ⟨r,hr,tail,by rw[<-e];simp⟩);exact List.length_pos_of_mem this
 ·have hh:Hld (vX tl o) p:=(Zj (h:=h) (r:=r) (v:=v) (n0:=n0) (f:=f) (g0:=g0) (g1:=g1) (hv:=hv) (uh:=uh) p).1 hd;have:=XT (XV tl o) (Vp hg) hh (by exact hH);show vV (vX tl o) p=_;rw[this];unfold vF;refine List.filter_congr fun y _=>?_;rw[Bool.eq_iff_iff,jd,aT];constructor
  ·intro h1 t h2;obtain⟨i,hi,h3,rfl⟩:=vu.1 h2;exact decide_eq_true (h1 _ (Vp hi) h3)
  ·intro h1 s hs h2;obtain⟨t,h3,rfl⟩:=qAx hs;exact of_decide_eq_true (h1 (t:Int) (vu.2 ⟨t,h3,h2,rfl⟩))
end
theorem TR.iff{D D':List Int->Prop}{N N':List Int->List Int}{f:List Int->Nat}{g0 g1:List Int->Value}(h:TR W B D N N f g0 g1)(hD:∀p,D p↔D' p)(hN:∀p,D p->N' p=N p):TR W B D' N' N' f g0 g1:=by
 have e:D=D':=funext fun p=>propext (hD p);subst e;exact h.same hN hN
theorem TrO.tr{t:TbV}{c:Option Addr}(h:TrO B W (sdT o t).rows c):((sdT o t).rows=[]/\c=none)∨((sdT o t).rows≠[]/\∃f g0 g1,c=some ⟨f [],0,none⟩/\TR W B (fun p=>p=[]∨∃r∈(sdT o t).rows,p <+:r) (nN (sdT o t).vars.length (sdT o t).rows) (nN (sdT o t).vars.length (sdT o t).rows) f g0 g1):=by
 rcases h with h|⟨h1,D,N,f,g0,g1,h2,h3,h4,h5⟩
 ·exact Or.inl h
 ·have hT:TM (sdT o t).rows (fun p=>p=[]∨∃r∈(sdT o t).rows,p <+:r) (nN (sdT o t).vars.length (sdT o t).rows):=Ky (yc o t).sl (yc o t).len;refine Or.inr ⟨h1,f,g0,g1,h2,h4.iff h3.dom fun p hp=>?_⟩;refine Qw (hT.asc p ((h3.dom p).1 hp)) (h3.asc p hp) fun y=>?_;rw[hT.mem p ((h3.dom p).1 hp) y,h3.mem p hp y];exact(h3.dom _).symm
open Meet
theorem Kr{P:Program}{t:TypeId}(d:Nat)(w:World)(y:Addr)(h:P.underlying t=some (.pointer e)):(Op.equalIn (d+1) t (.pointer none) (.pointer (some y))).run P w=.ok false w:=by simp[Op.equalIn,run_underlying h]
theorem qBv{P:Program}{t:TypeId}(w:World)(y:Addr)(h:P.underlying t=some (.pointer e)):(binOp .eql t (.pointer none) (.pointer (some y))).run P w=.ok (.bool false) w:=by
 simp only[binOp];simp[Op.equal,Op.maxDepth,Kr 9999 w y h]
def jb(cs:List (Option Addr)):Bool:=decide (none∈cs)
theorem XR(w:World)(B n:Nat)(v:Value)(cs:List (Option Addr))(h:w.ownsRow B 137 1 v n (cs.map Value.pointer))(hn:cs.length=n)(hl:n<=1099511627776):
 Cl 131 #[v,.pointer none] w fun e w'=>(∃k:Int,e=.returned (.int .i64 k)/\decide (0<=k)=jb cs)/\w'=w:=by
 have HC:Hid (∀j,j < n->∃b o c,v=.slice (some ⟨b,o,none⟩) n c/\w.cell? ⟨b,o+j,none⟩=some (.pointer (cs.getD j none))):=hid fun j hj=>by
  rcases h.2 with ⟨rfl,rfl⟩|⟨g,cap,cur,rfl,-⟩
  ·omega
  ·refine⟨g,0,cap,rfl,?_⟩;have:=h.cellAt (j:=j) (by omega);rw[Nat.zero_add];rw[gD,gE (by omega)];refine this.trans ?_;rw[bJ,gE (by omega)];rfl
 obtain⟨a,cap,rfl⟩:=xG h;obtain⟨res,hres⟩:∃r,r=jb cs:=⟨_,rfl⟩;rw[<-hres];have HR:=hid hres;have HN:=hid hn;clear h hn hres;go_enter Tryz.func131,Tryz.ntmps131
 go_wp2;go_loop [8] (fun t=>∃j:Nat,j<=n/\t=.int .i64 j/\Hid (∀i,i < j->cs.getD i none≠none)) (fun t=>n - (intOf t).toNat)
 case atStart=>exact⟨0,nZ _,rfl,hid (fun i hi=>by omega)⟩
 case round=>
  obtain⟨j,hj,rfl,hok⟩:=hrel;by_cases hjn:j < n
  ·have i1:(j:Int) < (n:Int):=by omega
   obtain⟨b,o,c,ea,c1⟩:=HC.out j hjn;cases ea
   have fin:cs.getD j none=none->Hid (res=true):=fun e=>HR.out.trans (decide_eq_true (by
    have h1:j < cs.length:=by rw[HN.out];exact hjn
    have:cs.getD j none∈cs:=by rw[gD,gE h1];exact gM _
    rw[e]at this;exact this))
   have nxt:cs.getD j none≠none->Hid (∀i,i < j+1->cs.getD i none≠none):=fun e=>hid fun i hi=>by
    by_cases e2:i=j
    ·rw[e2];exact e
    ·exact hok.out i (by omega)
   clear hok;generalize cs.getD j none=y at *;cases y with
   |none=>
    have hf:=fin rfl;clear fin nxt;go_wp2;go_ret;exact⟨⟨_,rfl,by rw[hf.out];simp⟩,rfl⟩
   |some y=>
    have hf:=nxt (by simp);clear fin nxt;have hq:∀w:World,(binOp .eql 137 (.pointer none) (.pointer (some y))).run Tryz.prog w=.ok (.bool false) w:=fun w=>qBv w y Tryz.underlying137;go_wp2;go_round
    case rel=>exact⟨j+1,by omega,by go_num,hf⟩
    case measure=>simp[intOf];omega
  ·obtain rfl:j=n:=by omega
   have hf:Hid (res=false):=hid (HR.out.trans (decide_eq_false (fun hm=>by
    obtain⟨i,hi,e⟩:=gO hm;exact hok.out i (by rw[<-HN.out];exact hi) (by rw[gD,gE hi];exact e))))
   have i1:¬((j:Int) < (j:Int)):=by omega
   clear hok;go_wp2;go_ret;exact⟨⟨_,rfl,by rw[hf.out];simp⟩,rfl⟩
theorem QT(w:World)(B n:Nat)(v:Value)(cs:List (Option Addr))(h:w.ownsRow B 137 1 v n (cs.map Value.pointer))(hn:cs.length=n)(hl:n<=1099511627776):
 Cl 108 #[v,.pointer none] w fun e w'=>e=.returned (.bool (jb cs))/\w'=w:=by
 have HI:=hid (XR w B n v cs h hn hl);generalize jb cs=res at *;clear h;go_enter Tryz.func108,Tryz.ntmps108
 go_wp2_with (first|(go_at_call 131;refine HI.out.mono ?_;rintro e w' ⟨⟨k,rfl,hk⟩,rfl⟩))
 go_ret;exact⟨rfl,rfl⟩
theorem Vt(x:JX)(p:List Int)(ts:List Int)(yv:Int)(hts:ts=plc (fun t=>x.H t p.length) x.nT):∀k,k<=x.nh p->(yO (x.bel p) ts (fun j=>x.f (x.tk p j) (prt (x.H (x.tk p j)) p++[yv])) k).length=x.nT/\∀t,t < x.nT->((∃j,j < k/\x.tk p j=t)->(yO (x.bel p) ts (fun j=>x.f (x.tk p j) (prt (x.H (x.tk p j)) p++[yv])) k)[t]?=some (.pointer (some ⟨x.f t (prt (x.H t) p++[yv]),0,none⟩)))/\((¬∃j,j < k/\x.tk p j=t)->(yO (x.bel p) ts (fun j=>x.f (x.tk p j) (prt (x.H (x.tk p j)) p++[yv])) k)[t]?=some (.pointer (some ⟨x.f t (prt (x.H t) p),0,none⟩)))
 |0,_=>⟨x.bel_len p,fun t ht=>⟨fun ⟨j,hj,_⟩=>by omega,fun _=>Vs x p ht⟩⟩
 |k+1,hk=>by
  obtain⟨h1,h2⟩:=Vt x p ts yv hts k (by omega);have hk':k < x.nh p:=by omega
  have htk:(ts.getD k 0).toNat=x.tk p k:=by rw[hts];rfl
  have hkt:=(x.tk_ok p hk').1;refine⟨by show(List.set _ _ _).length=_;rw[List.length_set,h1],fun t ht=>?_⟩;show(_->((yO (x.bel p) ts _ k).set (ts.getD k 0).toNat _)[t]?=_)/\(_->((yO (x.bel p) ts _ k).set (ts.getD k 0).toNat _)[t]?=_);rw[htk];by_cases e:x.tk p k=t
  ·subst e;rw[List.getElem?_set_self (by rw[h1];exact hkt)];exact⟨fun _=>rfl,fun hn=>absurd ⟨k,by omega,rfl⟩ hn⟩
  ·rw[List.getElem?_set_ne e];refine⟨fun ⟨j,hj,ej⟩=>(h2 t ht).1 ⟨j,?_,ej⟩,fun hn=>(h2 t ht).2 fun ⟨j,hj,ej⟩=>hn ⟨j,by omega,ej⟩⟩;have:j≠k:=fun e2=>e (by rw[<-e2];exact ej);omega
theorem qB3(x:JX)(p:List Int)(ts:List Int)(yv:Int)(hts:ts=plc (fun t=>x.H t p.length) x.nT):yO (x.bel p) ts (fun j=>x.f (x.tk p j) (prt (x.H (x.tk p j)) p++[yv])) (x.nh p)=x.bel (p++[yv]):=by
 obtain⟨h1,h2⟩:=Vt x p ts yv hts (x.nh p) (nR _);refine List.ext_getElem? fun t=>?_;by_cases ht:t < x.nT
 ·rw[Vs x (p++[yv]) ht,Qv];cases hH:x.H t p.length
  ·rw[(h2 t ht).2 fun ⟨j,hj,ej⟩=>by have:=(x.tk_ok p hj).2.1;rw[ej,hH]at this;cases this];simp
  ·obtain⟨j,hj,ej⟩:=x.tk_all p ht hH;rw[(h2 t ht).1 ⟨j,hj,ej⟩];simp
 ·rw[gN (by rw[h1];omega),gN (by rw[x.bel_len];omega)]
theorem qDA(x:JX)(p:List Int):∀u∈x.bel p,u.oneCell'=true:=fun u hu=>by
 unfold JX.bel at hu;obtain⟨t,-,rfl⟩:=List.mem_map.1 hu;rfl
theorem YZ(x:JX)(hx:x.Ok)(nxt:List Int->List Int)(no:Nat)(hm:JMx x nxt no)(l0:Nat)(w:World)(bB bH:Nat)(vp vb:Value)(p:List Int)(hp:p.length < no)(hd:x.Hd p)(hdat:Dat x w)(hbrn:Brn x x.n0 w vp vb p)(hbx:BrX w bB vp vb)(hbB:x.n0<=bB)
 (hbh:w.heap[bH]?=some (.cells #[x.uh.getD p.length undef] 24 (0,0))) (hbH:x.n0<=bH) (hnr:¬RB x w bH):
 Gives Tryz.prog 159 #[.pointer (some ⟨bB,0,none⟩),.pointer (some ⟨bH,0,none⟩)] Ku (KpB x l0) (fun _ _ _=>True) (qEA x nxt p) (nxt p) w:=by
 intro l J Jx W hBw hlW hwl hJ hJx hY h0;show Calls _ _ #[.func (.yield l) #[] #[],.pointer (some ⟨bB,0,none⟩),.pointer (some ⟨bH,0,none⟩)] W _;obtain⟨tS,htS,hHS⟩:=hm.some p.length hp;have hT0:0 < x.nT:=by omega
 have hnw:x.n0<=w.heap.size:=by have:=hbx.lt;omega
 have hkw:KT x.n0 w W:=KT.of_below hBw hnw;have hdW:=hdat.kt hkw hx;have hbrW:=hbrn.below hBw;have hbxW:=hbx.below hBw;have hbhW:=(hBw.block _ (qR hbh)).trans hbh;have hnrW:¬RB x W bH:=fun h1=>hnr ((RB.eq (hBw.block _ (by have:=hx.r;omega)) _).1 h1);have hnhe:(x.hav.getD p.length []).length=x.nh p:=by rw[hm.hav _ hp];rfl
 have hts:IS W (x.uh.getD p.length undef) (x.hav.getD p.length []):=qW (hdW.hq.each p.length (by rw[hm.hl];exact hp));have hnh:x.nh p<=1000:=bK (xd _ _) hm.lT;have hnh0:0 < x.nh p:=by obtain⟨j,hj,-⟩:=x.tk_all p htS hHS;omega
 obtain⟨bb,cb,ebb,-⟩:=xw hbrW.bel (show 0 < x.nT from hT0);obtain⟨ap,cp,eap⟩:=xG hbrW.pre;obtain⟨vt,hvt⟩:∃vt,vt=x.uh.getD p.length undef:=⟨_,rfl⟩;rw[<-hvt]at hbhW hts
 have hcb:∀t,t < x.nT->W.cell? ⟨bb,t,none⟩=some (.pointer (some ⟨x.f t (prt (x.H t) p),0,none⟩)):=fun t ht=>by
  have:=hbrW.bel;rw[ebb]at this;rw[this.cellAt t (by omega)];exact Vs x p ht
 have KC:=hid (YX W vp vt bb x.nT cb (x.hav.getD p.length []) (x.nd p) ⟨_,_,_,eap⟩ hts (by rw[hnhe];exact hnh)
  (fun j hj=>by rw[hm.hav _ hp,(x.tk_ok p (by rw[<-hnhe];exact hj)).2.2];have:=(x.tk_ok p (j:=j) (by rw[<-hnhe];exact hj)).1;omega)
  (fun j hj=>by rw[hm.hav _ hp,(x.tk_ok p (by rw[<-hnhe];exact hj)).2.2];have:=(x.tk_ok p (j:=j) (by rw[<-hnhe];exact hj)).1;rw[show((x.tk p j:Int)).toNat=x.tk p j by omega];exact hcb _ this))
 rw[hnhe]at KC
 have HLG0:Hid (∀w1 v1,w1.ownsRow W.heap.size 207 2 v1 (x.nh p) (yY (x.nd p) (fun _=>0) (x.nh p))->Bl W w1->∃cu cc,v1=.slice (some ⟨cu,0,none⟩) (x.nh p) cc/\LG x W.heap.size w1 bB bH cu cc vp vb vt p (fun _=>0)):=hid fun w1 v1 ho hb=>by
  have hkb:KT x.n0 W w1:=KT.of_below hb (by have:=hBw.size;omega);rcases ho.2 with ⟨-,h2⟩|⟨g,cap,cur,rfl,h3,h4,h5,h6,h7,h8⟩
  ·omega
  ·exact⟨g,cap,rfl,hdW.kt hkb hx,hbrW.below hb,hbxW.below hb,hbB,(hb.block _ (qR hbhW)).trans hbhW,hbH,fun h1=>hnrW ((RB.eq (hkb.bel.block _ hx.r) _).1 h1),by have:=hBw.size;omega,ho⟩
 have c0:=hbxW.c0;have c1:=hbxW.c1;have c2:W.cell? ⟨bH,0,none⟩=some vt:=by rw[cell_of_row _ _ _ _ _ _ hbhW];rfl
 subst eap;rw[ebb]at c1;have hshv:∃a n c,vt=.slice a n c:=by obtain⟨a,c,e,-⟩:=hts;exact⟨a,_,c,e⟩
 obtain⟨av,nv,cv,rfl⟩:=hshv
 have KF:Hid (∀cu cc w1,LG x W.heap.size w1 bB bH cu cc (.slice ap p.length cp) vb (.slice av nv cv) p (fun _=>0)->Cl 161 #[.slice (some ⟨cu,0,none⟩) (x.nh p) cc] w1 fun e w'=>∃i ga ca,i < x.nh p/\e=.returned (.slice (some ⟨ga,0,none⟩) (x.vl p i).length ca)/\x.g0 (x.tk p i) (prt (x.H (x.tk p i)) p)=.slice (some ⟨ga,0,none⟩) (x.vl p i).length ca/\Bl w1 w'):=hid fun cu cc w1 hL=>by
  have hg:∀j,j < x.nh p->∃ga ca,x.g0 (x.tk p j) (prt (x.H (x.tk p j)) p)=.slice (some ⟨ga,0,none⟩) (x.vl p j).length ca:=fun j hj=>by
   obtain⟨h1,h2,-⟩:=x.tk_ok p hj;obtain⟨ga,ca,ea,-⟩:=xw ((hL.dat.tr _ h1).o0 _ (hd _ h1)) (hm.more p hp hd _ h1 h2);exact⟨ga,ca,ea⟩
  refine(Vr w1 cu cc (x.nh p) (x.nd p) (fun _=>0) (fun j=>slA (x.g0 (x.tk p j) (prt (x.H (x.tk p j)) p))) (fun j=>slN (x.g0 (x.tk p j) (prt (x.H (x.tk p j)) p))) (fun j=>slC (x.g0 (x.tk p j) (prt (x.H (x.tk p j)) p))) hnh0 hnh (fun j hj=>?_) (fun j hj=>?_)).mono ?_
  ·obtain⟨g1,g2⟩:=Vn (x.nd p) (fun _=>0) (x.nh p) j hj;rw[hL.cur.cellAt (j*2) (by omega),hL.cur.cellAt (j*2+1) (by omega)];exact⟨g1,g2⟩
  ·obtain⟨h1,h2,-⟩:=x.tk_ok p hj;obtain⟨ga,ca,ea⟩:=hg j hj;rw[ea];have:=(hL.dat.tr _ h1).c0 (hd _ h1);rw[ea]at this;exact this
  ·rintro e w' ⟨i,hi,rfl,hb⟩;obtain⟨ga,ca,ea⟩:=hg i hi;exact⟨i,ga,ca,hi,by rw[ea];rfl,ea,hb⟩
 have HJ:=hid hJ;have HJx:=hid hJx;have HYy:=hid hY;have H0:=hid h0;have HM:=hid hm;have HD:=hid hd;have HX:=hid hx;have hWn:x.n0<=W.heap.size:=by have:=hBw.size;omega
 have HWn:=hid hWn;have HEBB:=hid ebb;have HVT:=hid hvt;clear hvt hnhe hts hbrW hbxW hbhW hnrW hdW hkw hnw hbx hbh hbrn hdat hnr hbB hbH hcb hBw hlW hwl hJ hJx hY h0 tS htS hHS hT0 ebb;clear hm hd hx hWn;obtain⟨nh,hnhq⟩:∃nh,nh=x.nh p:=⟨_,rfl⟩;have HNH:=hid hnhq;rw[<-hnhq]at KC HLG0 KF hnh hnh0;clear hnhq;obtain⟨nT,hnTq⟩:∃nT,nT=x.nT:=⟨_,rfl⟩;have HNT:=hid hnTq;rw[<-hnTq]at KC c1;clear hnTq;obtain⟨np,hnpq⟩:∃np,np=p.length:=⟨_,rfl⟩;have HNP:=hid hnpq;rw[<-hnpq]at KC c0 HLG0 KF hp;clear hnpq;go_enter Tryz.func159,Tryz.ntmps159
 go_upto_region 1 with (first|(go_at_call 160;refine KC.out.mono ?_;rintro e w1 ⟨v1,rfl,ho1,hb1⟩)|fail)
 obtain⟨cu,cc,e1,hLG⟩:=HLG0.out w1 v1 ho1 hb1;subst e1;have HB1:=hid hb1;have HL1:=hid hLG;have KF1:=hid (KF.out cu cc w1 hLG);clear ho1 hb1 hLG KC HLG0 KF c0 c1 c2;go_upto_block 0 with (first|(go_at_call 161;refine KF1.out.mono ?_;rintro e w2 ⟨gi,ga,ca,hgi,rfl,hga,hb2⟩)|fail)
 have HB2:=hid (bt HB1.out hb2);have HL2:=hid (HL1.out.below HX.out hb2);have HGA:=hid hga;obtain⟨L,hL⟩:∃L,L=x.vl p gi:=⟨_,rfl⟩;have HGI:=hid (And.intro hgi hL)
 have HNX:Hid (nxt p=L.filter fun y=>x.all p y):=hid (by
  obtain⟨h1,h2,-⟩:=x.tk_ok p (j:=gi) (by rw[<-HNH.out];exact hgi);rw[HM.out.nx p (by rw[<-HNP.out];exact hp) HD.out _ h1 h2,hL];refine List.filter_congr fun y _=>?_;exact x.all_eq p y)
 have HASC:Hid (L.Pairwise (·< ·)):=hid (by
  obtain⟨h1,h2,-⟩:=x.tk_ok p (j:=gi) (by rw[<-HNH.out];exact hgi);rw[hL];exact HM.out.asc _ h1 _ (HD.out _ h1))
 have hLb:L.length<=1000000:=by
  obtain⟨h1,h2,-⟩:=x.tk_ok p (j:=gi) (by rw[<-HNH.out];exact hgi);rw[hL];exact HM.out.len _ h1 _ (HD.out _ h1)
 have HCV:Hid (∀w3 q,LG x W.heap.size w3 bB bH cu cc (.slice ap np cp) vb (.slice av nv cv) p q->∀k,k < L.length->w3.cell? ⟨ga,k,none⟩=some (.int .i64 (L.getD k 0))):=hid fun w3 q h3 k hk=>by
  obtain⟨h1,h2,-⟩:=x.tk_ok p (j:=gi) (by rw[<-HNH.out];exact hgi);have ho:=(h3.dat.tr _ h1).o0 _ (HD.out _ h1);rw[HGA.out]at ho;have hk':k < (x.vl p gi).length:=by rw[<-hL];exact hk
  rw[ho.cellAt k (by show k < (x.vl p gi).length*1;omega)];show((x.vl p gi).map (Value.int .i64))[k]?=_;rw[<-hL,bJ,gE hk,gD,gE hk];rfl
 rw[<-hL];clear hb2 hga hL KF1 HB1 HL1;obtain⟨nL,hnL⟩:∃nL,nL=L.length:=⟨_,rfl⟩;have HNL:=hid hnL;rw[<-hnL]at HCV hLb ⊢;clear hnL;have HKW:Hid (W.heap.size<=w2.heap.size):=hid HB2.out.size;go_wp2_with fail
 go_loopw [16] (fun t wr=>∃(k:Nat),k<=nL/\t=.int .i64 k/\Hid (∃q X,J ((L.take k).filter fun y=>x.all p y) X/\KT W.heap.size X wr/\LG x W.heap.size wr bB bH cu cc (.slice ap np cp) vb (.slice av nv cv) p q/\∀j,j < nh->q j < (x.vl p j).length/\(k < nL->∀m,m < q j->(x.vl p j).getD m 0 < L.getD k 0))) (fun t _=>nL - (intOf t).toNat)
 case atStart=>exact⟨0,nZ _,rfl,hid ⟨_,W,H0.out,KT.of_below HB2.out (nR _),HL2.out,fun j hj=>⟨by
  obtain⟨h1,h2,-⟩:=x.tk_ok p (j:=j) (by rw[<-HNH.out];exact hj);exact HM.out.more p (by rw[<-HNP.out];exact hp) HD.out _ h1 h2,fun _ m hm=>by omega⟩⟩⟩
 case round=>
  clear HL2 HB2 H0 HKW;obtain⟨k,hk,rfl,HT⟩:=hrel;by_cases hlt:k < nL
  ·have i1:(k:Int) < (nL:Int):=by omega
   obtain⟨q0,X0,hJ0,hKT0,hLG0,hP0⟩:=HT.out;have cv1:=HCV.out wr q0 hLG0 k hlt;have HJ0:Hid (∃q X,J ((L.take k).filter fun y=>x.all p y) X/\KT W.heap.size X wr/\LG x W.heap.size wr bB bH cu cc (.slice ap np cp) vb (.slice av nv cv) p q/\(∀j,j < nh->q j < (x.vl p j).length/\∀m,m < q j->(x.vl p j).getD m 0 < L.getD k 0)/\∀j,j < 0->(x.vl p j).getD (q j) 0=L.getD k 0):=hid ⟨q0,X0,hJ0,hKT0,hLG0,fun j hj=>⟨(hP0 j hj).1,(hP0 j hj).2 hlt⟩,fun j hj=>by omega⟩;have HYL:Hid (L.getD k 0∈L):=hid (xY (by rw[<-HNL.out];exact hlt));have HNXT:Hid (∀k',k < k'->k' < nL->L.getD k 0 < L.getD k' 0):=hid fun k' h1 h2=>uS HASC.out k k' h1 (by rw[<-HNL.out];exact h2);have HTK:Hid (L.take (k+1)=L.take k++[L.getD k 0]):=hid (qm (by rw[<-HNL.out];exact hlt));clear hJ0 hKT0 hLG0 hP0 HT;obtain⟨yv,hyv⟩:∃yv,yv=L.getD k 0:=⟨_,rfl⟩;have HYV:=hid hyv;rw[<-hyv]at cv1 HJ0 HYL HNXT HTK;clear hyv;generalize wr=wo at *;go_upto_region 5 with (first|go_step3|fail)
   clear cv1;go_wp2_with fail
   go_loopw [7,22] (fun v7 t wr=>∃(i:Nat),i<=nh/\v7=.int .i64 i/\t=.int .i64 i/\Hid (∃q X,J ((L.take k).filter fun y=>x.all p y) X/\KT W.heap.size X wr/\LG x W.heap.size wr bB bH cu cc (.slice ap np cp) vb (.slice av nv cv) p q/\(∀j,j < nh->q j < (x.vl p j).length/\∀m,m < q j->(x.vl p j).getD m 0 < yv)/\∀j,j < i->(x.vl p j).getD (q j) 0=yv)) (fun _ t _=>nh - (intOf t).toNat)
   case atStart=>exact⟨0,nZ _,rfl,rfl,HJ0⟩
   case round=>
    clear HJ0;obtain⟨i,hin,rfl,rfl,HT⟩:=hrel;obtain⟨q,X,hJq,hKT,hLGq,hPq,hSq⟩:=HT.out;have HJq:=hid hJq;have HKT:=hid hKT;have HLGq:=hid hLGq;have HPq:=hid hPq;have HSq:=hid hSq;clear HT hJq hKT hLGq hPq hSq;by_cases hlt2:i < nh
    ·have i2:(i:Int) < (nh:Int):=by omega
     have hinh:i < x.nh p:=by rw[<-HNH.out];exact hlt2
     have KSk:=hid (HLGq.out.seek_calls HX.out HM.out (by rw[<-HNP.out];exact hp) HD.out hinh yv (HPq.out i hlt2).1 (HPq.out i hlt2).2);go_upto_region 10 with (first|(go_at_call 162;refine KSk.out.mono ?_;rintro e w5 ⟨⟨v5,rfl⟩,vq,hSk⟩)|fail)
     have HSk:=hid hSk;clear hSk KSk;have HKT5:=hid (HKT.out.trans HSk.out.kt);have KE:=hid (HSk.out.lg.ended_calls HM.out (by rw[<-HNP.out];exact hp) HD.out hinh);have evq:(if i=i then vq else q i)=vq:=if_pos rfl;rw[evq]at KE;by_cases hend:vq=(x.vl p i).length
     ·rw[decide_eq_true hend]at KE
      have HF:Hid (∀d,J (nxt p) (w5.drewN d)):=hid fun d=>by
       have hrest:nxt p=(L.take k).filter fun y=>x.all p y:=by
        rw[HNX.out];conv=>lhs;rw[<-tD k L]
        rw[List.filter_append]
        have:(L.drop k).filter (fun y=>x.all p y)=[]:=List.filter_eq_nil_iff.2 fun z hz hall=>by
         obtain⟨m,hm1,hm2⟩:=gO hz;rw[List.length_drop]at hm1;rw[List.getElem_drop]at hm2
         have hge:yv<=z:=by
          by_cases e:m=0
          ·subst e;rw[HYV.out,gD,gE (by rw[<-HNL.out];exact hlt),<-hm2];exact Int.le_refl _
          ·have:=HNXT.out (k+m) (by omega) (by rw[HNL.out];omega);rw[gD,gE (by omega)]at this;have h9:(some L[k+m]).getD 0=z:=hm2;rw[h9]at this;omega
         unfold JX.all at hall;rw[aT]at hall;have hzi:=of_decide_eq_true (hall i (List.mem_range.2 hinh));obtain⟨m',hm',e'⟩:=xu hzi;have:=HSk.out.lo m' (by omega);omega
        rw[this,List.append_nil]
       rw[hrest];exact HJ.out _ _ _ HJq.out (HKT5.out.trans (KT.of_below (below_drewN (bI _ _) d) (by have:=HKT5.out.bel.size;have:=HWn.out;have h8:=HSk.out.lg.cur.lt cu rfl;omega)))
      go_wp2_with (first|(go_at_call 163;refine KE.out.mono ?_;rintro e w6 ⟨rfl,d6,rfl⟩)|fail)
      simp only[Exit.noGoto,Exit.inBlock,Exit.then];refine bodyPost_ret (P:=Tryz.prog) (fn:=Tryz.f159) (R:=fun e W'=>(∃v,e=.returned v)/\(J (nxt p) W'∨Jx W')) (results_none rfl _ _ _) rfl ?_;exact⟨⟨_,rfl⟩,Or.inl (HF.out d6)⟩
     ·rw[decide_eq_false hend]at KE;have hvq:vq < (x.vl p i).length:=by have:=HSk.out.le;omega
      have KV:Hid (∀d,Cl 164 #[.pointer (some ⟨cu,i*2,none⟩)] (w5.drewN d) fun e w'=>e=.returned (.int .i64 ((x.vl p i).getD vq 0))/\∃d',w'=(w5.drewN d).drewN d'):=hid fun d=>by
       have:=(HSk.out.lg.below HX.out (below_drewN (bI _ _) d)).value_calls HM.out (by rw[<-HNP.out];exact hp) HD.out hinh (by rw[if_pos rfl];exact hvq);rw[if_pos rfl]at this;exact this
      have HKd:Hid (∀d,KT W.heap.size X (w5.drewN d)/\LG x W.heap.size (w5.drewN d) bB bH cu cc (.slice ap np cp) vb (.slice av nv cv) p (fun j=>if j=i then vq else q j)):=hid fun d=>⟨HKT5.out.trans (KT.of_below (below_drewN (bI _ _) d) (by have h8:=HSk.out.lg.cur.lt cu rfl;omega)),HSk.out.lg.below HX.out (below_drewN (bI _ _) d)⟩
      have HPn:Hid (∀j,j < nh->(if j=i then vq else q j) < (x.vl p j).length/\∀m,m < (if j=i then vq else q j)->(x.vl p j).getD m 0 < yv):=hid fun j hj=>by
       by_cases e:j=i
       ·subst e;rw[if_pos rfl];exact⟨hvq,HSk.out.lo⟩
       ·rw[if_neg e];exact HPq.out j hj
      obtain⟨z,hz⟩:∃z,z=(x.vl p i).getD vq 0:=⟨_,rfl⟩;rw[<-hz]at KV;by_cases hzy:z=yv
      ·have HSn:Hid (∀j,j < i+1->(x.vl p j).getD (if j=i then vq else q j) 0=yv):=hid fun j hj=>by
        by_cases e:j=i
        ·subst e;rw[if_pos rfl,<-hz];exact hzy
        ·rw[if_neg e];exact HSq.out j (by omega)
       have q1:(z != yv)=false:=by simp[hzy]
       clear hz hzy;go_wp2_with (first|(go_at_call 163;refine KE.out.mono ?_;rintro e w6 ⟨rfl,d6,rfl⟩)|(go_at_call 164;refine(KV.out d6).mono ?_;rintro e w7 ⟨rfl,d7,rfl⟩)|fail)
       have HN:Hid (∃q X,J ((L.take k).filter fun y=>x.all p y) X/\KT W.heap.size X (w5.drewN (d6+d7))/\LG x W.heap.size (w5.drewN (d6+d7)) bB bH cu cc (.slice ap np cp) vb (.slice av nv cv) p q/\(∀j,j < nh->q j < (x.vl p j).length/\∀m,m < q j->(x.vl p j).getD m 0 < yv)/\∀j,j < i+1->(x.vl p j).getD (q j) 0=yv):=hid ⟨_,X,HJq.out,(HKd.out (d6+d7)).1,(HKd.out (d6+d7)).2,HPn.out,HSn.out⟩;go_roundw
       case rel=>exact⟨i+1,by omega,by go_num,by go_num,HN⟩
       case measure=>simp[intOf];omega
      ·have q1:(z != yv)=true:=by simp[hzy]
       have HFl:Hid ((L.take (k+1)).filter (fun y=>x.all p y)=(L.take k).filter fun y=>x.all p y):=hid (by
        rw[HTK.out,List.filter_append]
        have:[yv].filter (fun y=>x.all p y)=[]:=List.filter_eq_nil_iff.2 fun y hy hall=>by
         rw[List.mem_singleton]at hy;subst hy;unfold JX.all at hall;rw[aT]at hall;have hzi:=of_decide_eq_true (hall i (List.mem_range.2 hinh));obtain⟨m',hm',e'⟩:=xu hzi;obtain⟨h1,h2,-⟩:=x.tk_ok p (j:=i) hinh;have hasc:=uS (HM.out.asc _ h1 _ (HD.out _ h1));rcases Nat.lt_trichotomy m' vq with h|h|h
         ·have:=HSk.out.lo m' h;omega
         ·rw[h]at e';exact hzy (hz.trans e')
         ·have h3:=HSk.out.hi vq (nR _) hvq;have h4:=hasc vq m' h hm';have h5:(x.N (x.tk p i) (prt (x.H (x.tk p i)) p)).getD m' 0=y:=e';have h6:y<=(x.N (x.tk p i) (prt (x.H (x.tk p i)) p)).getD vq 0:=h3;omega
        rw[this,List.append_nil])
       have qs:((i:Int) == (nh:Int))=false:=by simp;omega
       clear hz hzy;go_upto_region 14 with (first|(go_at_call 163;refine KE.out.mono ?_;rintro e w6 ⟨rfl,d6,rfl⟩)|(go_at_call 164;refine(KV.out d6).mono ?_;rintro e w7 ⟨rfl,d7,rfl⟩)|fail)
       have HN:Hid (∃q X,J ((L.take (k+1)).filter fun y=>x.all p y) X/\KT W.heap.size X (w5.drewN (d6+d7))/\LG x W.heap.size (w5.drewN (d6+d7)) bB bH cu cc (.slice ap np cp) vb (.slice av nv cv) p q/\∀j,j < nh->q j < (x.vl p j).length/\(k+1 < nL->∀m,m < q j->(x.vl p j).getD m 0 < L.getD (k+1) 0)):=hid ⟨_,X,by rw[HFl.out];exact HJq.out,(HKd.out (d6+d7)).1,(HKd.out (d6+d7)).2,fun j hj=>⟨(HPn.out j hj).1,fun hk1 m hm=>by
        have h1:=(HPn.out j hj).2 m hm;have h2:=HNXT.out (k+1) (by omega) hk1;omega⟩⟩
       go_wp2_with fail
       simp only[Exit.noGoto,Exit.inBlock,Exit.then];go_wp2_with fail
       go_roundw
       case rel=>exact⟨k+1,by omega,by go_num,HN⟩
       case measure=>simp[intOf];omega
    ·obtain rfl:i=nh:=by omega
     have i2:¬((i:Int) < (i:Int)):=by omega
     have qs:((i:Int) == (i:Int))=true:=by simp
     have HFl:Hid ((L.take (k+1)).filter (fun y=>x.all p y)=((L.take k).filter fun y=>x.all p y)++[yv]):=hid (by
      rw[HTK.out,List.filter_append]
      have:x.all p yv=true:=by
       unfold JX.all;rw[aT];intro j hj;have hj':j < i:=by rw[HNH.out];exact List.mem_range.1 hj
       refine decide_eq_true ?_;rw[<-HSq.out j hj'];exact xY (HPq.out j hj').1
      rw[List.filter_cons,if_pos this];rfl)
     have HYN:Hid (((L.take k).filter fun y=>x.all p y)++[yv] <+:nxt p):=hid (by rw[HNX.out,<-HFl.out];exact(List.take_prefix _ _).filter _);go_upto_region 14 with fail
     refine(wpIn_wide (n:=0)).1 ?_;have b0:=HLGq.out.bx.c0;have b1:=HLGq.out.bx.c1;have b2:wr.cell? ⟨bH,0,none⟩=some (.slice av nv cv):=by rw[cell_of_row _ _ _ _ _ _ HLGq.out.bh];rfl
     have KWi:Hid (Cl 165 #[.agg #[.slice ap np cp,vb],.int .i64 yv,.slice av nv cv,.slice (some ⟨cu,0,none⟩) i cc] wr fun e w'=>∃g c g' c',e=.returned (.agg #[.slice (some ⟨g,0,none⟩) (np+1) c,.slice (some ⟨g',0,none⟩) nT c'])/\Bl wr w'/\Brn x X.heap.size w' (.slice (some ⟨g,0,none⟩) (np+1) c) (.slice (some ⟨g',0,none⟩) nT c') (p++[yv])):=hid (by
      have hL:=HLGq.out;have hpno:p.length < no:=by rw[<-HNP.out];exact hp
      have hhl:=HM.out.hl;have hhv:=HM.out.hav p.length hpno;have hnhe:(x.hav.getD p.length []).length=i:=by rw[hhv,HNH.out];rfl
      have eb:vb=.slice (some ⟨bb,0,none⟩) nT cb:=by rw[HNT.out];exact HEBB.out
      have hb:=hL.brn.bel;rw[eb,<-HNT.out]at hb;have hts:IS wr (.slice av nv cv) (x.hav.getD p.length []):=by rw[HVT.out];exact qW (hL.dat.hq.each p.length (by rw[hhl];exact hpno))
      have hXs:X.heap.size<=wr.heap.size:=HKT.out.bel.size;have hpre:wr.ownsRow x.n0 3 1 (.slice ap np cp) p.length (p.map (Value.int .i64)):=hL.brn.pre;have hi0:0 < i:=hnh0;have hT0:0 < nT:=by rw[HNT.out];have:=(x.tk_ok p (j:=0) (by rw[<-HNH.out];exact hi0)).1;omega
      have:=Kt wr x.n0 x.n0 bb nT cb cu cc (.slice ap np cp) (.slice av nv cv) p (x.hav.getD p.length []) (x.bel p) yv (fun j=>x.f (x.tk p j) (prt (x.H (x.tk p j)) p++[yv])) hpre (by have:=HM.out.lo;omega) hb (qDA x p) hT0 (by rw[HNT.out];exact HM.out.lT) hts (by rw[hnhe];exact hnh)
       (fun j hj=>by
        rw[hnhe,HNH.out]at hj;obtain⟨h1,-,h3⟩:=x.tk_ok p hj;rw[hhv,h3,HNT.out];omega)
       (fun W' hW' j hj=>by
        rw[hnhe]at hj;exact(hL.below HX.out hW').below_calls HM.out hpno HD.out (by rw[<-HNH.out];exact hj) (HPq.out j hj).1 (HSq.out j hj))
      rw[hnhe,<-eb]at this;refine this.mono ?_;rintro e w' ⟨g,c,g',c',rfl,ho1,ho2,hb'⟩;rw[HNH.out,qB3 x p _ yv hhv,HNT.out]at ho2;rw[<-HNP.out]at ho1;refine⟨g,c,g',c',by rw[<-HNP.out],hb',⟨?_,?_⟩⟩
      ·rw[lA,lS,<-HNP.out];exact qF ho1 hXs
      ·rw[HNT.out];exact qF ho2 hXs)
     have HKB:Hid (∀w8,Bl wr w8->KT W.heap.size X w8/\LG x W.heap.size w8 bB bH cu cc (.slice ap np cp) vb (.slice av nv cv) p q):=hid fun w8 hb8=>⟨HKT.out.trans (KT.of_below hb8 (by have h8:=HLGq.out.cur.lt cu rfl;omega)),HLGq.out.below HX.out hb8⟩;have HNPT:Hid (np=p.length/\nT=x.nT):=hid ⟨HNP.out,HNT.out⟩;gi_wp2_with (first|(refine⟨trivial,rfl,?_⟩;gi_at_call 165;refine(callsIn_wide.2 KWi.out).mono ?_;rintro e w8 ⟨g8,c8,g8',c8',rfl,hb8,hbr8⟩;obtain⟨fn,tmps,assign,body,hy,hR⟩:=HYy.out _ yv (.slice (some ⟨g8,0,none⟩) (np+1) c8,.slice (some ⟨g8',0,none⟩) nT c8') X w8 HJq.out (HKB.out w8 hb8).1 ⟨hbr8,HYN.out,⟨g8,c8,by rw[<-HNPT.out.1]⟩,⟨g8',c8',by rw[<-HNPT.out.2]⟩⟩;dsimp only[Ku]at hy)|fail)
     have HL8:=hid (HKB.out w8 hb8).2;refine⟨rfl,?_⟩;refine hR.mono ?_;rintro e w9 (⟨rfl,hJ9,hK9⟩|⟨rfl,hJx9,-⟩)
     ·have HN:Hid (∃q X,J ((L.take (k+1)).filter fun y=>x.all p y) X/\KT W.heap.size X w9/\LG x W.heap.size w9 bB bH cu cc (.slice ap np cp) vb (.slice av nv cv) p q/\∀j,j < i->q j < (x.vl p j).length/\(k+1 < nL->∀m,m < q j->(x.vl p j).getD m 0 < L.getD (k+1) 0)):=hid ⟨q,w9,by rw[HFl.out];exact hJ9,KT.refl _ _,HL8.out.kp HX.out hK9,fun j hj=>⟨(HPq.out j hj).1,fun hk1 m hm=>by
       have h1:=(HPq.out j hj).2 m hm;have h2:=HNXT.out (k+1) (by omega) hk1;omega⟩⟩
      clear hJ9 hK9 hR hy;gi_wp2
      go_wp2_with fail
      simp only[Exit.noGoto,Exit.inBlock,Exit.then];go_wp2_with fail
      go_roundw
      case rel=>exact⟨k+1,by omega,by go_num,HN⟩
      case measure=>simp[intOf];omega
     ·clear hR hy;gi_wp2
      go_wp2_with fail
      simp only[Exit.noGoto,Exit.inBlock,Exit.then];refine bodyPost_ret (P:=Tryz.prog) (fn:=Tryz.f159) (R:=fun e W'=>(∃v,e=.returned v)/\(J (nxt p) W'∨Jx W')) (results_none rfl _ _ _) rfl ?_;exact⟨⟨_,rfl⟩,Or.inr hJx9⟩
  ·obtain rfl:k=nL:=by omega
   have i1:¬((k:Int) < (k:Int)):=by omega
   obtain⟨q,X,hJ1,hKT1,hLG1,-⟩:=HT.out
   have HF:Hid (J (nxt p) wr):=hid (by
    have:=HJ.out _ _ _ hJ1 hKT1;rw[HNL.out,tL,<-HNX.out]at this;exact this)
   clear hJ1 hKT1 hLG1 HT;go_wp2_with fail
   go_end0
   exact⟨⟨_,rfl⟩,Or.inl HF.out⟩
theorem XS(w:World)(a0 a1:Option Addr)(n0 c0 n1 c1:Nat):
 Cl 87 #[.slice a0 n0 c0,.slice a1 n1 c1] w fun e w'=>e=.returned (.func (.func 106) #[] #[.pointer (some ⟨w.heap.size,0,none⟩),.pointer (some ⟨w.heap.size+1,0,none⟩)])/\w'=(w.alloc (.cells #[.slice a0 n0 c0] 32)).alloc (.cells #[.slice a1 n1 c1] 24):=by
 go_enter Tryz.func87,Tryz.ntmps87
 go_wp2;go_ret;exact⟨rfl,rfl⟩
def jx0(h r v:Nat):JX:=mkX h r v 0 [] [] (fun _ _=>0) (fun _ _=>undef) (fun _ _=>undef) undef []
section
variable {h r v n0:Nat} {tl:List TbV} {o:List Int} {f:Nat->List Int->Nat} {g0 g1:Nat->List Int->Value} {hv:Value} {uh:List Value} {S:Nat->Prop} {X Y:World}
theorem kp0(k:KpS (jx0 h r v) S X Y):KpS (mkX h r v n0 tl o f g0 g1 hv uh) S X Y:=⟨k.os,k.tape,k.output,k.size,k.same,k.fresh,k.typ⟩
end
def qBy(no:Nat)(tot pre:List (List Int))(p:List Int)(vp:Value)(X Y:World):Prop:=Y.ownsRow X.heap.size 3 1 vp p.length (p.map (Value.int .i64))/\p.length<=no/\(∃g c,vp=.slice (some ⟨g,0,none⟩) p.length c)/\pre++[p] <+:tot
def qw(tl:List TbV)(o:List Int):List (List Int):=if xJ tl then [] else qp (nxJ tl o) o.length []
theorem Jt{cs:List (Option Addr)}(hl:cs.length=tl.length)(hT:∀t,t < tl.length->TrO B W ((tl.map fun t=>(sdT o t).rows).getD t []) (cs.getD t none)):jb cs=xJ tl:=by
 have hT':∀t,t < tl.length->TrO B W (sdT o (tl.getD t qA)).rows (cs.getD t none):=fun t ht=>by
  have:=hT t ht;rw[gD,bJ,gE ht]at this;have e3:tl.getD t qA=tl[t]:=by rw[gD,gE ht];rfl
  rw[e3];exact this
 have hE:∀t:TbV,(sdT o t).rows=[]↔t.rows.length=0:=fun t=>by
  constructor
  ·intro h;by_cases e:t.rows=[]
   ·rw[e];rfl
   ·exact absurd h (qAz (by simpa using e))
  ·intro h;have:t.rows=[]:=List.eq_nil_of_length_eq_zero h;show srt (t.rows.map _)=[];rw[this];exact vP (by simp)
 unfold jb xJ;rw[Bool.eq_iff_iff,dE,List.any_eq_true];constructor
 ·intro h;obtain⟨i,hi,e⟩:=gO h;have hi':i < tl.length:=by omega
  refine⟨tl.getD i qA,jD hi',decide_eq_true ?_⟩;have h1:=hT' i hi';have e2:cs.getD i none=none:=by rw[gD,gE hi];exact e
  rw[e2]at h1;rcases h1 with ⟨h2,-⟩|⟨-,D,N,f,g0,g1,h2,-⟩
  ·exact(hE _).1 h2
  ·cases h2
 ·rintro⟨t,ht,h1⟩;obtain⟨i,hi,rfl⟩:=gO ht;have h2:=hT' i hi;have e3:tl.getD i qA=tl[i]:=by rw[gD,gE hi];rfl
  rw[e3]at h2;have h3:=(hE _).2 (of_decide_eq_true h1);rcases h2 with ⟨-,h4⟩|⟨h4,-⟩
  ·rw[gD,gE (by omega)]at h4;have:cs[i]'(by omega)∈cs:=gM _;have h5:cs[i]'(by omega)=none:=h4;rw[h5]at this;exact this
  ·exact absurd h3 h4
theorem qBz{cs:List (Option Addr)}(hl:cs.length=tl.length)(hT:∀t,t < tl.length->TrO B W ((tl.map fun t=>(sdT o t).rows).getD t []) (cs.getD t none))(hne:xJ tl=false):
 ∃(f:Nat->List Int->Nat) (g0 g1:Nat->List Int->Value),cs=(List.range tl.length).map (fun t=>some ⟨f t [],0,none⟩)/\∀t,t < tl.length->TR W B (fun p=>p=[]∨∃r∈(sdT o (tl.getD t qA)).rows,p <+:r) (nN (sdT o (tl.getD t qA)).vars.length (sdT o (tl.getD t qA)).rows) (nN (sdT o (tl.getD t qA)).vars.length (sdT o (tl.getD t qA)).rows) (f t) (g0 t) (g1 t):=by
 have hne':=hne;rw[<-Jt hl hT]at hne';have hn:none∉cs:=of_decide_eq_false hne'
 have hT':∀t,t < tl.length->∃f g0 g1,cs.getD t none=some ⟨f [],0,none⟩/\TR W B (fun p=>p=[]∨∃r∈(sdT o (tl.getD t qA)).rows,p <+:r) (nN (sdT o (tl.getD t qA)).vars.length (sdT o (tl.getD t qA)).rows) (nN (sdT o (tl.getD t qA)).vars.length (sdT o (tl.getD t qA)).rows) f g0 g1:=fun t ht=>by
  have h1:=hT t ht;rw[gD,bJ,gE ht]at h1;have e3:tl.getD t qA=tl[t]:=by rw[gD,gE ht];rfl
  rw[e3];rcases TrO.tr (h1:TrO B W (sdT o tl[t]).rows _)with ⟨-,h2⟩|⟨-,h2⟩
  ·exfalso;rw[gD,gE (by omega)]at h2;have h3:cs[t]'(by omega)=none:=h2;have h4:cs[t]'(by omega)∈cs:=gM _;rw[h3]at h4;exact hn h4
  ·exact h2
 have hC:∀t,∃fg:(List Int->Nat)×(List Int->Value)×(List Int->Value),t < tl.length->cs.getD t none=some ⟨fg.1 [],0,none⟩/\TR W B (fun p=>p=[]∨∃r∈(sdT o (tl.getD t qA)).rows,p <+:r) (nN (sdT o (tl.getD t qA)).vars.length (sdT o (tl.getD t qA)).rows) (nN (sdT o (tl.getD t qA)).vars.length (sdT o (tl.getD t qA)).rows) fg.1 fg.2.1 fg.2.2:=fun t=>by
  by_cases ht:t < tl.length
  ·obtain⟨f,g0,g1,h⟩:=hT' t ht;exact⟨(f,g0,g1),fun _=>h⟩
  ·exact⟨(fun _=>0,fun _=>undef,fun _=>undef),fun h=>absurd h ht⟩
 obtain⟨F,hF⟩:=Classical.axiomOfChoice hC;refine⟨fun t=>(F t).1,fun t=>(F t).2.1,fun t=>(F t).2.2,?_,fun t ht=>(hF t ht).2⟩;refine List.ext_getElem? fun i=>?_;by_cases hi:i < tl.length
 ·rw[bJ,List.getElem?_range hi];have:=(hF i hi).1;rw[gD,gE (by omega)]at this;rw[gE (by omega)];exact congrArg some this
 ·rw[gN (by omega),gN (by simp;omega)]
end Go.Proofs.YtjbpgdpciinlcaaGreat
