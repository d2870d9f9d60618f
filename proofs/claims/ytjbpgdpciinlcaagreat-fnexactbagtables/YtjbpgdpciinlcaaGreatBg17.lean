import Derived.Test.YtjbpgdpciinlcaaGreatBg16
set_option maxHeartbeats 40000000
set_option maxRecDepth 1000000
namespace Go.Proofs.YtjbpgdpciinlcaaGreat
open Go.RowKit
variable {x:Int}{R:List (List Int)}{L o:List Int}{b c g g3 lk n:Nat}{PB:Obj}{v:Value}{W W' X Y w:World}
def qN(o vars:List Int)(i:Nat):Bool:=decide (o.getD i 0∈vars)
theorem qCD(H:Nat->Bool)(p:List Int){i:Nat}(hi:i < p.length):prt H (p.take (i+1))=prt H (p.take i)++(if H i then [p.getD i 0] else []):=by
 have e:p.take (i+1)=p.take i++[p.getD i 0]:=qm hi;rw[e,Qv,bQ,Nat.min_eq_left (by omega)]
theorem kg(w:World)(a0 a1:Option Addr)(n1 c0 c1:Nat)(vo vp:Value)(vars o p:List Int)(hv:IS w (.slice a0 vars.length c0) vars)(ho:IS w vo o)(hp:IS w vp p)(hl:p.length<=o.length)(hb:o.length<=1000)(hbv:vars.length<=1000):
 Cl 72 #[.agg #[.slice a0 vars.length c0,.slice a1 n1 c1],vo,vp] w fun e w'=>∃g c,e=.returned (.slice (some ⟨g,0,none⟩) (prt (qN o vars) p).length c)/\w'.ownsRow w.heap.size 3 1 (.slice (some ⟨g,0,none⟩) (prt (qN o vars) p).length c) (prt (qN o vars) p).length ((prt (qN o vars) p).map (Value.int .i64))/\Bl w w':=by
 obtain⟨i0,hi,hz0,hz1,hz2⟩:=info_parts Tryz.infoInt;obtain⟨ap,cp0,rfl,hcp⟩:=hp;obtain⟨ao,co,rfl,hco⟩:=ho;obtain⟨n,hn⟩:∃n,n=p.length:=⟨_,rfl⟩;obtain⟨no,hno⟩:∃no,no=o.length:=⟨_,rfl⟩;have HN:=hid hn;obtain⟨W1,hW1⟩:∃W1,W1=w.alloc (.cells #[.slice a0 vars.length c0,.slice a1 n1 c1] 94):=⟨_,rfl⟩;have hB1:Bl w W1:=by rw[hW1];exact(bI _ _).alloc (nR _) _
 have hs1:W1.heap.size=w.heap.size+1:=by rw[hW1];simp
 have hbx:W1.cell? ⟨w.heap.size,0,none⟩=some (.slice a0 vars.length c0):=by rw[hW1,cA _ _ _ _ rfl];rfl
 have HV:=hid (hv.below hB1);have HB1:=hid hB1
 have HCP:Hid (n=0∨∃b q,ap=some ⟨b,q,none⟩/\∀j,j < n->W1.cell? ⟨b,q+j,none⟩=some (.int .i64 (p.getD j 0))):=hid (by
  rw[hn];rcases hcp with h0|⟨b,q,rfl,h⟩
  ·exact Or.inl h0
  ·exact Or.inr ⟨b,q,rfl,fun j hj=>(hB1.cell (bL w _ (h j hj))).trans (h j hj)⟩)
 have HCO:Hid (no=0∨∃b q,ao=some ⟨b,q,none⟩/\∀j,j < no->W1.cell? ⟨b,q+j,none⟩=some (.int .i64 (o.getD j 0))):=hid (by
  rw[hno];rcases hco with h0|⟨b,q,rfl,h⟩
  ·exact Or.inl h0
  ·exact Or.inr ⟨b,q,rfl,fun j hj=>(hB1.cell (bL w _ (h j hj))).trans (h j hj)⟩)
 obtain⟨PL,hPL⟩:∃PL:Nat->List Int,PL=fun k=>prt (qN o vars) (p.take k):=⟨_,rfl⟩;have H0:Hid (PL 0=[]):=hid (by rw[hPL];rfl);have HS:Hid (∀k,k < n->PL (k+1)=PL k++(if qN o vars k then [p.getD k 0] else [])):=hid (fun k hk=>by rw[hPL];exact qCD _ p (by omega));have HE:Hid (PL n=prt (qN o vars) p):=hid (by rw[hPL,hn];show prt _ (p.take p.length)=_;rw[tL]);rw[<-HE.out];rw[<-hn,<-hno];have hnl:n<=no:=by omega
 have hno1:no<=1000:=by omega
 have HS1:=hid hs1;clear hPL hv hcp hco hB1 hl hb hn hno hs1;go_enter Tryz.func72,Tryz.ntmps72
 go_upto_region 1 with fail
 rw[<-hW1];clear hW1;have b0:Bl W1 (W1.alloc (.cells #[] 3)):=(bI _ _).alloc (nR _) _;have HB0:=hid b0;clear b0;go_upto_block 0 with fail
 go_wp2_with fail
 go_loopw [7,13] (fun v t wr=>∃k g cp lk:Nat,k<=n/\t=.int .i64 k/\v=.slice (some ⟨g,0,none⟩) lk cp/\lk<=k/\Hid (lk=(PL k).length/\wr.ownsRow W1.heap.size 3 1 (.slice (some ⟨g,0,none⟩) lk cp) lk ((PL k).map (Value.int .i64))/\Bl W1 wr)) (fun _ t _=>n - (intOf t).toNat)
 case atStart=>exact⟨0,W1.heap.size,0,0,nZ _,rfl,rfl,nR _,hid (by rw[H0.out];exact⟨rfl,oM W1 #[] 0 (nR _) (by decide) rfl,HB0.out⟩)⟩
 case round=>
  clear HB0;obtain⟨k,g,cp,lk,hk,rfl,rfl,hlk,HT⟩:=hrel;have hns:=HT.out.2.2.size;by_cases hkn:k < n
  ·have i1:(k:Int) < (n:Int):=by omega
   have i2:(k:Int) < (no:Int):=by omega
   rcases HCP.out with h0|⟨b,q,rfl,hcell⟩
   ·omega
   rcases HCO.out with h0|⟨bo,qo,rfl,hcelo⟩
   ·omega
   have c1:wr.cell? ⟨b,q+k,none⟩=some (.int .i64 (p.getD k 0)):=(HT.out.2.2.cell (bL W1 _ (hcell k hkn))).trans (hcell k hkn);have c2:wr.cell? ⟨bo,qo+k,none⟩=some (.int .i64 (o.getD k 0)):=(HT.out.2.2.cell (bL W1 _ (hcelo k (by omega)))).trans (hcelo k (by omega));have c3:wr.cell? ⟨w.heap.size,0,none⟩=some (.slice a0 vars.length c0):=(HT.out.2.2.cell (bL W1 _ hbx)).trans hbx;have HK:=hid (fun W (hW:Bl W1 W)=>zY W _ vars (o.getD k 0) (HV.out.below hW) (by omega));have e1:=HS.out k hkn;have ey:decide (o.getD k 0∈vars)=qN o vars k:=rfl;rw[ey]at HK;clear hcell hcelo ey;generalize qN o vars k=y at *;generalize p.getD k 0=x at *;generalize o.getD k 0=ov at *;have HQ1:Hid (∀q,Bl W1 (wr.drewN q)):=hid fun q=>below_drewN HT.out.2.2 q;cases y
   ·rw[if_neg (by decide),List.append_nil]at e1;have HF:Hid (∀d,lk=(PL (k+1)).length/\(wr.drewN d).ownsRow W1.heap.size 3 1 (.slice (some ⟨g,0,none⟩) lk cp) lk ((PL (k+1)).map (Value.int .i64))/\Bl W1 (wr.drewN d)):=hid (fun d=>by rw[e1];exact⟨HT.out.1,HT.out.2.1,below_drewN HT.out.2.2 d⟩);clear e1 HT;go_upto_region 5 with fail
    go_quiet (first|(go_at_call 46;exact Calls.quiet_of_same (HK.out _ (HQ1.out _))))
    go_wp2_with fail
    go_roundw
    case rel=>exact⟨k+1,g,cp,lk,by omega,by go_num,rfl,by omega,hid (HF.out nq)⟩
    case measure=>simp[intOf];omega
   ·rw[if_pos rfl]at e1;have E1:=hid e1;clear e1;go_upto_region 5 with fail
    go_quiet (first|(go_at_call 46;exact Calls.quiet_of_same (HK.out _ (HQ1.out _))))
    have HOd:Hid ((wr.drewN nq).ownsRow W1.heap.size 3 1 (.slice (some ⟨g,0,none⟩) lk cp) lk ((PL k).map (Value.int .i64))):=hid HT.out.2.1;have HBd:=hid (HQ1.out nq);have hsd:W1.heap.size<=(wr.drewN nq).heap.size:=HBd.out.size;generalize wr.drewN nq=wd at HOd HBd hsd ⊢
    go_wp2_with (first
     |(at_builtin;refine wpList_append_lies _ rfl _ _ 24 rfl W1.heap.size 3 i0 (.int .i64 0) 1 8 Tryz.underlying24 hi hz0 hz1 hz2 rfl (by decide) (.slice (some ⟨g,0,none⟩) lk cp) _ _ rfl (HOd.out.alloc _) ⟨_,0,none⟩ 1 1 [.int .i64 x] rfl rfl (qH _ _ _) (fun u hu=>by simp at hu;subst hu;rfl) (by decide) (by unfold maxLen;omega) (by omega) (by simp;omega) _ rfl ?_;intro g3 cp3 w3 hown3 hgrow3 hat3 hlt3)|fail)
    have HF:Hid (lk+1=(PL (k+1)).length/\w3.ownsRow W1.heap.size 3 1 (.slice (some ⟨g3,0,none⟩) (lk+1) cp3) (lk+1) ((PL (k+1)).map (Value.int .i64))/\Bl W1 w3):=hid (by
     rw[E1.out,lA,lS,mA];exact⟨by rw[HT.out.1],hown3,(HBd.out.alloc hsd _).grown hgrow3 (by simp;omega) (fun q hq=>(HOd.out.lt q hq).1)⟩)
    clear hown3 hgrow3 hat3 hlt3 HT;go_roundw
    case rel=>exact⟨k+1,g3,cp3,lk+1,by omega,by go_num,rfl,by omega,HF⟩
    case measure=>simp[intOf];omega
  ·obtain rfl:k=n:=by omega
   have i1:¬((k:Int) < (k:Int)):=by omega
   obtain⟨h1,h3,h4⟩:=HT.out;have HF:Hid (wr.ownsRow w.heap.size 3 1 (.slice (some ⟨g,0,none⟩) (PL k).length cp) (PL k).length ((PL k).map (Value.int .i64))/\Bl w wr):=hid (by rw[<-h1];exact⟨qF h3 (by have:=HS1.out;omega),HB1.out.trans (h4.mono (by have:=HS1.out;omega))⟩);have H1:=hid h1;clear h1 h3 h4 HT;go_wp2_with fail
   go_ret;exact⟨g,cp,by rw[H1.out];rfl,HF.out.1,HF.out.2⟩
def kA(R:List (List Int))(q:List Int):Nat:=R.findIdx fun r=>!decide (qD (r.take q.length) q < 0)
def nA(R:List (List Int))(q:List Int):Nat:=(R.drop (kA R q)).findIdx fun r=>!decide (r.take q.length=q)
def nN(m:Nat)(R:List (List Int))(q:List Int):List Int:=if q.length < m then VA R q (kA R q) (nA R q) else []
section
variable {R:List (List Int)} {q:List Int}
theorem qCk(hS:SL R):Sk R q (kA R q):=by
 have hle:kA R q<=R.length:=List.findIdx_le_length
 have hlo:∀j,j < kA R q->qD ((R.getD j []).take q.length) q < 0:=fun j hj=>by
  have:=List.not_of_lt_findIdx hj;rw[Bool.not_eq_false',dE]at this;rw[gD,gE (by omega)];exact this
 refine⟨hle,hlo,fun j h1 h2 hc=>?_⟩;have h3:kA R q < R.length:=by omega
 have h4:=List.findIdx_getElem (w:=h3);rw[Bool.not_eq_true',decide_eq_false_iff_not]at h4;refine h4 ?_;have:=J4 hS h1 h2 hc;rw[gD,gE h3]at this;exact this
theorem Zm:Run R q (kA R q) (nA R q):=by
 have hle:nA R q<=(R.drop (kA R q)).length:=List.findIdx_le_length;rw[List.length_drop]at hle;have hk:kA R q<=R.length:=List.findIdx_le_length;refine⟨by omega,fun j hj=>?_⟩;have:=List.not_of_lt_findIdx hj;rw[Bool.not_eq_false',dE,List.getElem_drop]at this;rw[gD,gE (by omega)];exact this
theorem qA6(h:kA R q+nA R q < R.length):(R.getD (kA R q+nA R q) []).take q.length≠q:=by
 have h1:nA R q < (R.drop (kA R q)).length:=by rw[List.length_drop];omega
 have h2:(!decide (((R.drop (kA R q))[nA R q]'h1).take q.length=q))=true:=List.findIdx_getElem (w:=h1);rw[Bool.not_eq_true',decide_eq_false_iff_not,List.getElem_drop]at h2;rw[gD,gE h];exact h2
theorem qCA(hS:SL R){k:Nat}(hk:Sk R q k)(h:Run R q k n)(hE:k+n < R.length->(R.getD (k+n) []).take q.length≠q):k=kA R q/\n=nA R q:=by
 have h1:=qCk (q:=q) hS
 have hkk:k=kA R q:=by
  rcases Nat.lt_trichotomy k (kA R q)with h2|h2|h2
  ·exact absurd (h1.lo k h2) (hk.hi k (nR _) (by have:=h1.le;omega))
  ·exact h2
  ·exact absurd (hk.lo _ h2) (h1.hi _ (nR _) (by have:=hk.le;omega))
 subst hkk;refine⟨rfl,?_⟩;have h3:=Zm (R:=R) (q:=q);rcases Nat.lt_trichotomy n (nA R q)with h2|h2|h2
 ·exact absurd (h3.beg n h2) (hE (by have:=h3.le;omega))
 ·exact h2
 ·exact absurd (h.beg _ h2) (qA6 (by have:=h.le;omega))
end
theorem Ky{m:Nat}(hS:SL R)(hl:∀r∈R,r.length=m):TM R (fun p=>p=[]∨∃r∈R,p <+:r) (nN m R):=by
 refine⟨fun p=>Iff.rfl,fun p _ x=>?_,fun p _=>?_⟩
 ·unfold nN;by_cases h:p.length < m
  ·rw[if_pos h,qEC hS (fun r hr=>by rw[hl r hr];exact h) (qCk hS) Zm qA6];constructor
   ·exact Or.inr
   ·rintro (h1|h1)
    ·simp at h1
    ·exact h1
  ·rw[if_neg h];constructor
   ·intro h1;cases h1
   ·rintro (h1|⟨r,hr,h1⟩)
    ·simp at h1
    ·have:=h1.length_le;rw[lA,lS,hl r hr]at this;omega
 ·unfold nN;by_cases h:p.length < m
  ·rw[if_pos h];exact qA5 hS (fun r hr=>by rw[hl r hr];exact h) _ Zm
  ·rw[if_neg h];exact List.Pairwise.nil
structure SdM where
 vars:List Int
 rows:List (List Int)
def qV:SdM:=⟨[],[]⟩
def sdO(o:List Int)(s:SdM):Sd:=⟨qN o s.vars,s.rows,nN s.vars.length s.rows⟩
structure SdM.Ok(s:SdM):Prop where
 sl:SL s.rows
 len:∀r∈s.rows,r.length=s.vars.length
theorem qA7{s:SdM}(h:s.Ok):(sdO o s).Ok:=⟨Ky h.sl h.len⟩
theorem V0{q:List Int}:yQ R q=true↔∃r∈R,q <+:r:=by
 unfold yQ;rw[List.any_eq_true];constructor
 ·rintro⟨r,hr,h⟩;refine⟨r,hr,?_⟩;rw[<-of_decide_eq_true h];exact List.take_prefix _ _
 ·rintro⟨r,hr,t,ht⟩;exact⟨r,hr,decide_eq_true (by rw[<-ht,List.take_left])⟩
def SdAt(W:World)(b o:Nat)(s:SdM):Prop:=∃a0 c0 a1 c1,W.cell? ⟨b,o,none⟩=some (.slice a0 s.vars.length c0)/\W.cell? ⟨b,o+1,none⟩=some (.slice a1 s.rows.length c1)/\IS W (.slice a0 s.vars.length c0) s.vars/\ISSc W (.slice a1 s.rows.length c1) s.rows
def ISds(W:World)(v:Value)(ss:List SdM):Prop:=∃a cap,v=.slice a ss.length cap/\(ss.length=0∨∃b o,a=some ⟨b,o,none⟩/\∀j,j < ss.length->SdAt W b (o+j*2) (ss.getD j qV))
theorem SdAt.below{o:Nat}{s:SdM}(h:SdAt W b o s)(hb:Bl W W'):SdAt W' b o s:=by
 obtain⟨a0,c0,a1,c1,h1,h2,h3,h4⟩:=h;exact⟨a0,c0,a1,c1,(hb.cell (bL W _ h1)).trans h1,(hb.cell (bL W _ h2)).trans h2,h3.below hb,h4.below hb⟩
def zQ(o:List Int)(ss:List SdM)(n:Nat):Nat:=ss.findIdx fun s=>qN o s.vars n
theorem qDJ{ss:List SdM}(h:∃s∈ss,qN o s.vars n=true):zQ o ss n < ss.length:=List.findIdx_lt_length_of_exists h
theorem Jv{ss:List SdM}(h:zQ o ss n < ss.length):qN o (ss.getD (zQ o ss n) qV).vars n=true:=by
 have:=List.findIdx_getElem (w:=h);rw[gD,gE h];exact this
theorem qDK{ss:List SdM}{j:Nat}(h:j < zQ o ss n)(hj:j < ss.length):qN o (ss.getD j qV).vars n=false:=by
 have:=List.not_of_lt_findIdx h;rw[gD,gE hj];exact this
def zw(o:List Int)(ss:List SdM)(p:List Int)(x:Int)(j:Nat):Bool:=(List.range j).all fun t=>decide (t=zQ o ss p.length)||!qN o (ss.getD t qV).vars p.length||yQ (ss.getD t qV).rows (prt (qN o (ss.getD t qV).vars) p++[x])
theorem qBD(o:List Int)(ss:List SdM)(p:List Int)(x:Int)(j:Nat):zw o ss p x (j+1)=(zw o ss p x j&&(decide (j=zQ o ss p.length)||!qN o (ss.getD j qV).vars p.length||yQ (ss.getD j qV).rows (prt (qN o (ss.getD j qV).vars) p++[x]))):=by
 unfold zw;rw[List.range_succ,List.all_append];simp
theorem qDL{ss:List SdM}(hok:∀s∈ss,s.Ok){p:List Int}(hH:Hld (ss.map (sdO o)) p)(hf:zQ o ss p.length < ss.length)(hcnt:∀s∈ss,qN o s.vars p.length=true->(prt (qN o s.vars) p).length < s.vars.length):
 vV (ss.map (sdO o)) p=(VA (ss.getD (zQ o ss p.length) qV).rows (prt (qN o (ss.getD (zQ o ss p.length) qV).vars) p) (kA (ss.getD (zQ o ss p.length) qV).rows (prt (qN o (ss.getD (zQ o ss p.length) qV).vars) p)) (nA (ss.getD (zQ o ss p.length) qV).rows (prt (qN o (ss.getD (zQ o ss p.length) qV).vars) p))).filter fun x=>zw o ss p x ss.length:=by
 have hgm:∀j,j < ss.length->ss.getD j qV∈ss:=fun j hj=>by rw[gD,gE hj];exact gM hj
 have hm:=hgm _ hf;have hh:=Jv hf
 have hok2:∀s∈ss.map (sdO o),s.Ok:=fun s hs=>by
  obtain⟨t,ht,rfl⟩:=List.mem_map.1 hs;exact qA7 (hok t ht)
 rw[XT hok2 (List.mem_map_of_mem hm) hH hh];unfold vF;have hc:=hcnt _ hm hh;have e:(sdO o (ss.getD (zQ o ss p.length) qV)).N (prt (sdO o (ss.getD (zQ o ss p.length) qV)).H p)=VA (ss.getD (zQ o ss p.length) qV).rows (prt (qN o (ss.getD (zQ o ss p.length) qV).vars) p) (kA (ss.getD (zQ o ss p.length) qV).rows (prt (qN o (ss.getD (zQ o ss p.length) qV).vars) p)) (nA (ss.getD (zQ o ss p.length) qV).rows (prt (qN o (ss.getD (zQ o ss p.length) qV).vars) p)):=if_pos hc;rw[e];refine List.filter_congr fun x hx=>?_;rw[<-e]at hx;rw[Bool.eq_iff_iff,jd];unfold zw;rw[aT];constructor
 ·intro h t ht;have ht2:=List.mem_range.1 ht;by_cases e1:t=zQ o ss p.length
  ·simp[e1]
  ·cases hb:qN o (ss.getD t qV).vars p.length
   ·simp
   ·have h1:=h _ (List.mem_map_of_mem (hgm t ht2)) hb;rw[(hok2 _ (List.mem_map_of_mem (hgm t ht2))).tm.mem _ (hH _ (List.mem_map_of_mem (hgm t ht2)))]at h1;rcases h1 with h1|h1
    ·simp at h1
    ·have h2:yQ (ss.getD t qV).rows (prt (qN o (ss.getD t qV).vars) p++[x])=true:=V0.2 h1;rw[h2,Bool.or_true]
 ·intro h s hs hH2;obtain⟨q,hq,rfl⟩:=List.mem_map.1 hs;obtain⟨t,ht,rfl⟩:=gO hq;have hg:ss.getD t qV=ss[t]:=by rw[gD,gE ht];rfl
  rw[<-hg]at hs hH2 ⊢;by_cases e1:t=zQ o ss p.length
  ·rw[e1];exact hx
  ·have h1:=h t (List.mem_range.2 ht);have hH3:qN o (ss.getD t qV).vars p.length=true:=hH2;rw[decide_eq_false e1,hH3]at h1;have h2:yQ (ss.getD t qV).rows (prt (qN o (ss.getD t qV).vars) p++[x])=true:=by simpa using h1
   exact((hok2 _ hs).tm.mem _ (hH _ hs) x).2 (Or.inr (V0.1 h2))
theorem upJ{o:Nat}(hb:Bl X Y)(hc:X.cell? ⟨b,o,none⟩=some v):Y.cell? ⟨b,o,none⟩=some v:=(hb.cell (p:=⟨b,o,none⟩) (bL X _ hc)).trans hc
theorem Kz(W:World)(x0 x1:Value):Bl W (W.alloc (.cells #[x0,x1] 94))/\(W.alloc (.cells #[x0,x1] 94)).cell? ⟨W.heap.size,0,none⟩=some x0/\(W.alloc (.cells #[x0,x1] 94)).cell? ⟨W.heap.size,1,none⟩=some x1:=by
 refine⟨(bI _ _).alloc (nR _) _,?_,?_⟩;all_goals(rw[cA _ _ _ _ rfl];rfl)
structure JN(w W:World)(g3:Nat)(PB:Obj)(g c lk:Nat)(L:List Int):Prop where
 bel:Bl w W
 prt:W.heap[g3]?=some PB
 own:W.ownsRow w.heap.size 3 1 (.slice (some ⟨g,0,none⟩) lk c) lk (L.map (Value.int .i64))
 ne:g≠g3
theorem ltJ{o:Obj}(h:W.heap[b]?=some o):b < W.heap.size:=(Array.getElem?_eq_some_iff.1 h).1
theorem JN.below(h:JN w W g3 PB g c lk L)(hb:Bl W W'):JN w W' g3 PB g c lk L:=
 ⟨bt h.bel hb,(hb.block _ (ltJ h.prt)).trans h.prt,qB h.own hb,h.ne⟩
theorem JN.push{w3:World}{g' c':Nat}{o:Obj}(h:JN w W g3 PB g c lk L)(hg:(W.alloc o).grownBy w3 (Value.slice (some ⟨g,0,none⟩) lk c).ownBlock)(hown:w3.ownsRow w.heap.size 3 1 (.slice (some ⟨g',0,none⟩) (lk+1) c') (lk+1) (L.map (Value.int .i64)++[.int .i64 x]))(hat:(Value.slice (some ⟨g,0,none⟩) lk c).ownBlock=some g'∨g'=(W.alloc o).heap.size):JN w w3 g3 PB g' c' (lk+1) (L++[x]):=by
 have hl:=ltJ h.prt;refine⟨?_,?_,by rw[mA];exact hown,?_⟩
 ·exact(h.bel.alloc h.bel.size _).grown hg (by rw[World.size_alloc];have:=h.bel.size;omega) (fun q hq=>(h.own.lt q hq).1)
 ·exact(zi hg hl (fun e=>h.ne (by simp[Value.ownBlock]at e;exact e.symm))).trans h.prt
 ·rcases hat with h1|h1
  ·have:g=g':=by simpa[Value.ownBlock]using h1
   rw[<-this];exact h.ne
  ·rw[h1,World.size_alloc];omega
theorem qCE{a:Addr}(hb:Bl X Y)(hc:X.cell? a=some v):Y.cell? a=some v:=(hb.cell (bL X _ hc)).trans hc
theorem qDM{B:Nat}{l:List Int}(h:w.ownsRow B 3 1 v (n+1) (l.map (Value.int .i64)++[.int .i64 x])):IS w v (l++[x]):=by
 have e:n+1=(l++[x]).length:=by have:=h.1;simp at this;simp;omega
 rw[e]at h;exact qW (by rw[mA];exact h)
section
variable {P:Program} (w:World)
theorem j8{ops:Array Oper}{o:Oper}{a:Act}{K:Act->World->Prop}{Q:Exit->Act->World->Prop}{E:Prop}(hw:Region.wanted o (yielded ops a.tmps)=true)(s x:Operand)(t:TypeId)
 (ho:o.op=.call { callee:=.builtin .append,args:=#[s,x],argTypes:=#[t,t] })
 (base:Nat) (e:TypeId) (i:TypeInfo) (z:Value) (size bytes:Nat) (ht:P.underlying t=some (.slice e)) (hi:P.info? e=some i) (hz:i.zero=some z)
 (hsize:i.size=size) (hby:i.bytes=bytes) (hzs:z.cells.size=size) (hsz:0 < size)
 (v:Value) (n:Nat) (xs:List Value) (hs:a.eval s=v) (hown:w.ownsRow base e size v n xs)
 (ad:Addr) (m c:Nat) (news:List Value) (hx:a.eval x=.slice (some ad) m c) (hl:news.length=m*size) (hnews:∀j u,news[j]?=some u->w.cell? (ad.add j)=some u) (h1:∀u∈news,u.oneCell'=true)
 (hm:0 < m) (h63:n+m<=maxLen) (hbytes:(n+m)*bytes<=140737488355328) (hbase:base<=w.heap.size) (H:Nat) (hH:w.heap.size=H)
 (h:∀g cap w',w'.ownsRow base e size (.slice (some ⟨g,0,none⟩) (n+m) cap) (n+m) (xs++news)->w.grownBy w' v.ownBlock->(v.ownBlock=some g∨g=H)->g < w'.heap.size->K (a.put o.dst (.slice (some ⟨g,0,none⟩) (n+m) cap)) w'):
 if Region.wanted o (yielded ops a.tmps)=true then Oper.wp P o a w K Q else E:=by
 rw[if_pos hw];exact wp_append_lies w s x t ho base e i z size bytes ht hi hz hsize hby hzs hsz v n xs hs hown ad m c news hx hl hnews h1 hm h63 hbytes hbase H hH h
end
theorem UC(w:World)(v vo vp:Value)(ss:List SdM)(o p:List Int)(h:ISds w v ss)(ho:IS w vo o)(hp:IS w vp p)(hpl:p.length < o.length)(hob:o.length<=1000)(hss:ss.length<=1000)(hok:∀s∈ss,s.Ok/\s.rows.length<=100000/\s.vars.length<=1000)(hH:Hld (ss.map (sdO o)) p)(hf:zQ o ss p.length < ss.length)(hcnt:∀s∈ss,(prt (qN o s.vars) p).length<=s.vars.length/\(qN o s.vars p.length=true->(prt (qN o s.vars) p).length < s.vars.length)):
 Cl 50 #[v,vo,vp] w fun e w'=>∃g c,e=.returned (.slice (some ⟨g,0,none⟩) (vV (ss.map (sdO o)) p).length c)/\w'.ownsRow w.heap.size 3 1 (.slice (some ⟨g,0,none⟩) (vV (ss.map (sdO o)) p).length c) (vV (ss.map (sdO o)) p).length ((vV (ss.map (sdO o)) p).map (Value.int .i64))/\Bl w w':=by
 obtain⟨i0,hi,hz0,hz1,hz2⟩:=info_parts Tryz.infoInt;rw[qDL (fun s hs=>(hok s hs).1) hH hf (fun s hs=>(hcnt s hs).2)];have hgm:∀j,j < ss.length->ss.getD j qV∈ss:=fun j hj=>by rw[gD,gE hj];exact gM hj
 have hFh:=Jv hf;have hFn:∀j,j < zQ o ss p.length->j < ss.length->qN o (ss.getD j qV).vars p.length=false:=fun j h1 h2=>qDK h1 h2;obtain⟨aS,cS,rfl,hS⟩:=h;rcases hS with h0|⟨bS,oS,rfl,hS⟩
 ·omega
 have HO:=hid ho;have HP:=hid hp;obtain⟨ao,co,rfl,hco⟩:=ho;obtain⟨ap,cp0,rfl,-⟩:=hp;rcases hco with h0|⟨bo,qo,rfl,hco⟩
 ·omega
 have c1:w.cell? ⟨bo,qo+p.length,none⟩=some (.int .i64 (o.getD p.length 0)):=hco p.length hpl;obtain⟨F,hF⟩:∃F,F=zQ o ss p.length:=⟨_,rfl⟩;rw[<-hF]at hf hFh hFn ⊢;have HAT:Hid (∀x j,zw o ss p x (j+1)=(zw o ss p x j&&(decide (j=F)||!qN o (ss.getD j qV).vars p.length||yQ (ss.getD j qV).rows (prt (qN o (ss.getD j qV).vars) p++[x])))):=hid fun x j=>by rw[qBD,hF]
 have HA0:Hid (∀x,zw o ss p x 0=true):=hid fun x=>rfl;obtain⟨AN,hAN⟩:∃AN,AN=(VA (ss.getD F qV).rows (prt (qN o (ss.getD F qV).vars) p) (kA (ss.getD F qV).rows (prt (qN o (ss.getD F qV).vars) p)) (nA (ss.getD F qV).rows (prt (qN o (ss.getD F qV).vars) p))).filter fun x=>zw o ss p x ss.length:=⟨_,rfl⟩;rw[<-hAN];have HAN:=hid hAN;clear hF hH hco hAN;obtain⟨n,hn⟩:∃n,n=p.length:=⟨_,rfl⟩;obtain⟨no,hno⟩:∃no,no=o.length:=⟨_,rfl⟩;obtain⟨ns,hns⟩:∃ns,ns=ss.length:=⟨_,rfl⟩;have HN:=hid (And.intro hn (And.intro hno hns));have KH:Hid (∀W a0 c0 j,j < ns->IS W (.slice a0 (ss.getD j qV).vars.length c0) (ss.getD j qV).vars->Cl 46 #[.slice a0 (ss.getD j qV).vars.length c0,.int .i64 (o.getD p.length 0)] W fun e w'=>e=.returned (.bool (qN o (ss.getD j qV).vars p.length))/\w'=W):=hid fun W a0 c0 j hj hI=>zY W _ _ _ hI (by have:=(hok _ (hgm j (by omega))).2.2;omega);rw[<-hn]at c1 hpl hFh hFn KH HAT ⊢;rw[<-hno]at hpl hob ⊢;rw[<-hns]at hss hf hFn hgm hS ⊢;have HS:=hid hS;have HFN:=hid hFn;have HFH:=hid hFh;have HOK:=hid hok;have HCN:=hid hcnt;have HGM:=hid hgm;clear hn hno hns hS hFn hFh hok hcnt hgm;generalize o.getD n 0=ov at *;have hn1:(n:Int) < (no:Int):=by omega
 obtain⟨W1,hW1⟩:∃W1,W1=w.alloc (.cells #[] 3):=⟨_,rfl⟩;have HB1:Hid (Bl w W1):=hid (by rw[hW1];exact(bI _ _).alloc (nR _) _);have HO1:Hid (W1.ownsRow w.heap.size 3 1 (.slice (some ⟨w.heap.size,0,none⟩) 0 0) 0 []):=hid (by rw[hW1];exact oM w #[] 0 (nR _) (by decide) rfl);go_enter Tryz.func50,Tryz.ntmps50
 go_upto_region 3 with fail
 rw[<-hW1];clear hW1 c1;go_upto_block 0 with fail
 go_cut [9] (fun v9 wx=>v9=.int .i64 (F:Int)/\Hid (Bl W1 wx))
 case first=>
  go_wp2_with fail
  go_loopw [9,28] (fun v9 t wr=>∃kk:Nat,kk<=ns/\t=.int .i64 kk/\v9=.int .i64 (if F < kk then (F:Int) else -1)/\Hid (Bl W1 wr)) (fun _ t _=>ns - (intOf t).toNat)
  case atStart=>exact⟨0,nZ _,rfl,by rw[if_neg (by omega)],hid (bI _ _)⟩
  case round=>
   obtain⟨kk,hkk,rfl,rfl,HB⟩:=hrel;by_cases hlt:kk < ns
   ·have i1:(kk:Int) < (ns:Int):=by omega
    obtain⟨a0,c0,a1,cc1,e0,e1,e2,-⟩:=HS.out kk hlt;have hbw:=bt HB1.out HB.out;replace e0:=upJ hbw e0;replace e1:=upJ hbw e1;obtain⟨hb2,d0,d1⟩:=Kz wr (.slice a0 (ss.getD kk qV).vars.length c0) (.slice a1 (ss.getD kk qV).rows.length cc1);have HI2:=hid (e2.below (bt hbw hb2));have HB2:=hid (bt HB.out hb2);clear e2 hb2 hbw;have HK:=hid (KH.out _ a0 c0 kk hlt HI2.out);by_cases hFk:F < kk
    ·rw[if_pos hFk];have i2:¬(F:Int) < 0:=by omega
     clear HK KH;go_wp2_with fail
     go_roundw
     case rel=>exact⟨kk+1,by omega,by go_num,by rw[if_pos (by omega)],HB2⟩
     case measure=>simp[intOf];omega
    ·rw[if_neg hFk];by_cases hEq:kk=F
     ·have hy:qN o (ss.getD kk qV).vars n=true:=by rw[hEq];exact HFH.out
      rw[hy]at HK;have HEq:=hid hEq;have hFk2:F < kk+1:=by omega
      clear KH hy hEq;go_wp2_with (first|(go_at_call 46;refine HK.out.mono ?_;rintro e w2 ⟨rfl,hw2⟩;subst w2)|fail)
      go_roundw
      case rel=>exact⟨kk+1,by omega,by go_num,by rw[if_pos hFk2,HEq.out],HB2⟩
      case measure=>simp[intOf];omega
     ·have hy:qN o (ss.getD kk qV).vars n=false:=HFN.out kk (by omega) hlt;rw[hy]at HK;clear KH hy;go_wp2_with (first|(go_at_call 46;refine HK.out.mono ?_;rintro e w2 ⟨rfl,hw2⟩;subst w2)|fail)
      go_roundw
      case rel=>exact⟨kk+1,by omega,by go_num,by rw[if_neg (by omega)],HB2⟩
      case measure=>simp[intOf];omega
   ·obtain rfl:kk=ns:=by omega
    have i1:¬(kk:Int) < (kk:Int):=by omega
    rw[if_pos (by omega)];go_wp2_with fail
    go_meet;exact⟨rfl,HB⟩
 case rest=>
 obtain⟨rfl,hcut⟩:=hcut;have HBc:=hcut;clear hcut;generalize wc=W2 at *;obtain⟨a0,c0,a1,cc1,e0,e1,e2,e3⟩:=HS.out F hf;have hbw:=bt HB1.out HBc.out;have hFi:(F:Int) < (ns:Int):=by omega
 replace e0:=upJ hbw e0;replace e1:=upJ hbw e1;have HVf:=hid (e2.below hbw);have HRf:=hid (e3.below hbw);have HR0:=hid e3;have HSW:=hid hbw;obtain⟨⟨hsl,hrl⟩,hrb,hvb⟩:=HOK.out _ (HGM.out F hf);obtain⟨-,hql⟩:=HCN.out _ (HGM.out F hf);have hql':=hql (by have:=HFH.out;rw[HN.out.1]at this;exact this);have HSL:=hid hsl;have HRL:=hid hrl;clear e2 e3 hsl hrl hql;generalize hfd:ss.getD F qV=f at *;have HFD:=hid hfd;clear hfd
 have KPt:Hid (∀W,Bl W2 W->Cl 72 #[.agg #[.slice a0 f.vars.length c0,.slice a1 f.rows.length cc1],.slice (some ⟨bo,qo,none⟩) no co,.slice ap n cp0] W fun e w'=>∃g c,e=.returned (.slice (some ⟨g,0,none⟩) (prt (qN o f.vars) p).length c)/\w'.ownsRow W.heap.size 3 1 (.slice (some ⟨g,0,none⟩) (prt (qN o f.vars) p).length c) (prt (qN o f.vars) p).length ((prt (qN o f.vars) p).map (Value.int .i64))/\Bl W w'):=hid fun W hW=>by
  have h1:=HO.out.below (bt hbw hW);have h2:=HP.out.below (bt hbw hW);have:=kg W a0 a1 f.rows.length c0 cc1 _ _ f.vars o p (HVf.out.below hW) h1 h2 (by have:=HN.out;omega) (by have:=HN.out;omega) hvb;rw[<-HN.out.1,<-HN.out.2.1]at this;exact this
 generalize hq:prt (qN o f.vars) p=q at *;have HQ:=hid hq;clear hq;go_upto_region 12 with (first|(go_at_call 72;refine(KPt.out W2 (bI _ _)).mono ?_;rintro e w3 ⟨g3,c3,rfl,hO3,hB3⟩)|fail)
 have HIq:=hid (qW hO3);have HR3:=hid (HRf.out.below hB3);have HB3:=hid (bt HBc.out hB3);have HO3:=hid hO3;have hg3:=hO3.lt g3 rfl;have hW12:=HBc.out.size;have hW1s:w.heap.size < W1.heap.size:=(HO1.out.lt w.heap.size rfl).2;have KSk:=hid (ks w3 _ _ f.rows q HR3.out HIq.out HSL.out (by omega) (fun r hr=>by have:=HRL.out r hr;omega));have HJ3:Hid (∀d,JN w (w3.drewN d) g3 (w3.heap[g3]'hg3.2) w.heap.size 0 0 []):=hid fun d=>⟨below_drewN (bt HB1.out HB3.out) d,Array.getElem?_eq_getElem hg3.2,qB HO1.out (below_drewN HB3.out d),by omega⟩
 have HQI:Hid (∀W,W.heap[g3]?=some (w3.heap[g3]'hg3.2)->IS W (.slice (some ⟨g3,0,none⟩) q.length c3) q):=hid fun W hW=>qW (qC HO3.out fun b hb=>by
  have e:g3=b:=by simpa[Value.ownBlock]using hb
  subst e;rw[hW,Array.getElem?_eq_getElem hg3.2])
 generalize w3.heap[g3]'hg3.2=PB at HJ3 HQI;clear hO3 hB3 KPt e0 e1;go_upto_region 13 with (first|(go_at_call 73;refine KSk.out.mono ?_;rintro e w4 ⟨k,rfl,hSk,dq,rfl⟩)|fail)
 have HJ4:=hid (HJ3.out dq);generalize w3.drewN dq=W4 at HJ4 ⊢;obtain⟨R,hR⟩:∃R,R=f.rows:=⟨_,rfl⟩;obtain⟨nr,hnr⟩:∃nr,nr=f.rows.length:=⟨_,rfl⟩;have HRR:=hid hR;have HNR:Hid (nr=R.length):=hid (by rw[hR];exact hnr);have hkr:k<=nr:=by rw[hnr];exact hSk.le
 rw[<-hR]at HSL HRL hSk KSk;have HR1:Hid (ISSc w (.slice a1 nr cc1) R):=hid (by rw[hR,hnr];exact HR0.out);have hnr1:nr<=100000:=by omega
 rw[<-hnr];have HSK:=hid hSk
 have HPOST:Hid (∀m,Run R q k m->(k+m < nr->(R.getD (k+m) []).take q.length≠q)->((VA R q k m).filter fun x=>zw o ss p x ns)=AN):=hid fun m h1 h2=>by
  obtain⟨e1,e2⟩:=qCA HSL.out HSK.out h1 (by have:=HNR.out;rw[<-this];exact h2);rw[HAN.out,<-HRR.out,<-e1,<-e2,HN.out.2.2]
 clear hR hnr hSk KSk HR3 HRf HR0 HJ3 HB3 HO3 HIq;go_upto_block 2 with fail
 go_wp2_with fail
 go_loopg [8,15] (nr - k) (fun gk v8 v15 wx=>∃(m g c lk:Nat),k+m<=nr/\v15=.int .i64 ((k+m:Nat):Int)/\v8=.slice (some ⟨g,0,none⟩) lk c/\lk<=m/\gk=nr - (k+m)/\Hid (Run R q k m/\lk=((VA R q k m).filter fun x=>zw o ss p x ns).length/\JN w wx g3 PB g c lk ((VA R q k m).filter fun x=>zw o ss p x ns)))
 case atStart=>exact⟨0,w.heap.size,0,0,hkr,by rfl,rfl,nR _,by omega,hid ⟨⟨by have:=HNR.out;omega,fun j hj=>by omega⟩,rfl,HJ4.out⟩⟩
 case round=>
  clear HJ4;obtain⟨m,g,c,lk,hkm,rfl,rfl,hlk,hgk,HI⟩:=hrel;generalize wr=wo at *;obtain⟨hRun,hlkE,hJN⟩:=HI.out;have HRun:=hid hRun;have HLK:=hid hlkE;have HJN:=hid hJN;clear HI hRun hlkE hJN;by_cases hat:k+m < nr
  ·have q1:((k+m:Nat):Int) < (nr:Int):=by omega
   obtain⟨aR,cR,eR,hcR⟩:=HR1.out;simp only[Value.slice.injEq]at eR;obtain⟨rfl,-,rfl⟩:=eR;rcases hcR with h0|⟨bR,oR,rfl,hcR⟩
   ·have:=HNR.out;omega
   obtain⟨u,hu,⟨au,cu,rfl,huc⟩,hcap⟩:=hcR (k+m) (by have:=HNR.out;omega);have hrm:R.getD (k+m) []∈R:=by rw[gD,gE (by have:=HNR.out;omega)];exact gM _
   have hrl:=HRL.out _ hrm;rcases huc with h0|⟨bU,oU,rfl,huc⟩
   ·omega
   have hcu:(R.getD (k+m) []).length<=cu:=by obtain⟨_,_,_,e9,h9⟩:=hcap;simp only[Value.slice.injEq]at e9;omega
   have HCR:=hid hcR;obtain⟨lr,hlr⟩:∃lr,lr=(R.getD (k+m) []).length:=⟨_,rfl⟩;have hu2:wo.cell? ⟨bR,oR+(k+m),none⟩=some (.slice (some ⟨bU,oU,none⟩) lr cu):=by rw[hlr];exact upJ HJN.out.bel hu
   have KCmp:Hid (∀W,W.heap[g3]?=some PB->Bl w W->Cl 71 #[.slice (some ⟨bU,oU,none⟩) q.length cu,.slice (some ⟨g3,0,none⟩) q.length c3] W fun e w'=>e=.returned (.int .i64 (qD ((R.getD (k+m) []).take q.length) q))/\∃d,w'=W.drewN d):=hid fun W h1 h2=>qy W _ _ _ _ (Xi ((show IS w (.slice (some ⟨bU,oU,none⟩) (R.getD (k+m) []).length cu) (R.getD (k+m) []) from ⟨_,_,rfl,Or.inr ⟨bU,oU,rfl,huc⟩⟩).below h2) (by omega)) (HQI.out W h1) (by rw[bQ];omega) (by omega);have cX:wo.cell? ⟨bU,oU+q.length,none⟩=some (.int .i64 (vlA R q (k+m))):=upJ HJN.out.bel (huc q.length (by omega));have hql2:(q.length:Int) < (lr:Int):=by omega
   have hql3:(q.length:Int)<=(cu:Int):=by omega
   clear hcR hcap hu huc hlr hcu hrl;by_cases hz:(R.getD (k+m) []).take q.length=q
   ·rw[hz,zr]at KCmp;have HZ:=hid hz;clear hz;have KC1:=hid (KCmp.out wo HJN.out.prt HJN.out.bel);clear KCmp;go_upto_if 74 with (first|(go_at_call 71;refine KC1.out.mono ?_;rintro e w5 ⟨rfl,d5,rfl⟩)|fail)
    have HJ5:=hid (HJN.out.below (below_drewN (bI _ _) d5));have cX5:(wo.drewN d5).cell? ⟨bU,oU+q.length,none⟩=some (.int .i64 (vlA R q (k+m))):=cX;have hu5:(wo.drewN d5).cell? ⟨bR,oR+(k+m),none⟩=some (.slice (some ⟨bU,oU,none⟩) lr cu):=hu2;generalize wo.drewN d5=W5 at HJ5 cX5 hu5 ⊢
    have hRun2:Run R q k (m+1):=⟨by have:=HNR.out;omega,fun j hj=>by
     by_cases e:j=m
     ·subst e;exact HZ.out
     ·exact HRun.out.beg j (by omega)⟩
    have HRun2:=hid hRun2;obtain⟨x,hx⟩:∃x,x=vlA R q (k+m):=⟨_,rfl⟩;have HX:=hid hx;rw[<-hx]at cX5;obtain⟨nw,hnw⟩:∃nw,nw=kc R q k m:=⟨_,rfl⟩;have HNW:=hid hnw
    have HPR:Hid (0 < m->∃bP oP lp cp y,W5.cell? ⟨bR,oR+(k+m - 1),none⟩=some (.slice (some ⟨bP,oP,none⟩) lp cp)/\q.length < lp/\W5.cell? ⟨bP,oP+q.length,none⟩=some (.int .i64 y)/\(y == x)=!nw):=hid fun hm=>by
     obtain⟨u',hu',⟨au',cu',rfl,huc'⟩,-⟩:=HCR.out (k+m - 1) (by have:=HNR.out;omega);have hrm':R.getD (k+m - 1) []∈R:=by rw[gD,gE (by have:=HNR.out;omega)];exact gM _
     have hrl':=HRL.out _ hrm';rcases huc' with h0|⟨bP,oP,rfl,huc'⟩
     ·omega
     ·refine⟨bP,oP,_,cu',vlA R q (k+m - 1),upJ HJ5.out.bel hu',by omega,upJ HJ5.out.bel (huc' q.length (by omega)),?_⟩;rw[hnw,hx];unfold kc;rw[decide_eq_false (show ¬m=0 by omega),Bool.false_or,Bool.not_not];rfl
    clear cX hu2 KC1 hRun2 hx hnw HCR;go_upto_region 17 with fail
    clear cX5 hu5;go_cut [100] from 59 to 135 (fun u wx=>u=.bool (!nw)/\wx=W5)
    case first=>
     by_cases hm0:0 < m
     ·obtain⟨bP,oP,lp,cp,y,p1,p2,p3,p4⟩:=HPR.out hm0;have q3:(k:Int) < (k:Int)+(m:Int):=by omega
      have q4:(k:Int)+(m:Int) - 1=((k+m - 1:Nat):Int):=by omega
      have q5:((k+m - 1:Nat):Int) < (nr:Int):=by omega
      have q6:(q.length:Int) < (lp:Int):=by omega
      go_wp2_with fail
      go_meet;exact⟨by rw[<-p4],rfl⟩
     ·have q3:¬(k:Int) < (k:Int)+(m:Int):=by omega
      have hn1:nw=true:=by rw[HNW.out];unfold kc;rw[decide_eq_true (show m=0 by omega)];rfl
      subst hn1;go_wp2_with fail
      go_meet;exact⟨rfl,rfl⟩
    case rest=>
    obtain⟨rfl,hwc⟩:=hcut;subst wc;clear HPR;cases nw
    ·have HVA:Hid (VA R q k (m+1)=VA R q k m):=hid (by unfold VA;rw[Xk HNW.out.symm]);go_wp2_with fail
     go_roundg (nr - (k+(m+1)))
     case measure=>omega
     case rel=>exact⟨m+1,g,c,lk,by omega,by go_num,rfl,by omega,rfl,hid ⟨HRun2.out,by rw[HVA.out];exact HLK.out,by rw[HVA.out];exact HJ5.out⟩⟩
    ·have HVA:Hid (VA R q k (m+1)=VA R q k m++[x]):=hid (by unfold VA;rw[Ud HNW.out.symm,mA,HX.out];rfl);go_upto_block 4 with fail
     go_cut [17] from 59 to 135 (fun u wx=>u=.bool (zw o ss p x ns)/\Hid (Bl W5 wx))
     case first=>
      go_wp2_with fail
      go_loopw [17,103] (fun v17 t wy=>∃j:Nat,j<=ns/\t=.int .i64 j/\v17=.bool (zw o ss p x j)/\Hid (Bl W5 wy)) (fun _ t _=>ns - (intOf t).toNat)
      case atStart=>exact⟨0,nZ _,rfl,by rw[HA0.out x],hid (bI _ _)⟩
      case round=>
       obtain⟨j,hjn,rfl,rfl,HB⟩:=hrel;generalize wr=wy at *;by_cases hlt:j < ns
       ·have j1:(j:Int) < (ns:Int):=by omega
        obtain⟨b0,d0,b1,d1,e0,e1,e2,e3⟩:=HS.out j hlt;have hbw:=bt HJ5.out.bel HB.out;replace e0:=upJ hbw e0;replace e1:=upJ hbw e1;have HAS:=hid (HAT.out x j);obtain⟨⟨hsl,hrl⟩,hrb,hvb⟩:=HOK.out _ (HGM.out j hlt);obtain⟨hq0,hq1⟩:=HCN.out _ (HGM.out j hlt);have HKh:=hid fun W (hW:Bl wy W)=>KH.out W b0 d0 j hlt (e2.below (bt hbw hW));generalize hsd:ss.getD j qV=sd at *;generalize hal:zw o ss p x j=al at *;obtain⟨hy,hhy⟩:∃hy,hy=qN o sd.vars n:=⟨_,rfl⟩;rw[<-hhy]at HAS HKh;have HHY:=hid hhy;have HSD:=hid hsd;clear hhy hsd hal;obtain⟨W6,hW6⟩:∃W6,W6=wy.alloc (.cells #[.slice b0 sd.vars.length d0,.slice b1 sd.rows.length d1] 94):=⟨_,rfl⟩;have hb6:Bl wy W6:=by rw[hW6];exact(bI _ _).alloc (nR _) _
        have f0:W6.cell? ⟨wy.heap.size,0,none⟩=some (.slice b0 sd.vars.length d0):=by rw[hW6];exact(Kz _ _ _).2.1
        have f1:W6.cell? ⟨wy.heap.size,1,none⟩=some (.slice b1 sd.rows.length d1):=by rw[hW6];exact(Kz _ _ _).2.2
        have HB6:=hid (bt HB.out hb6);have HK6:=hid (HKh.out W6 hb6);go_upto_region 22 with fail
        rw[<-hW6];clear hW6 e0 e1 HKh;by_cases hjF:j=F
        ·have q7:((j:Int) != (F:Int))=false:=by simp;omega
         have hnext:zw o ss p x (j+1)=al:=by rw[HAS.out,decide_eq_true hjF];simp
         have HNX:=hid hnext;clear hnext hjF HK6;go_wp2_with fail
         go_roundw
         case rel=>first|exact⟨j+1,by omega,by go_num,by rw[HNX.out],HB6⟩|((repeat apply Exists.intro);exact⟨⟨j+1,by omega,by go_num,by rw[HNX.out],HB6⟩,rfl⟩)
         case measure=>simp[intOf];omega
        ·have q7:((j:Int) != (F:Int))=true:=by simp;omega
         cases hy
         ·have hnext:zw o ss p x (j+1)=al:=by rw[HAS.out];simp
          have HNX:=hid hnext;clear hnext hjF;go_wp2_with (first|(go_at_call 46;refine HK6.out.mono ?_;rintro e w7 ⟨rfl,hw7⟩;subst w7)|fail)
          go_roundw
          case rel=>first|exact⟨j+1,by omega,by go_num,by rw[HNX.out],HB6⟩|((repeat apply Exists.intro);exact⟨⟨j+1,by omega,by go_num,by rw[HNX.out],HB6⟩,rfl⟩)
          case measure=>simp[intOf];omega
         ·have HI6:=hid (e2.below (bt hbw hb6));have HR6:=hid (e3.below (bt hbw hb6));have HO6:=hid (HO.out.below (bt hbw hb6));have HP6:=hid (HP.out.below (bt hbw hb6));obtain⟨pq,hpq⟩:∃pq,pq=prt (qN o sd.vars) p:=⟨_,rfl⟩;rw[<-hpq]at HAS hq0 hq1;have hpq1:pq.length < sd.vars.length:=hq1 (by have:=HHY.out;rw[HN.out.1]at this;exact this.symm);have hpq2:pq.length<=1000:=by omega
          have KPj:Hid (∀W,Bl W6 W->Cl 72 #[.agg #[.slice b0 sd.vars.length d0,.slice b1 sd.rows.length d1],.slice (some ⟨bo,qo,none⟩) no co,.slice ap n cp0] W fun e w'=>∃g c,e=.returned (.slice (some ⟨g,0,none⟩) pq.length c)/\w'.ownsRow W.heap.size 3 1 (.slice (some ⟨g,0,none⟩) pq.length c) pq.length (pq.map (Value.int .i64))/\Bl W w'):=hid fun W hW=>by
           have:=kg W b0 b1 sd.rows.length d0 d1 _ _ sd.vars o p (HI6.out.below hW) (HO6.out.below hW) (HP6.out.below hW) (by have:=HN.out;omega) (by have:=HN.out;omega) hvb;rw[<-HN.out.1,<-HN.out.2.1,<-hpq]at this;exact this
          have KBj:Hid (∀W vq,Bl W6 W->IS W vq (pq++[x])->Cl 74 #[.slice b1 sd.rows.length d1,vq] W fun e w'=>e=.returned (.bool (yQ sd.rows (pq++[x])))/\∃d,w'=W.drewN d):=hid fun W vq hW hI=>Xj W _ _ sd.rows _ (HR6.out.below hW) hI hsl (by omega) (fun r hr=>by have:=hrl r hr;rw[lA,lS];omega);have hnext:zw o ss p x (j+1)=(al&&yQ sd.rows (pq++[x])):=by rw[HAS.out,decide_eq_false hjF];simp
          have HNX:=hid hnext;clear hnext hjF HAS hq0 hq1 hpq HI6 HR6 HO6 HP6 hsl hrl e2 e3;generalize yQ sd.rows (pq++[x])=bg at *;go_upto_region 23 with (first|(go_at_call 46;refine HK6.out.mono ?_;rintro e w7 ⟨rfl,hw7⟩;subst w7)|fail)
          cases al
          ·clear KPj KBj;go_quiet (fail)
           go_wp2_with fail
           go_roundw
           case rel=>first|exact⟨j+1,by omega,by go_num,by rw[HNX.out];rfl,hid (below_drewN HB6.out _)⟩|((repeat apply Exists.intro);exact⟨⟨j+1,by omega,by go_num,by rw[HNX.out];rfl,hid (below_drewN HB6.out _)⟩,rfl⟩)
           case measure=>simp[intOf];omega
          ·have HSS:Hid (∀W,Bl W6 W->W.cell? ⟨wy.heap.size,0,none⟩=some (.slice b0 sd.vars.length d0)/\W.cell? ⟨wy.heap.size,1,none⟩=some (.slice b1 sd.rows.length d1)/\Bl W6 W):=hid fun W hW=>⟨upJ hW f0,upJ hW f1,hW⟩
           first|go_region_held_law (fun W=>W.cell? ⟨wy.heap.size,0,none⟩=some (.slice b0 sd.vars.length d0)/\W.cell? ⟨wy.heap.size,1,none⟩=some (.slice b1 sd.rows.length d1)/\Bl W6 W)
            (first
             |with_reducible exact HSS.out _ (bI _ _).drew
             |with_reducible exact HSS.out _ ((bI _ _).alloc (nR _) _).drew
             |with_reducible exact HSS.out _ hB9
             |with_reducible exact HSS.out _ hB8
             |with_reducible exact HSS.out _ hB7
             |with_reducible exact HSS.out _ (hB7.alloc hs7 _)
             |fail)
            (first
             |(refine j8 _ (by rfl) _ _ 24 rfl W6.heap.size 3 i0 (.int .i64 0) 1 8 Tryz.underlying24 hi hz0 hz1 hz2 rfl (by decide) (.slice (some ⟨g7,0,none⟩) pq.length c7) pq.length _ rfl (hO7.alloc _) ⟨w7.heap.size,0,none⟩ 1 1 [.int .i64 x] rfl rfl (qH _ _ _) (fun u hu=>by simp at hu;subst hu;rfl) (by decide) (by unfold maxLen;omega) (by omega) (by rw[World.size_alloc];omega) _ rfl ?_;intro g8 c8 w8 hO8 hG8 hA8 hL8;have hB8:Bl W6 w8:=(hB7.alloc hs7 _).grown hG8 (by rw[World.size_alloc];omega) (fun q hq=>(hO7.lt q hq).1))
             |(refine j8 _ (by rfl) _ _ 24 rfl W6.heap.size 3 i0 (.int .i64 0) 1 8 Tryz.underlying24 hi hz0 hz1 hz2 rfl (by decide) (.slice (some ⟨g7,0,none⟩) pq.length c7) pq.length _ rfl hO7 ⟨W6.heap.size,0,none⟩ 1 1 [.int .i64 x] rfl rfl hlit (fun u hu=>by simp at hu;subst hu;rfl) (by decide) (by unfold maxLen;omega) (by omega) hs7 _ rfl ?_;intro g8 c8 w8 hO8 hG8 hA8 hL8;have hB8:Bl W6 w8:=hB7.grown hG8 hs7 (fun q hq=>(hO7.lt q hq).1))
             |(go_simp;go_at_call 72;(with_reducible refine(KPj.out _ (bI _ _).drew).mono ?_);rintro e w7 ⟨g7,c7,rfl,hO7',hB7'⟩;have hB7:Bl W6 w7:=(bI _ _).drew.trans hB7';have hO7:=qF (B':=W6.heap.size) hO7' (nR _);have hs7:=hB7.size)
             |(go_simp;go_at_call 72;(with_reducible refine(KPj.out _ ((bI _ _).alloc (nR _) _).drew).mono ?_);rintro e w7 ⟨g7,c7,rfl,hO7',hB7'⟩;have hB7:Bl W6 w7:=((bI _ _).alloc (nR _) _).drew.trans (hB7'.mono (by simp));have hO7:=qF (B':=W6.heap.size) hO7' (by simp);have hs7:=hB7.size;have hlit:∀jj u,[Value.int .i64 x][jj]?=some u->w7.cell? ((⟨W6.heap.size,0,none⟩:Addr).add jj)=some u:=(fun jj u hu=>qCE hB7' (qH W6 (.int .i64 x) _ jj u hu)))
             |(go_simp;go_at_call 74;refine(KBj.out _ _ hB8 (qDM hO8)).mono ?_;rintro e w9 ⟨rfl,dd,rfl⟩;have hB9:=below_drewN hB8 dd)
             |fail)|fail
           all_goals(go_wp2_with fail;go_roundw)
           all_goals first
            |exact⟨j+1,by omega,by go_num,by rw[HNX.out];rfl,hid (bt HB6.out hB9)⟩
            |((repeat apply Exists.intro);exact⟨⟨j+1,by omega,by go_num,by rw[HNX.out];rfl,hid (bt HB6.out hB9)⟩,rfl⟩)
            |(simp[intOf];omega)
       ·obtain rfl:j=ns:=by omega
        have j1:¬(j:Int) < (j:Int):=by omega
        go_wp2_with fail
        go_meet;exact⟨rfl,HB⟩
     case rest=>
     obtain⟨rfl,hcut⟩:=hcut;have HJ6:=hid (HJ5.out.below hcut.out);have hsz6:=HJ6.out.bel.size;clear hcut HJ5;generalize hal:zw o ss p x ns=al at *;have HAL:=hid hal;clear hal;cases al
     ·have HLL:Hid ((VA R q k (m+1)).filter (fun y=>zw o ss p y ns)=(VA R q k m).filter fun y=>zw o ss p y ns):=hid (by rw[HVA.out,List.filter_append];simp[HAL.out]);go_wp2_with fail
      go_roundg (nr - (k+(m+1)))
      case measure=>omega
      case rel=>exact⟨m+1,g,c,lk,by omega,by go_num,rfl,by omega,rfl,hid ⟨HRun2.out,by rw[HLL.out];exact HLK.out,by rw[HLL.out];exact HJ6.out⟩⟩
     ·have HLL:Hid ((VA R q k (m+1)).filter (fun y=>zw o ss p y ns)=((VA R q k m).filter fun y=>zw o ss p y ns)++[x]):=hid (by rw[HVA.out,List.filter_append];simp[HAL.out]);have hlk2:lk<=100000:=by omega
      go_wp2_with (first
       |(at_builtin;refine wpList_append_lies _ rfl _ _ 24 rfl w.heap.size 3 i0 (.int .i64 0) 1 8 Tryz.underlying24 hi hz0 hz1 hz2 rfl (by decide) (.slice (some ⟨g,0,none⟩) lk c) _ _ rfl (HJ6.out.own.alloc _) ⟨_,0,none⟩ 1 1 [.int .i64 x] rfl rfl (qH _ _ _) (fun u hu=>by simp at hu;subst hu;rfl) (by decide) (by unfold maxLen;omega) (by omega) (by rw[World.size_alloc];omega) _ rfl ?_;intro g9 cp9 w9 hown9 hgrow9 hat9 hlt9)
       |fail)
      have HZ9:=hid (HJ6.out.push hgrow9 hown9 hat9);clear hown9 hgrow9 hat9 hlt9;go_roundg (nr - (k+(m+1)))
      case measure=>omega
      case rel=>exact⟨m+1,g9,cp9,lk+1,by omega,by go_num,rfl,by omega,rfl,hid ⟨HRun2.out,by rw[HLL.out,lA,<-HLK.out];rfl,by rw[HLL.out];exact HZ9.out⟩⟩
   ·have hcz:qD ((R.getD (k+m) []).take q.length) q≠0:=fun e=>hz (xh e);have HFin:=hid (HPOST.out m HRun.out (fun _=>hz));have KC1:=hid (KCmp.out wo HJN.out.prt HJN.out.bel);generalize qD ((R.getD (k+m) []).take q.length) q=cv at *;have q2:(cv == 0)=false:=by simp;exact hcz
    clear HPOST KCmp hz;go_wp2_with (first|(go_at_call 71;refine KC1.out.mono ?_;rintro e w5 ⟨rfl,d5,rfl⟩)|fail)
    go_ret;have hJ5:=HJN.out.below (below_drewN (bI _ _) d5);have h9:=hJ5.own;rw[HFin.out]at h9;have h8:=HLK.out;rw[HFin.out]at h8;exact⟨g,c,by rw[<-h8];rfl,by rw[<-h8];exact h9,hJ5.bel⟩
  ·have q1:¬(((k+m:Nat):Int) < (nr:Int)):=by omega
   have HFin:=hid (HPOST.out m HRun.out (fun h=>absurd h hat));clear HPOST;go_wp2_with fail
   go_ret;have h9:=HJN.out.own;rw[HFin.out]at h9;have h8:=HLK.out;rw[HFin.out]at h8;exact⟨g,c,by rw[<-h8];rfl,by rw[<-h8];exact h9,HJN.out.bel⟩
end Go.Proofs.YtjbpgdpciinlcaaGreat
